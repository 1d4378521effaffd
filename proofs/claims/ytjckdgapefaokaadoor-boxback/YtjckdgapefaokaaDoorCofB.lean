/- What parted and check answer, or throw. No condition but those that each lemma names. -/
import Derived.Test.YtjckdgapefaokaaDoorKEqual
import Derived.Test.YtjckdgapefaokaaDoorCofD
namespace Go.Proofs.YtjckdgapefaokaaDoor
open Go.RowKit

set_option maxRecDepth 100000 in
set_option maxHeartbeats 1000000 in
theorem parted_short (w : World) (xo : Option Addr) (cx m : Nat) (hm : m < 16) :
    Calls Tryd.prog 66 #[.slice xo m cx] w fun e w' => (∃ s, e = .panicked [{ v := .iface 25 s, recovered := false }]) ∧ w.grownBy w' none := by
  have q3 : (m : Int) < 16 := by omega
  go_enter Tryd.func66, Tryd.ntmps66
  go_wp2
  exact ⟨rfl, ⟨_, rfl⟩, gb_refl _ _⟩

set_option maxRecDepth 100000 in
set_option maxHeartbeats 1000000 in
theorem parted_any (w : World) (xo : Option Addr) (cx a : Nat) (hc : a + 16 ≤ cx) (hb : a ≤ 100000) :
    Calls Tryd.prog 66 #[.slice xo (a + 16) cx] w fun e w' => e = .returned (.tuple #[.slice xo a cx, .slice (cutA xo cx a) 16 (cx - a)]) ∧ w.grownBy w' none := by
  obtain ⟨m, hm⟩ : ∃ m, m = a + 16 := ⟨_, rfl⟩
  have hto := fun W => slice_to (P := Tryd.prog) W 22 5 Tryd.underlying22 size_byte xo m cx a (by omega)
  have hfr := fun W => slice_from (P := Tryd.prog) W 22 5 Tryd.underlying22 size_byte xo m cx a (by omega)
  rw [show m - a = 16 by omega] at hfr
  have q3 : ¬ (m : Int) < 16 := by omega
  have q1 : (m : Int) - 16 = (a : Int) := by omega
  have q2 : IntKind.i64.wrap (a : Int) = (a : Int) := by rw [IntKind.wrap_i64]; omega
  rw [← hm]
  clear hm hc hb
  go_enter Tryd.func66, Tryd.ntmps66
  go_wp2
  go_quiet (fail)
  go_wp2
  go_ret2
  exact ⟨rfl, gb_drewN (gb_refl _ _) _⟩

set_option maxRecDepth 100000 in
set_option maxHeartbeats 1000000 in
theorem check_same (w : World) (T : List UInt8) (hT : T.length = 16) (ao : Option Addr) (c : Nat) (hy : Bts w ao c T) :
    Calls Tryd.prog 67 #[.agg (T.map bv).toArray, .slice ao 16 c] w fun e w' => e = .returned (.tuple #[]) ∧ w.grownBy w' none := by
  have hg1 := gb_alloc (gb_refl w none) (.cells (T.map bv).toArray 93)
  have hB1 := Blk.new w 93 (T.map bv)
  have he := equal_any _ (some ⟨w.heap.size, 0, none⟩) ao 16 c T T (blk_bytes hB1 16 (by omega) (by decide)) (hy.kept hg1 (fun _ e => by cases e))
  rw [hT, decide_eq_true rfl] at he
  have slT : ∀ (p : Nat) (W : World), (Instr.sliceAt 93 (.pointer (some ⟨p, 0, none⟩)) none none none).run Tryd.prog W = .ok (.slice (some ⟨p, 0, none⟩) 16 16) W := fun p W => slice_whole5 93 5 16 Tryd.underlying93 size_byte p 0 (by omega) W
  obtain ⟨TA, hTA⟩ : ∃ A : Array Value, A = (T.map bv).toArray := ⟨_, rfl⟩
  rw [← hTA] at he hg1 ⊢
  obtain ⟨W1, hW1⟩ : ∃ W1, W1 = w.alloc (.cells TA 93) := ⟨_, rfl⟩
  rw [← hW1] at he hg1
  have HW1 := hide hW1
  clear hTA hW1 hB1 hy hT
  go_enter Tryd.func67, Tryd.ntmps67
  go_wp2_with (go_at_call 91; rw [← unhide HW1]; refine he.mono ?_; rintro e w2 ⟨rfl, rfl⟩; clear he)
  go_end0
  exact ⟨rfl, hg1⟩

set_option maxRecDepth 100000 in
set_option maxHeartbeats 1000000 in
theorem check_other (w : World) (T y : List UInt8) (hT : T.length = 16) (ao : Option Addr) (c : Nat) (hy : Bts w ao c y) (hl : y.length = 16) (hne : T ≠ y) :
    Calls Tryd.prog 67 #[.agg (T.map bv).toArray, .slice ao 16 c] w fun e w' => (∃ s, e = .panicked [{ v := .iface 25 s, recovered := false }]) ∧ w.grownBy w' none := by
  have hg1 := gb_alloc (gb_refl w none) (.cells (T.map bv).toArray 93)
  have hB1 := Blk.new w 93 (T.map bv)
  have he := equal_any _ (some ⟨w.heap.size, 0, none⟩) ao 16 c T y (blk_bytes hB1 16 (by omega) (by decide)) (hy.kept hg1 (fun _ e => by cases e))
  rw [hT, hl, decide_eq_false hne] at he
  have slT : ∀ (p : Nat) (W : World), (Instr.sliceAt 93 (.pointer (some ⟨p, 0, none⟩)) none none none).run Tryd.prog W = .ok (.slice (some ⟨p, 0, none⟩) 16 16) W := fun p W => slice_whole5 93 5 16 Tryd.underlying93 size_byte p 0 (by omega) W
  obtain ⟨TA, hTA⟩ : ∃ A : Array Value, A = (T.map bv).toArray := ⟨_, rfl⟩
  rw [← hTA] at he hg1 ⊢
  obtain ⟨W1, hW1⟩ : ∃ W1, W1 = w.alloc (.cells TA 93) := ⟨_, rfl⟩
  rw [← hW1] at he hg1
  have HW1 := hide hW1
  clear hTA hW1 hB1 hy hT hl hne
  go_enter Tryd.func67, Tryd.ntmps67
  go_wp2_with (go_at_call 91; rw [← unhide HW1]; refine he.mono ?_; rintro e w2 ⟨rfl, rfl⟩; clear he)
  exact ⟨rfl, ⟨_, rfl⟩, hg1⟩

end Go.Proofs.YtjckdgapefaokaaDoor

/- The sums that come behind the text 'coffret', number 22 to 43, reckoned. No condition. -/
namespace Go.Proofs.YtjckdgapefaokaaDoor

def cof22 : List Nat := [227, 202, 67, 220, 36, 99, 115, 45, 30, 125, 46, 129, 78, 219, 233, 194, 83, 8, 94, 242, 111, 188, 178, 188, 143, 86, 91, 142, 154, 171, 123, 204]
set_option maxRecDepth 100000 in
theorem cof22_eq : shaL (cofS ++ lb 22 8) = cof22.map UInt8.ofNat := by kernel_rfl
def cof23 : List Nat := [179, 25, 151, 244, 102, 5, 26, 211, 231, 68, 180, 216, 248, 209, 202, 76, 79, 191, 161, 217, 30, 117, 170, 209, 213, 58, 131, 237, 83, 91, 138, 80]
set_option maxRecDepth 100000 in
theorem cof23_eq : shaL (cofS ++ lb 23 8) = cof23.map UInt8.ofNat := by kernel_rfl
def cof24 : List Nat := [219, 31, 132, 123, 222, 108, 144, 40, 217, 80, 186, 188, 156, 53, 35, 146, 131, 5, 81, 184, 151, 15, 86, 208, 232, 26, 130, 177, 206, 130, 169, 202]
set_option maxRecDepth 100000 in
theorem cof24_eq : shaL (cofS ++ lb 24 8) = cof24.map UInt8.ofNat := by kernel_rfl
def cof25 : List Nat := [71, 223, 142, 143, 98, 75, 213, 184, 131, 95, 30, 202, 182, 29, 143, 155, 83, 63, 103, 0, 231, 218, 226, 1, 32, 25, 53, 30, 174, 168, 233, 253]
set_option maxRecDepth 100000 in
theorem cof25_eq : shaL (cofS ++ lb 25 8) = cof25.map UInt8.ofNat := by kernel_rfl
def cof26 : List Nat := [245, 38, 37, 18, 230, 185, 114, 207, 194, 105, 193, 159, 110, 152, 94, 65, 190, 103, 172, 103, 238, 4, 236, 18, 222, 133, 227, 47, 49, 238, 190, 93]
set_option maxRecDepth 100000 in
theorem cof26_eq : shaL (cofS ++ lb 26 8) = cof26.map UInt8.ofNat := by kernel_rfl
def cof27 : List Nat := [5, 98, 44, 242, 233, 222, 123, 91, 167, 220, 73, 67, 198, 45, 221, 224, 230, 123, 159, 200, 143, 63, 77, 40, 243, 236, 119, 30, 248, 44, 50, 127]
set_option maxRecDepth 100000 in
theorem cof27_eq : shaL (cofS ++ lb 27 8) = cof27.map UInt8.ofNat := by kernel_rfl
def cof28 : List Nat := [43, 248, 105, 123, 31, 229, 67, 145, 196, 39, 24, 221, 227, 46, 80, 121, 193, 36, 113, 135, 133, 44, 31, 145, 223, 111, 82, 69, 126, 103, 77, 120]
set_option maxRecDepth 100000 in
theorem cof28_eq : shaL (cofS ++ lb 28 8) = cof28.map UInt8.ofNat := by kernel_rfl
def cof29 : List Nat := [94, 75, 37, 49, 242, 224, 181, 18, 70, 127, 190, 255, 224, 231, 41, 135, 91, 199, 197, 117, 151, 171, 228, 225, 186, 23, 196, 84, 251, 52, 112, 192]
set_option maxRecDepth 100000 in
theorem cof29_eq : shaL (cofS ++ lb 29 8) = cof29.map UInt8.ofNat := by kernel_rfl
def cof30 : List Nat := [90, 0, 108, 123, 38, 12, 143, 249, 237, 129, 207, 218, 87, 167, 244, 87, 11, 14, 204, 30, 82, 79, 191, 187, 64, 89, 186, 31, 48, 217, 67, 19]
set_option maxRecDepth 100000 in
theorem cof30_eq : shaL (cofS ++ lb 30 8) = cof30.map UInt8.ofNat := by kernel_rfl
def cof31 : List Nat := [150, 219, 161, 45, 42, 92, 159, 11, 11, 147, 99, 118, 88, 54, 86, 241, 41, 100, 221, 20, 81, 2, 61, 72, 149, 23, 90, 144, 19, 237, 247, 236]
set_option maxRecDepth 100000 in
theorem cof31_eq : shaL (cofS ++ lb 31 8) = cof31.map UInt8.ofNat := by kernel_rfl
def cof32 : List Nat := [71, 103, 126, 19, 37, 80, 217, 146, 91, 230, 152, 27, 239, 250, 14, 69, 199, 44, 30, 111, 200, 77, 28, 60, 52, 33, 99, 50, 29, 79, 60, 175]
set_option maxRecDepth 100000 in
theorem cof32_eq : shaL (cofS ++ lb 32 8) = cof32.map UInt8.ofNat := by kernel_rfl
def cof33 : List Nat := [111, 138, 24, 73, 174, 250, 197, 123, 90, 184, 235, 129, 250, 132, 130, 60, 201, 240, 1, 123, 130, 49, 146, 146, 67, 48, 33, 70, 222, 194, 203, 100]
set_option maxRecDepth 100000 in
theorem cof33_eq : shaL (cofS ++ lb 33 8) = cof33.map UInt8.ofNat := by kernel_rfl
def cof34 : List Nat := [26, 113, 238, 208, 231, 243, 136, 211, 137, 31, 109, 113, 2, 193, 93, 91, 8, 134, 18, 211, 159, 110, 91, 247, 227, 5, 157, 115, 126, 172, 6, 34]
set_option maxRecDepth 100000 in
theorem cof34_eq : shaL (cofS ++ lb 34 8) = cof34.map UInt8.ofNat := by kernel_rfl
def cof35 : List Nat := [226, 146, 98, 105, 59, 84, 240, 42, 134, 4, 3, 245, 165, 253, 150, 166, 167, 193, 253, 167, 244, 52, 60, 3, 5, 169, 56, 22, 128, 14, 139, 249]
set_option maxRecDepth 100000 in
theorem cof35_eq : shaL (cofS ++ lb 35 8) = cof35.map UInt8.ofNat := by kernel_rfl
def cof36 : List Nat := [103, 160, 164, 56, 94, 196, 72, 20, 62, 236, 114, 51, 230, 5, 112, 218, 117, 140, 254, 248, 42, 148, 54, 210, 170, 1, 200, 133, 30, 243, 69, 143]
set_option maxRecDepth 100000 in
theorem cof36_eq : shaL (cofS ++ lb 36 8) = cof36.map UInt8.ofNat := by kernel_rfl
def cof37 : List Nat := [212, 217, 231, 106, 8, 103, 106, 100, 11, 223, 156, 48, 24, 220, 67, 186, 130, 175, 9, 155, 53, 225, 142, 31, 177, 145, 65, 93, 86, 142, 126, 107]
set_option maxRecDepth 100000 in
theorem cof37_eq : shaL (cofS ++ lb 37 8) = cof37.map UInt8.ofNat := by kernel_rfl
def cof38 : List Nat := [241, 4, 99, 218, 205, 192, 32, 46, 202, 223, 163, 50, 20, 108, 98, 224, 32, 19, 176, 82, 12, 132, 28, 241, 236, 239, 222, 98, 249, 3, 234, 170]
set_option maxRecDepth 100000 in
theorem cof38_eq : shaL (cofS ++ lb 38 8) = cof38.map UInt8.ofNat := by kernel_rfl
def cof39 : List Nat := [232, 190, 252, 58, 82, 5, 250, 166, 164, 21, 123, 9, 88, 101, 32, 102, 95, 93, 252, 10, 95, 137, 32, 242, 100, 113, 172, 34, 12, 62, 8, 101]
set_option maxRecDepth 100000 in
theorem cof39_eq : shaL (cofS ++ lb 39 8) = cof39.map UInt8.ofNat := by kernel_rfl
def cof40 : List Nat := [10, 82, 184, 234, 61, 12, 116, 61, 245, 236, 231, 6, 108, 61, 74, 211, 125, 200, 167, 253, 164, 161, 48, 216, 26, 179, 77, 96, 251, 214, 235, 218]
set_option maxRecDepth 100000 in
theorem cof40_eq : shaL (cofS ++ lb 40 8) = cof40.map UInt8.ofNat := by kernel_rfl
def cof41 : List Nat := [19, 223, 93, 134, 28, 162, 109, 125, 92, 243, 153, 92, 126, 18, 215, 58, 230, 185, 51, 146, 228, 195, 151, 75, 30, 43, 104, 134, 137, 173, 250, 46]
set_option maxRecDepth 100000 in
theorem cof41_eq : shaL (cofS ++ lb 41 8) = cof41.map UInt8.ofNat := by kernel_rfl
def cof42 : List Nat := [13, 240, 172, 254, 228, 59, 92, 198, 153, 184, 126, 23, 248, 168, 164, 239, 39, 100, 115, 152, 44, 131, 192, 29, 64, 220, 154, 168, 189, 116, 237, 158]
set_option maxRecDepth 100000 in
theorem cof42_eq : shaL (cofS ++ lb 42 8) = cof42.map UInt8.ofNat := by kernel_rfl
def cof43 : List Nat := [171, 19, 245, 186, 17, 70, 195, 135, 217, 176, 130, 115, 39, 49, 235, 186, 172, 71, 141, 198, 208, 147, 216, 78, 245, 43, 33, 217, 242, 92, 184, 149]
set_option maxRecDepth 100000 in
theorem cof43_eq : shaL (cofS ++ lb 43 8) = cof43.map UInt8.ofNat := by kernel_rfl

end Go.Proofs.YtjckdgapefaokaaDoor
