/- What a law meets of draws: Take of any number of bytes; and two letters, in memory of their own. No condition but those that each lemma names. -/
import Derived.Test.YtjckdgapefaokaaDoorDTake
import Derived.Test.YtjckdgapefaokaaDoorKEqual
import Derived.Lib.SlBytesConst
import Derived.Test.YtjckdgapefaokaaDoorCofD
namespace Go.Proofs.YtjckdgapefaokaaDoor
open Go.RowKit

theorem take_any (w : World) (b : Nat) (T : List UInt8) (us n : Nat) (h : SrcAt w b T us) (hT : Tabs w) (hn : n ≤ 65536) (hus : us ≤ 70368744177664) :
    Calls Tryd.prog 22 #[.pointer (some ⟨b, 0, none⟩), .int .i64 (n : Int)] w fun e w' => ∃ ao c, e = .returned (.slice ao n c) ∧ Bts w' ao c (told T us n) ∧ (∀ ad, ao = some ad → w.heap.size ≤ ad.block) ∧ SrcAt w' b T (us + n) ∧ w.grownBy w' (some b) := by
  by_cases h0 : n = 0
  · subst h0
    refine (take_few w b ((0 : Nat) : Int) (by omega)).mono ?_
    rintro e w' ⟨rfl, rfl⟩
    exact ⟨none, 0, rfl, Bts.nil _, (fun _ e => by cases e), h, gb_refl _ _⟩
  · refine (take_some w b T us n h.fit hT (by omega) hn hus).mono ?_
    rintro e w' ⟨g, rfl, hg, hB, hS, gg⟩
    exact ⟨_, _, rfl, blk_bytes hB n (by rw [told_length]; exact Nat.le_refl _) (by unfold maxLen; omega), (fun ad e => by cases e; exact hg), hS, gg⟩

theorem bts_new (V : World) (l : List UInt8) (mk : Nat × Nat) (h : l.length ≤ maxLen) : Bts (V.alloc (.cells (l.map bv).toArray 5 mk)) (some ⟨V.heap.size, 0, none⟩) l.length l := by
  refine ⟨(fun e => by cases e), Nat.le_refl _, h, (fun ad e _ => by cases e; rfl), (fun ad e i hi => ?_)⟩
  cases e
  show (V.alloc (.cells (l.map bv).toArray 5 mk)).cell? ⟨V.heap.size, 0 + i, none⟩ = _
  rw [Nat.zero_add, cell_of_row _ _ i _ _ _ (heap_alloc_new V _)]
  simp [hi, bv]

/-- A text of two letters, each in memory of its own. -/
theorem two_letters (w : World) : ∃ W3, W3 = ((w.alloc (.cells #[.int .u8 97] 5 (1, 2))).alloc (.cells #[.int .u8 98] 5 (1, 2))).alloc (.cells #[.slice (some ⟨w.heap.size, 0, none⟩) 1 1, .slice (some ⟨w.heap.size + 1, 0, none⟩) 1 1] 22) ∧
    Lst W3 (some ⟨w.heap.size + 2, 0, none⟩) 2 [[97], [98]] ∧ w.grownBy W3 none := by
  obtain ⟨W1, hW1⟩ : ∃ W1, W1 = w.alloc (.cells #[.int .u8 97] 5 (1, 2)) := ⟨_, rfl⟩
  obtain ⟨W2, hW2⟩ : ∃ W2, W2 = W1.alloc (.cells #[.int .u8 98] 5 (1, 2)) := ⟨_, rfl⟩
  rw [← hW1, ← hW2]
  have s1 : W1.heap.size = w.heap.size + 1 := by rw [hW1, World.size_alloc]
  have s2 : W2.heap.size = w.heap.size + 2 := by rw [hW2, World.size_alloc, s1]
  have b1 : Bts W1 (some ⟨w.heap.size, 0, none⟩) 1 [97] := by rw [hW1]; exact bts_new w [97] (1, 2) (by decide)
  have b2 : Bts W2 (some ⟨w.heap.size + 1, 0, none⟩) 1 [98] := by
    have := bts_new W1 [98] (1, 2) (by decide)
    rw [s1] at this
    rw [hW2]; exact this
  have g12 : W1.grownBy W2 none := by rw [hW2]; exact gb_alloc (gb_refl _ _) _
  have hN : Blk (W2.alloc (.cells #[.slice (some ⟨w.heap.size, 0, none⟩) 1 1, .slice (some ⟨w.heap.size + 1, 0, none⟩) 1 1] 22)) (w.heap.size + 2) 22 [.slice (some ⟨w.heap.size, 0, none⟩) 1 1, .slice (some ⟨w.heap.size + 1, 0, none⟩) 1 1] := by
    have := Blk.new W2 22 [.slice (some ⟨w.heap.size, 0, none⟩) 1 1, .slice (some ⟨w.heap.size + 1, 0, none⟩) 1 1]
    rw [s2] at this
    exact this
  have g23 := gb_alloc (gb_refl W2 none) (.cells #[.slice (some ⟨w.heap.size, 0, none⟩) 1 1, .slice (some ⟨w.heap.size + 1, 0, none⟩) 1 1] 22)
  refine ⟨_, rfl, lst_two hN ((b1.kept g12 (fun _ e => by cases e)).kept g23 (fun _ e => by cases e)) (b2.kept g23 (fun _ e => by cases e)), ?_⟩
  refine gb_alloc ?_ _
  rw [hW2, hW1]
  exact gb_alloc (gb_alloc (gb_refl _ _) _) _

end Go.Proofs.YtjckdgapefaokaaDoor

/- The sums that come behind the text 'coffret', number 0 to 21, reckoned. No condition. -/
namespace Go.Proofs.YtjckdgapefaokaaDoor

def cof0 : List Nat := [74, 150, 233, 77, 188, 197, 33, 165, 152, 218, 29, 227, 21, 113, 209, 4, 202, 136, 47, 248, 221, 193, 140, 133, 57, 136, 6, 9, 57, 19, 150, 230]
set_option maxRecDepth 100000 in
theorem cof0_eq : shaL (cofS ++ lb 0 8) = cof0.map UInt8.ofNat := by kernel_rfl
def cof1 : List Nat := [88, 8, 69, 238, 85, 195, 226, 253, 56, 230, 153, 131, 251, 122, 117, 88, 182, 237, 234, 50, 70, 90, 252, 231, 81, 182, 40, 94, 121, 130, 229, 99]
set_option maxRecDepth 100000 in
theorem cof1_eq : shaL (cofS ++ lb 1 8) = cof1.map UInt8.ofNat := by kernel_rfl
def cof2 : List Nat := [78, 159, 6, 182, 213, 116, 124, 109, 207, 233, 187, 79, 122, 89, 65, 244, 125, 207, 149, 194, 6, 41, 114, 29, 23, 233, 96, 187, 72, 187, 22, 48]
set_option maxRecDepth 100000 in
theorem cof2_eq : shaL (cofS ++ lb 2 8) = cof2.map UInt8.ofNat := by kernel_rfl
def cof3 : List Nat := [237, 249, 54, 163, 39, 70, 71, 159, 54, 243, 0, 167, 94, 206, 144, 35, 137, 217, 61, 116, 35, 155, 82, 150, 139, 224, 156, 90, 142, 193, 101, 133]
set_option maxRecDepth 100000 in
theorem cof3_eq : shaL (cofS ++ lb 3 8) = cof3.map UInt8.ofNat := by kernel_rfl
def cof4 : List Nat := [130, 0, 246, 48, 125, 130, 64, 153, 247, 130, 57, 12, 177, 154, 60, 171, 66, 55, 215, 31, 30, 44, 223, 142, 145, 24, 31, 130, 179, 143, 185, 21]
set_option maxRecDepth 100000 in
theorem cof4_eq : shaL (cofS ++ lb 4 8) = cof4.map UInt8.ofNat := by kernel_rfl
def cof5 : List Nat := [50, 85, 100, 49, 109, 132, 213, 64, 105, 4, 211, 54, 76, 66, 43, 105, 119, 183, 110, 192, 113, 199, 66, 223, 108, 30, 9, 197, 15, 81, 234, 255]
set_option maxRecDepth 100000 in
theorem cof5_eq : shaL (cofS ++ lb 5 8) = cof5.map UInt8.ofNat := by kernel_rfl
def cof6 : List Nat := [205, 157, 237, 156, 28, 203, 149, 144, 234, 208, 191, 18, 196, 181, 9, 50, 23, 47, 250, 90, 6, 152, 1, 250, 62, 251, 184, 54, 234, 150, 162, 154]
set_option maxRecDepth 100000 in
theorem cof6_eq : shaL (cofS ++ lb 6 8) = cof6.map UInt8.ofNat := by kernel_rfl
def cof7 : List Nat := [226, 68, 191, 206, 84, 9, 117, 79, 71, 134, 218, 244, 202, 40, 59, 183, 147, 122, 204, 54, 129, 191, 226, 45, 0, 9, 146, 198, 234, 185, 148, 180]
set_option maxRecDepth 100000 in
theorem cof7_eq : shaL (cofS ++ lb 7 8) = cof7.map UInt8.ofNat := by kernel_rfl
def cof8 : List Nat := [145, 206, 48, 196, 52, 105, 135, 124, 74, 253, 105, 79, 238, 128, 152, 87, 74, 161, 68, 223, 190, 167, 50, 245, 149, 14, 59, 6, 124, 115, 25, 237]
set_option maxRecDepth 100000 in
theorem cof8_eq : shaL (cofS ++ lb 8 8) = cof8.map UInt8.ofNat := by kernel_rfl
def cof9 : List Nat := [34, 117, 139, 149, 31, 94, 100, 45, 120, 143, 7, 151, 86, 218, 65, 5, 37, 78, 62, 70, 20, 202, 130, 35, 249, 6, 103, 208, 95, 234, 29, 101]
set_option maxRecDepth 100000 in
theorem cof9_eq : shaL (cofS ++ lb 9 8) = cof9.map UInt8.ofNat := by kernel_rfl
def cof10 : List Nat := [204, 103, 126, 52, 227, 115, 97, 129, 209, 214, 83, 179, 171, 62, 30, 74, 93, 229, 13, 23, 180, 141, 173, 67, 150, 57, 148, 218, 169, 155, 179, 99]
set_option maxRecDepth 100000 in
theorem cof10_eq : shaL (cofS ++ lb 10 8) = cof10.map UInt8.ofNat := by kernel_rfl
def cof11 : List Nat := [90, 57, 164, 99, 165, 100, 135, 66, 128, 121, 74, 119, 108, 163, 181, 252, 32, 241, 108, 17, 244, 113, 78, 32, 234, 213, 239, 84, 209, 151, 153, 108]
set_option maxRecDepth 100000 in
theorem cof11_eq : shaL (cofS ++ lb 11 8) = cof11.map UInt8.ofNat := by kernel_rfl
def cof12 : List Nat := [28, 110, 131, 91, 243, 103, 146, 122, 139, 154, 233, 30, 8, 228, 162, 91, 57, 165, 107, 86, 12, 124, 88, 181, 57, 96, 141, 166, 103, 148, 134, 34]
set_option maxRecDepth 100000 in
theorem cof12_eq : shaL (cofS ++ lb 12 8) = cof12.map UInt8.ofNat := by kernel_rfl
def cof13 : List Nat := [62, 24, 26, 95, 196, 101, 58, 216, 91, 105, 233, 113, 10, 169, 136, 76, 107, 225, 205, 79, 162, 210, 142, 63, 112, 108, 183, 11, 9, 123, 123, 50]
set_option maxRecDepth 100000 in
theorem cof13_eq : shaL (cofS ++ lb 13 8) = cof13.map UInt8.ofNat := by kernel_rfl
def cof14 : List Nat := [43, 190, 172, 15, 38, 224, 108, 202, 29, 232, 20, 235, 244, 91, 202, 90, 40, 97, 70, 68, 212, 231, 106, 244, 241, 144, 226, 136, 210, 131, 120, 34]
set_option maxRecDepth 100000 in
theorem cof14_eq : shaL (cofS ++ lb 14 8) = cof14.map UInt8.ofNat := by kernel_rfl
def cof15 : List Nat := [223, 219, 111, 62, 16, 151, 2, 143, 65, 106, 75, 23, 8, 52, 19, 74, 102, 63, 109, 40, 238, 173, 19, 20, 241, 192, 189, 70, 200, 101, 15, 135]
set_option maxRecDepth 100000 in
theorem cof15_eq : shaL (cofS ++ lb 15 8) = cof15.map UInt8.ofNat := by kernel_rfl
def cof16 : List Nat := [20, 41, 161, 48, 158, 201, 45, 2, 226, 193, 40, 140, 19, 78, 147, 156, 150, 210, 186, 51, 227, 232, 251, 165, 130, 199, 65, 2, 230, 192, 78, 25]
set_option maxRecDepth 100000 in
theorem cof16_eq : shaL (cofS ++ lb 16 8) = cof16.map UInt8.ofNat := by kernel_rfl
def cof17 : List Nat := [186, 196, 231, 44, 125, 32, 52, 93, 154, 105, 120, 215, 178, 74, 188, 224, 127, 61, 43, 15, 230, 174, 20, 201, 149, 241, 176, 0, 94, 49, 61, 215]
set_option maxRecDepth 100000 in
theorem cof17_eq : shaL (cofS ++ lb 17 8) = cof17.map UInt8.ofNat := by kernel_rfl
def cof18 : List Nat := [233, 199, 14, 32, 68, 159, 2, 146, 92, 223, 96, 164, 87, 244, 89, 196, 238, 92, 3, 27, 230, 250, 14, 214, 182, 27, 137, 22, 95, 54, 197, 202]
set_option maxRecDepth 100000 in
theorem cof18_eq : shaL (cofS ++ lb 18 8) = cof18.map UInt8.ofNat := by kernel_rfl
def cof19 : List Nat := [116, 60, 15, 189, 99, 210, 90, 82, 184, 105, 93, 180, 216, 53, 240, 172, 60, 126, 60, 238, 164, 112, 127, 43, 33, 107, 64, 184, 1, 83, 51, 213]
set_option maxRecDepth 100000 in
theorem cof19_eq : shaL (cofS ++ lb 19 8) = cof19.map UInt8.ofNat := by kernel_rfl
def cof20 : List Nat := [176, 254, 17, 26, 157, 55, 103, 230, 143, 185, 4, 189, 222, 13, 187, 57, 116, 230, 195, 133, 213, 154, 134, 217, 90, 153, 249, 194, 5, 197, 144, 198]
set_option maxRecDepth 100000 in
theorem cof20_eq : shaL (cofS ++ lb 20 8) = cof20.map UInt8.ofNat := by kernel_rfl
def cof21 : List Nat := [19, 144, 218, 152, 233, 51, 157, 146, 235, 186, 57, 26, 41, 226, 73, 218, 4, 227, 59, 214, 88, 164, 156, 95, 24, 99, 93, 31, 100, 230, 158, 144]
set_option maxRecDepth 100000 in
theorem cof21_eq : shaL (cofS ++ lb 21 8) = cof21.map UInt8.ofNat := by kernel_rfl

end Go.Proofs.YtjckdgapefaokaaDoor
