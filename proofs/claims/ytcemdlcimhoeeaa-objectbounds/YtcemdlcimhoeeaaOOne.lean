/- A commit and a note whose texts are zeros: how long they are, and what is made and read of them: pure. -/
import Derived.Test.YtcemdlcimhoeeaaOTell2
import Derived.Test.YtcemdlcimhoeeaaOTree
import Derived.Test.YtcemdlcimhoeeaaOApp
import Derived.Test.YtcemdlcimhoeeaaOMem
import Derived.Test.YtcemdlcimhoeeaaOPut
import Derived.Lib.SlBytesConst
namespace Go.Proofs.Ytcemdlcimhoeeaa

/-- A name of an object: its first byte i, then zeros. -/
def idOf (i : Nat) : List UInt8 := UInt8.ofNat i :: List.replicate 31 0
def bcg (n m p : Nat) : ChgL := ⟨List.replicate 32 0, (List.range p).map idOf, 1, List.replicate n 0, List.replicate m 0⟩
def tagsA : List UInt8 := [116, 97, 103, 115, 47, 97]
def bmk (m : Nat) : MrkL := ⟨List.replicate 32 0, tagsA, List.replicate m 0⟩

theorem flat_ids (p : Nat) : ((List.range p).map idOf).flatten.length = 32 * p := by
  induction p with
  | zero => rfl
  | succ p ih => rw [List.range_succ, List.map_append, List.flatten_append, List.length_append, ih]; simp [idOf]; omega
theorem bcg_len (n m p : Nat) : (chgB (bcg n m p)).length = 49 + 32 * p + n + m := by
  simp only [chgB, bcg, List.length_append, lb_len, layS_len, List.length_replicate, flat_ids]
  omega
theorem bcg_once (n m p : Nat) (hp : p ≤ 3) : onceTo (bcg n m p).pars (bcg n m p).pars.length = true := by
  show onceTo ((List.range p).map idOf) ((List.range p).map idOf).length = true
  match p, hp with
  | 0, _ => decide
  | 1, _ => decide
  | 2, _ => decide
  | 3, _ => decide
theorem bcg_pars (n m p : Nat) : (bcg n m p).pars.length = p := by simp [bcg]
theorem bcg_of (n m p : Nat) (hp : p ≤ 3) : ofChg (bcg n m p) = fitB (chgB (bcg n m p)) := by
  unfold ofChg
  rw [if_neg (by rw [bcg_pars]; omega), if_pos (bcg_once n m p hp)]
theorem bcg_big (n m p : Nat) (hp : p ≤ 3) (h : 16384 < 49 + 32 * p + n + m) : ofChg (bcg n m p) = (3, []) := by
  rw [bcg_of n m p hp]; unfold fitB; rw [if_pos (by rw [bcg_len]; exact h)]
theorem bcg_fit (n m p : Nat) (hp : p ≤ 3) (h : ¬ 16384 < 49 + 32 * p + n + m) : ofChg (bcg n m p) = (0, chgB (bcg n m p)) := by
  rw [bcg_of n m p hp]; unfold fitB; rw [if_neg (by rw [bcg_len]; exact h)]
theorem bcg_tel (n m p : Nat) (hp : p ≤ 3) (h : ¬ 16384 < 49 + 32 * p + n + m) : telC 3 (chgB (bcg n m p)) = (0, bcg n m p) := by
  have hr : readC (chgB (bcg n m p)) = bcg n m p := readC_lay _ (by rw [bcg_pars]; omega) ⟨by simp [bcg], by simp [bcg, idOf], by simp [bcg], by simp [bcg]; omega, by simp [bcg]; omega⟩
  unfold telC
  rw [if_pos rfl, hr, if_pos (bcg_fit n m p hp h)]
theorem bmk_len (m : Nat) : (mrkB (bmk m)).length = 46 + m := by
  simp only [mrkB, bmk, List.length_append, layS_len, List.length_replicate, tagsA, List.length_cons, List.length_nil]
  omega
theorem bmk_kind : kindL tagsA = 2 := by decide
theorem bmk_fit (m : Nat) (h : 46 + m ≤ 16384) : ofMrk (bmk m) = (0, mrkB (bmk m)) := by
  unfold ofMrk fitB
  rw [if_pos (show kindL (bmk m).name = 2 from bmk_kind), if_neg (by rw [bmk_len]; omega)]

open Go.RowKit

theorem made_bts {w w' : World} {K : Int} {r : Int × List UInt8} {e : Ending} (h : Made w w' K r e) : ∃ a c, e = .returned (.tuple #[.agg #[.int .i64 (if r.1 = 0 then K else 0), .slice a r.2.length c], .int .i64 r.1]) ∧ Bts w' a c r.2 ∧ w.grownBy w' none := by
  obtain ⟨v, h1, ⟨a, c, rfl, hb, _⟩, g⟩ := h
  exact ⟨a, c, h1, hb, g⟩

theorem built_id1 (z : Int) : Try.prog.built 24 [(0, .int .u8 z)] = some (.int .u8 z :: (List.replicate 31 (0 : UInt8)).map bv).toArray := by kernel_rfl
theorem built_idOf (j : Nat) (h : j ≤ 200) : Try.prog.built 24 [(0, .int .u8 (j : Int))] = some ((idOf j).map bv).toArray := by
  have hz : bv (UInt8.ofNat j) = .int .u8 (j : Int) := by
    unfold bv
    congr 1
    rw [UInt8.toNat_ofNat']
    omega
  rw [built_id1]
  simp only [idOf, List.map_cons, hz]

theorem ids_flat (j : Nat) : ((List.range (j + 1)).map idOf).flatMap (·.map bv) = ((List.range j).map idOf).flatMap (·.map bv) ++ (idOf j).map bv := by
  rw [List.range_succ, List.map_append, List.flatMap_append]; simp
theorem ids_of {w : World} {base j : Nat} {v : Value} (h : w.ownsRow base 24 32 v j (((List.range j).map idOf).flatMap (·.map bv))) : ∃ po pc, v = .slice po j pc ∧ Ids w po pc ((List.range j).map idOf) := by
  have hl : ((List.range j).map idOf).length = j := by simp
  obtain ⟨po, pc, hv, hI⟩ := Ids.own (ps := (List.range j).map idOf) (by rw [hl]; exact h) (by simp [idOf])
  rw [hl] at hv
  exact ⟨po, pc, hv, hI⟩
theorem ids_snoc9 {w : World} {base j : Nat} {v : Value} (h : w.ownsRow base 24 32 v (j + 1) (((List.range j).map idOf).flatMap (·.map bv) ++ (idOf j).map bv)) : ∃ po pc, v = .slice po (j + 1) pc ∧ w.ownsRow base 24 32 (.slice po (j + 1) pc) (j + 1) (((List.range (j + 1)).map idOf).flatMap (·.map bv)) := by
  rw [← ids_flat] at h
  obtain ⟨po, pc, rfl, _⟩ := ids_of h
  exact ⟨po, pc, rfl, h⟩
theorem chC_next (n m j : Nat) (po po2 : Option Addr) (pc pc2 : Nat) : (chC (bcg n m j) po pc).set 32 (.slice po2 (j + 1) pc2) = chC (bcg n m (j + 1)) po2 pc2 := by
  simp [chC, bcg]

end Go.Proofs.Ytcemdlcimhoeeaa

/- The law package's one answers true: a blob that is known. No condition. -/
namespace Go.Proofs.Ytcemdlcimhoeeaa
open Go.RowKit

theorem put_ab : putL 1 [97, 98] = [1, 0, 0, 0, 2, 97, 98] := by decide
theorem rd_ab : rdL [1, 0, 0, 0, 2, 97, 98] = (0, 1, [97, 98]) := by decide

set_option maxRecDepth 100000 in
set_option maxHeartbeats 2000000 in
theorem oone_any (w : World) : Calls Try.prog 16 #[] w fun e w' => e = .returned (.bool true) ∧ w.grownBy w' none := by
  have hW1 : ∃ W1, W1 = w.alloc (.cells #[.int .u8 97, .int .u8 98] 5 (2, 3)) ∧ Bts W1 (some ⟨w.heap.size, 0, none⟩) 2 [97, 98] ∧ w.grownBy W1 none := by
    refine ⟨_, rfl, ⟨(fun e => by cases e), by decide, by decide, (fun ad e _ => by cases e; rfl), (fun ad e i hi => ?_)⟩, gb_alloc (gb_refl _ _) _⟩
    cases e
    have hh := heap_alloc_new w (.cells #[.int .u8 97, .int .u8 98] 5 (2, 3))
    match i, hi with
    | 0, _ => unfold World.cell?; rw [hh]; rfl
    | 1, _ => unfold World.cell?; rw [hh]; rfl
  have kc := fun (w : World) (C : Array Value) (n c : Nat) => Lib.run_convert_bytes_const (P := Try.prog) w 33 5 C n c Try.underlying33 Try.underlying5
  obtain ⟨W1, hW1, hb1, g1⟩ := hW1
  have cp := oput_any W1 1 _ 2 [97, 98] hb1 (by decide)
  rw [put_ab] at cp
  have HW1 := hide hW1
  have kc1 := kc w #[.int .u8 97, .int .u8 98] 2 2
  clear hW1 hb1 kc
  go_enter Try.func16, Try.ntmps16
  go_wp2_with (rw [← unhide HW1])
  refine cp.mono ?_
  rintro e w2 ⟨v2, rfl, ⟨a2, c2, rfl, hb2, _⟩, g2⟩
  have cr := oread_any w2 a2 c2 _ hb2 (by decide)
  rw [rd_ab] at cr
  have cv2 := conv_str hb2
  have G2 := tn g1 g2
  clear cp kc1
  go_wp2_with fail
  refine cr.mono ?_
  rintro e w3 ⟨v3, y, kk, rfl, hy, hkk, ⟨a3, c3, rfl, hb3, _⟩, g3⟩
  have hy0 : y = 0 := hy
  have hk1 : kk = 1 := hkk
  clear hy hkk
  subst hy0 hk1
  have hb2' := hb2.kept g3 (fun _ e => by cases e)
  obtain ⟨W4, hW4, hB4, g4⟩ : ∃ W1, W1 = w3.alloc (.cells #[.int .i64 1, .slice a3 2 c3] 35) ∧ Blk W1 w3.heap.size 35 [.int .i64 1, .slice a3 2 c3] ∧ w3.grownBy W1 none := box_new w3 _ _
  have cv4 := conv_str (hb2'.kept g4 (fun _ e => by cases e))
  have cv5 := conv_str (hb3.kept g4 (fun _ e => by cases e))
  rw [show str [1, 0, 0, 0, 2, 97, 98] = ⟨#[1, 0, 0, 0, 2, 97, 98]⟩ from rfl] at cv4
  rw [show str [97, 98] = ⟨#[97, 98]⟩ from rfl] at cv5
  simp only [List.length_cons, List.length_nil, Nat.zero_add, Nat.reduceAdd] at cv4 cv5
  have c0 := hB4.cell 0
  have c1 := hB4.cell 1
  simp only [List.getElem?_cons_zero, List.getElem?_cons_succ] at c0 c1
  have G4 := tn (tn G2 g3) g4
  have HW4 := hide hW4
  clear cr cv2 hb2 hb2' hb3 hB4 hW4 g4 g3 g2 g1 G2
  go_wp2_with (rw [← unhide HW4])
  go_ret
  exact ⟨rfl, G4⟩

end Go.Proofs.Ytcemdlcimhoeeaa
