/- What the document's zeros and call answer (package coffretref14). -/
import Derived.Test.YtfaipdifkmjdeaaRDkA
import Derived.Test.YtfaipdifkmjdeaaMBox
namespace Go.Proofs.Ytfaipdifkmjdeaa
open Go.RowKit

set_option maxRecDepth 100000 in
theorem rzeros_any (w : World) (n : Nat) (hn : n ≤ 100000) :
    Calls Try.prog 26 #[.int .i64 (n : Int)] w fun e w' => e = .returned (.string (str (List.replicate n 0))) ∧ w' = w := by
  go_enter Try.func26, Try.ntmps26
  go_wp2
  go_loopw [3, 4] (fun v i wr => ∃ j : Nat, i = .int .i64 j ∧ j ≤ n ∧ v = .string (str (List.replicate j 0)) ∧ wr = w) (fun _ i _ => n - (intOf i).toNat)
  case atStart => exact ⟨0, rfl, Nat.zero_le _, rfl, rfl⟩
  case round =>
    obtain ⟨j, rfl, hj, rfl, rfl⟩ := hrel
    by_cases hlt : j < n
    · have hjw : IntKind.i64.wrap ((j : Int) + 1) = (j : Int) + 1 := by rw [IntKind.wrap_i64]; omega
      obtain ⟨T, hT⟩ : ∃ T, T = str (List.replicate j 0) := ⟨_, rfl⟩
      obtain ⟨Z, hZ⟩ : ∃ Z : ByteArray, Z = ⟨#[0]⟩ := ⟨_, rfl⟩
      have hsz : ¬ 9223372036854775807 < T.size + 1 := by rw [hT, str_size, List.length_replicate]; omega
      have hnew : T ++ (⟨#[0]⟩ : ByteArray) = str (List.replicate (j + 1) 0) := by
        rw [hT, show (⟨#[0]⟩ : ByteArray) = str [0] from rfl, str_app, List.replicate_succ']
      rw [← hT]
      have HNW := hide hnew
      clear hT hnew hZ
      go_wp2
      go_roundw
      case rel => exact ⟨j + 1, by go_num, by omega, by rw [← unhide HNW], trivial⟩
      case measure => simp [intOf]; omega
    · have hjn : j = n := by omega
      have hji : ¬ (j : Int) < (n : Int) := by omega
      subst hjn
      go_wp2
      go_ret
      exact ⟨rfl, rfl⟩

/-- The cells of a disk, whatever is left. -/
theorem rd4_one (so : Option Addr) (n1 sc : Nat) (uo : Option Addr) (n2 uc : Nat) (l : Int) (b : Bool) : (#[.slice so n1 sc, .slice uo n2 uc, .int .i64 l, .bool b] : Array Value).all (·.oneCell') = true :=
  all_oneCell_toArray (cs := [.slice so n1 sc, .slice uo n2 uc, .int .i64 l, .bool b]) (fun u hu => by
    simp only [List.mem_cons, List.not_mem_nil, or_false] at hu
    rcases hu with rfl | rfl | rfl | rfl <;> rfl)

set_option maxRecDepth 100000 in
set_option maxHeartbeats 4000000 in
theorem rcall_any (w : World) (so : Option Addr) (sc : Nat) (uo : Option Addr) (uc : Nat) (D : Dsk) (hl : -9223372036854775808 ≤ D.left) (hl2 : D.left < 9223372036854775808) :
    Calls Try.prog 27 #[.agg (rdC so sc uo uc D).toArray] w fun e w' => e = .returned (.tuple #[.agg (rdC so sc uo uc (rcall D).1).toArray, .bool (rcall D).2]) ∧ w.grownBy w' none := by
  obtain ⟨n1, hn1⟩ : ∃ n, n = D.safe.length := ⟨_, rfl⟩
  obtain ⟨n2, hn2⟩ : ∃ n, n = D.U.length := ⟨_, rfl⟩
  obtain ⟨lf, hlf⟩ : ∃ l, l = D.left := ⟨_, rfl⟩
  obtain ⟨dn, hdn⟩ : ∃ b, b = D.down := ⟨_, rfl⟩
  have hs := rcall_safe D
  have e0 : rdC so sc uo uc D = [.slice so n1 sc, .slice uo n2 uc, .int .i64 lf, .bool dn] := by rw [hn1, hn2, hlf, hdn]; rfl
  have e1 : rdC so sc uo uc (rcall D).1 = [.slice so n1 sc, .slice uo n2 uc, .int .i64 (rcall D).1.left, .bool (rcall D).1.down] := by rw [hn1, hn2, ← hs.1, ← hs.2]; rfl
  rw [e0, e1]
  obtain ⟨W1, hW1, hB1, g1⟩ := box_new w 30 [.slice so n1 sc, .slice uo n2 uc, .int .i64 lf, .bool dn]
  obtain ⟨W2, hW2, hB2, g2⟩ := box_new W1 30 [.slice none 0 0, .slice none 0 0, .int .i64 0, .bool false]
  have s1 : W1.heap.size = w.heap.size + 1 := by rw [hW1, World.size_alloc]
  rw [s1] at hB2
  have hB1' := hB1.kept g2 (by simp)
  have hzv := zero_rd
  have hpq : w.heap.size ≠ w.heap.size + 1 := by omega
  have hfold : ((w.alloc (.cells #[.slice so n1 sc, .slice uo n2 uc, .int .i64 lf, .bool dn] 30)).alloc (.cells #[.slice none 0 0, .slice none 0 0, .int .i64 0, .bool false] 30)) = W2 := by rw [hW2, hW1]
  have h2 := hB1'.cell 2
  have f2 := hB1'.fz 2
  have f3 := hB1'.fz 3
  have h3 := hB1'.cell 3
  simp only [List.getElem?_cons_zero, List.getElem?_cons_succ] at h2 h3
  have HF := hide hfold
  by_cases e0 : lf = 0
  · have er : rcall D = ({ D with left := -1, down := true }, false) := by unfold rcall; rw [if_pos (by rw [← hlf]; exact e0)]
    rw [er]
    have hBa := (hB1'.set 3 (.bool true)).set 2 (.int .i64 (-1))
    have hBb := (hB2.other ⟨w.heap.size, 3, none⟩ (.bool true) hpq).other ⟨w.heap.size, 2, none⟩ (.int .i64 (-1)) hpq
    obtain ⟨W3, hW3⟩ : ∃ W, W = (W2.setCell ⟨w.heap.size, 3, none⟩ (.bool true)).setCell ⟨w.heap.size, 2, none⟩ (.int .i64 (-1)) := ⟨_, rfl⟩
    have f32 := (hB1'.set 3 (.bool true)).fz 2
    have h32 := (hB1'.set 3 (.bool true)).cell 2
    simp only [List.set_cons_zero, List.set_cons_succ, List.getElem?_cons_zero, List.getElem?_cons_succ] at h32
    have g3 : W2.grownBy W3 (some w.heap.size) := by rw [hW3]; exact gb_setCell (gb_set _ _ _ _) _ _ (Or.inr rfl)
    rw [← hW3] at hBa hBb
    have hra := blk_all hBa
    have HG3 := hide (gb_trans (tn g1 g2) g3 (fun x e => Or.inl (by cases e; omega)))
    have HBb := hide hBb
    have HW3 := hide hW3
    subst e0
    clear hW1 hW2 hB1 hB2 hB1' g1 g2 s1 hfold hn1 hn2 hlf hdn hs e1 er hBa hBb hW3 g3 hpq hl hl2
    go_enter Try.func27, Try.ntmps27
    go_wp2_with (first
      | (rw [unhide HF])
      | (rw [← unhide HW3])
      | (refine wpList_load_mid rfl 30 _ rfl w.heap.size 0 rfl [.slice so n1 sc, .slice uo n2 uc, .int .i64 (-1), .bool true] _ hra Try.underlying30 rfl info_rd ?_; clear hra)
      | (have hB9 := unhide HBb; refine wpList_store_row rfl 30 _ _ rfl (w.heap.size + 1) _ rfl rfl _ _ hB9 info_rd rfl (rd4_one _ _ _ _ _ _ _ _) ?_; clear hB9))
    refine bodyPost_ret (results_row_tmp rfl _ _ _ _ _ _ _ rfl ((unhide HBb).row [.slice so n1 sc, .slice uo n2 uc, .int .i64 (-1), .bool true]) Try.underlying30 rfl info_rd) rfl ?_
    exact ⟨rfl, gb_row (unhide HG3) _ (Or.inl (by omega))⟩
  by_cases e2 : 0 < lf
  · have er : rcall D = ({ D with left := lf - 1 }, true) := by unfold rcall; rw [if_neg (by rw [← hlf]; exact e0), if_pos (by rw [← hlf]; exact e2), hlf]
    rw [er]
    have hwr : IntKind.i64.wrap (lf - 1) = lf - 1 := by rw [IntKind.wrap_i64]; omega
    have hBa := hB1'.set 2 (.int .i64 (lf - 1))
    have hBb := hB2.other ⟨w.heap.size, 2, none⟩ (.int .i64 (lf - 1)) hpq
    obtain ⟨W3, hW3⟩ : ∃ W, W = W2.setCell ⟨w.heap.size, 2, none⟩ (.int .i64 (lf - 1)) := ⟨_, rfl⟩
    have g3 : W2.grownBy W3 (some w.heap.size) := by rw [hW3]; exact gb_set _ _ _ _
    rw [← hW3] at hBa hBb
    have hra := blk_all hBa
    have HG3 := hide (gb_trans (tn g1 g2) g3 (fun x e => Or.inl (by cases e; omega)))
    have HBb := hide hBb
    have HW3 := hide hW3
    have d0 : (lf == 0) = false := beq_eq_false_iff_ne.2 e0
    have ed : ({ D with left := lf - 1 } : Dsk).down = dn := hdn.symm
    rw [ed]
    clear hW1 hW2 hB1 hB2 hB1' g1 g2 s1 hfold hn1 hn2 hlf hdn hs e1 er hBa hBb hW3 g3 hpq hl hl2 ed
    go_enter Try.func27, Try.ntmps27
    go_wp2_with (first
      | (rw [unhide HF])
      | (rw [← unhide HW3])
      | (refine wpList_load_mid rfl 30 _ rfl w.heap.size 0 rfl [.slice so n1 sc, .slice uo n2 uc, .int .i64 (lf - 1), .bool dn] _ hra Try.underlying30 rfl info_rd ?_; clear hra)
      | (have hB9 := unhide HBb; refine wpList_store_row rfl 30 _ _ rfl (w.heap.size + 1) _ rfl rfl _ _ hB9 info_rd rfl (rd4_one _ _ _ _ _ _ _ _) ?_; clear hB9))
    refine bodyPost_ret (results_row_tmp rfl _ _ _ _ _ _ _ rfl ((unhide HBb).row [.slice so n1 sc, .slice uo n2 uc, .int .i64 (lf - 1), .bool dn]) Try.underlying30 rfl info_rd) rfl ?_
    exact ⟨rfl, gb_row (unhide HG3) _ (Or.inl (by omega))⟩
  · have er : rcall D = (D, true) := by unfold rcall; rw [if_neg (by rw [← hlf]; exact e0), if_neg (by rw [← hlf]; exact e2)]
    rw [er]
    simp only
    rw [← hlf, ← hdn]
    have d0 : (lf == 0) = false := beq_eq_false_iff_ne.2 e0
    have hra := blk_all hB1'
    have HG3 := hide (tn g1 g2)
    have HBb := hide hB2
    clear hW1 hW2 hB1 hB2 hB1' g1 g2 s1 hfold hn1 hn2 hlf hdn hs e1 er hpq hl hl2
    go_enter Try.func27, Try.ntmps27
    go_wp2_with (first
      | (rw [unhide HF])
      | (refine wpList_load_mid rfl 30 _ rfl w.heap.size 0 rfl [.slice so n1 sc, .slice uo n2 uc, .int .i64 lf, .bool dn] _ hra Try.underlying30 rfl info_rd ?_; clear hra)
      | (have hB9 := unhide HBb; refine wpList_store_row rfl 30 _ _ rfl (w.heap.size + 1) _ rfl rfl _ _ hB9 info_rd rfl (rd4_one _ _ _ _ _ _ _ _) ?_; clear hB9))
    refine bodyPost_ret (results_row_tmp rfl _ _ _ _ _ _ _ rfl ((unhide HBb).row [.slice so n1 sc, .slice uo n2 uc, .int .i64 lf, .bool dn]) Try.underlying30 rfl info_rd) rfl ?_
    exact ⟨rfl, gb_row (unhide HG3) _ (Or.inl (by omega))⟩

end Go.Proofs.Ytfaipdifkmjdeaa
