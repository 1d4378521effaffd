/- What the document's New answers of numbers that no disk has, and Read (package coffretref14). -/
import Derived.Test.YtfaipdifkmjdeaaRDkC
namespace Go.Proofs.Ytfaipdifkmjdeaa
open Go.RowKit

set_option maxRecDepth 100000 in
set_option maxHeartbeats 4000000 in
theorem rnew_no (w : World) (n : Int) (h : n < 1 ∨ 2048 < n) :
    Calls Try.prog 9 #[.int .i64 n] w fun e w' => e = .returned (.tuple #[.agg #[.slice none 0 0, .slice none 0 0, .int .i64 0, .bool false], .int .i64 2]) ∧ w.grownBy w' none := by
  obtain ⟨W1, hW1, hB1, g1⟩ := box_new w 30 [.slice none 0 0, .slice none 0 0, .int .i64 0, .bool false]
  have hzv := zero_rd
  have hb0 := built_rd0
  have HW1 := hide hW1
  have HB1 := hide hB1
  have HG1 := hide g1
  clear hW1 hB1 g1
  by_cases h1 : n < 1
  · clear h
    go_enter Try.func9, Try.ntmps9
    go_wp2_with (first
      | (rw [← unhide HW1])
      | (refine wpList_built rfl 30 _ rfl #[.slice none 0 0, .slice none 0 0, .int .i64 0, .bool false] ?hb ?_; (case hb => exact hb0))
      | (have hB9 := unhide HB1; refine wpList_store_row rfl 30 _ _ rfl w.heap.size _ rfl rfl _ _ hB9 info_rd rfl (rd4_one _ _ _ _ _ _ _ _) ?_; clear hB9))
    refine bodyPost_ret (results_row_tmp rfl _ _ _ _ _ _ _ rfl ((unhide HB1).row [.slice none 0 0, .slice none 0 0, .int .i64 0, .bool false]) Try.underlying30 rfl info_rd) rfl ?_
    exact ⟨rfl, gb_row (unhide HG1) _ (Or.inl (Nat.le_refl _))⟩
  · have h2 : 2048 < n := by omega
    clear h
    go_enter Try.func9, Try.ntmps9
    go_wp2_with (first
      | (rw [← unhide HW1])
      | (refine wpList_built rfl 30 _ rfl #[.slice none 0 0, .slice none 0 0, .int .i64 0, .bool false] ?hb ?_; (case hb => exact hb0))
      | (have hB9 := unhide HB1; refine wpList_store_row rfl 30 _ _ rfl w.heap.size _ rfl rfl _ _ hB9 info_rd rfl (rd4_one _ _ _ _ _ _ _ _) ?_; clear hB9))
    refine bodyPost_ret (results_row_tmp rfl _ _ _ _ _ _ _ rfl ((unhide HB1).row [.slice none 0 0, .slice none 0 0, .int .i64 0, .bool false]) Try.underlying30 rfl info_rd) rfl ?_
    exact ⟨rfl, gb_row (unhide HG1) _ (Or.inl (Nat.le_refl _))⟩

/-- The last write of a sector. -/
theorem rowsU_none {U : List (Nat × List UInt8)} {i : Nat} (h : ∀ x ∈ U, x.1 ≠ i) : rowsU U i = [] := by
  induction U with
  | nil => rfl
  | cons x U ih => rw [rowsU_cons, if_neg (h x (by simp)), ih fun y hy => h y (by simp [hy])]
theorem rowsU_app (A B : List (Nat × List UInt8)) (i : Nat) : rowsU (A ++ B) i = rowsU A i ++ rowsU B i := by
  unfold rowsU
  rw [List.filter_append, List.map_append]
theorem last_found {U : List (Nat × List UInt8)} {i m : Nat} (hm : m < U.length) (hi : U[m].1 = i) (hn : ∀ k (hk : k < U.length), m < k → U[k].1 ≠ i) : (rowsU U i).getLast? = some U[m].2 := by
  have e : U = U.take m ++ U[m] :: U.drop (m + 1) := by rw [← List.drop_eq_getElem_cons hm, List.take_append_drop]
  have e2 : rowsU U i = rowsU (U.take m) i ++ [U[m].2] := by
    conv => lhs; rw [e]
    rw [rowsU_app, rowsU_cons, if_pos hi, rowsU_none (U := U.drop (m + 1))]
    intro x hx
    obtain ⟨k, hk, rfl⟩ := List.getElem_of_mem hx
    rw [List.getElem_drop]
    rw [List.length_drop] at hk
    exact hn _ (by omega) (by omega)
  rw [e2, List.getLast?_append, List.getLast?_singleton]
  rfl

set_option maxRecDepth 100000 in
set_option maxHeartbeats 4000000 in
theorem rread_any (w : World) (so : Option Addr) (sc : Nat) (uo : Option Addr) (uc : Nat) (D : Dsk) (h : RdW w so sc uo uc D) (i : Int) (hU : D.U.length ≤ 1000000) (hs : D.safe.length ≤ 1000000) :
    Calls Try.prog 19 #[.agg (rdC so sc uo uc D).toArray, .int .i64 i] w fun e w' => e = .returned (.tuple #[.string (str (rdD D i).1), .int .i64 (rdD D i).2]) ∧ w.grownBy w' none := by
  obtain ⟨n1, hn1⟩ : ∃ n, n = D.safe.length := ⟨_, rfl⟩
  obtain ⟨n2, hn2⟩ : ∃ n, n = D.U.length := ⟨_, rfl⟩
  obtain ⟨lf, hlf⟩ : ∃ l, l = D.left := ⟨_, rfl⟩
  obtain ⟨dn, hdn⟩ : ∃ b, b = D.down := ⟨_, rfl⟩
  have e0 : rdC so sc uo uc D = [.slice so n1 sc, .slice uo n2 uc, .int .i64 lf, .bool dn] := by rw [hn1, hn2, hlf, hdn]; rfl
  rw [e0]
  obtain ⟨W1, hW1, hB1, g1⟩ := box_new w 30 [.slice so n1 sc, .slice uo n2 uc, .int .i64 lf, .bool dn]
  have HW1 := hide (show W1 = w.alloc (.cells #[.slice so n1 sc, .slice uo n2 uc, .int .i64 lf, .bool dn] 30) from hW1)
  have hc0 := hB1.cell 0
  have hc1 := hB1.cell 1
  have hc3 := hB1.cell 3
  simp only [List.getElem?_cons_zero, List.getElem?_cons_succ] at hc0 hc1 hc3
  have HG1 := hide g1
  have H1 := hide (h.kept g1)
  have HN1 := hide hn1
  have HN2 := hide hn2
  have HDN := hide hdn
  have hn2b : n2 ≤ 1000000 := by omega
  have hn1b : n1 ≤ 1000000 := by omega
  clear hW1 hB1 g1 h hn1 hn2 hlf e0 hU hs
  cases dn with
  | true =>
    have er : rdD D i = ([], 17) := by unfold rdD; rw [if_pos (unhide HDN).symm]
    rw [er]
    clear er
    clear hdn
    go_enter Try.func19, Try.ntmps19
    go_wp2_with (rw [← unhide HW1])
    go_ret2
    exact ⟨rfl, unhide HG1⟩
  | false =>
    by_cases hi0 : i < 0
    · have er : rdD D i = ([], 2) := by unfold rdD; rw [if_neg (by rw [← unhide HDN]; decide), if_neg (by rw [hasD_iff]; omega)]
      rw [er]
      clear er
      clear hdn
      go_enter Try.func19, Try.ntmps19
      go_wp2_with (rw [← unhide HW1])
      go_ret2
      exact ⟨rfl, unhide HG1⟩
    by_cases hi1 : (n1 : Int) ≤ i
    · have er : rdD D i = ([], 2) := by unfold rdD; rw [if_neg (by rw [← unhide HDN]; decide), if_neg (by rw [hasD_iff]; have := unhide HN1; omega)]
      rw [er]
      clear er
      clear hdn
      go_enter Try.func19, Try.ntmps19
      go_wp2_with (rw [← unhide HW1])
      go_ret2
      exact ⟨rfl, unhide HG1⟩
    obtain ⟨j, rfl⟩ : ∃ j : Nat, i = (j : Int) := ⟨i.toNat, by omega⟩
    have hj : j < n1 := by omega
    have er : rdD D (j : Int) = (lastD D j, 0) := by unfold rdD; rw [if_neg (by rw [← unhide HDN]; decide), if_pos (by rw [hasD_iff]; have := unhide HN1; omega)]; simp
    rw [er]
    have hw9 : IntKind.i64.wrap ((n2 : Int) - 1) = (n2 : Int) - 1 := by rw [IntKind.wrap_i64]; omega
    clear er hi0
    clear hdn
    go_enter Try.func19, Try.ntmps19
    go_wp2_with (rw [← unhide HW1])
    go_loopw [6] (fun k wr => ∃ m : Nat, k = .int .i64 ((m : Int) - 1) ∧ m ≤ n2 ∧ wr = W1 ∧ Hid (∀ q (hq : q < D.U.length), m ≤ q → D.U[q].1 ≠ j)) (fun k _ => ((intOf k) + 1).toNat)
    case atStart => exact ⟨n2, rfl, Nat.le_refl _, rfl, fun q hq h1 => absurd hq (by have := unhide HN2; omega)⟩
    case round =>
      obtain ⟨m, rfl, hm, rfl, HQ⟩ := hrel
      by_cases h0 : m = 0
      · have hk0 : ¬ (0 : Int) ≤ (m : Int) - 1 := by omega
        have hl : lastD D j = keptD D j := by
          unfold lastD
          rw [rowsU_none (fun x hx => by
            obtain ⟨q, hq, rfl⟩ := List.getElem_of_mem hx
            exact unhide HQ q hq (by omega))]
          rfl
        obtain ⟨b, o, hso, hcell⟩ := (unhide H1).safe.at j (by rw [List.length_map, ← unhide HN1]; exact hj)
        have hkd : (D.safe.map sc1)[j]'(by rw [List.length_map, ← unhide HN1]; exact hj) = .string (str (keptD D j)) := by
          rw [List.getElem_map]
          unfold keptD
          rw [List.getElem?_eq_getElem (by rw [← unhide HN1]; exact hj)]
          rfl
        rw [hkd] at hcell
        obtain ⟨T, hT⟩ : ∃ T, T = str (keptD D j) := ⟨_, rfl⟩
        rw [← hT] at hcell
        have HT := hide (show T = str (lastD D j) by rw [hT, hl])
        have hji : (j : Int) < (n1 : Int) := by omega
        clear hT hl hkd HQ
        subst hso
        go_wp2
        go_ret2
        exact ⟨by rw [unhide HT]; rfl, unhide HG1⟩
      · obtain ⟨p, rfl⟩ : ∃ p, m = p + 1 := ⟨m - 1, by omega⟩
        have hpe : (((p + 1 : Nat) : Int) - 1) = (p : Int) := by omega
        rw [hpe]
        have hp2 : p < n2 := by omega
        have hp : p < D.U.length := by rw [← unhide HN2]; exact hp2
        have hpi : (p : Int) < (n2 : Int) := by omega
        obtain ⟨b, o, huo, hrow⟩ := (unhide H1).und.at p hp
        have hq0 := hrow 0 _ rfl
        have hq1 := hrow 1 _ rfl
        simp only [Nat.add_zero] at hq0
        obtain ⟨I, hI⟩ : ∃ I, I = D.U[p].1 := ⟨_, rfl⟩
        obtain ⟨T, hT⟩ : ∃ T, T = str D.U[p].2 := ⟨_, rfl⟩
        have hq1b : wr.cell? ⟨b, o + p * 2 + 1, none⟩ = some (.string T) := by rw [hT]; exact hq1
        rw [← hI] at hq0
        have hpw : IntKind.i64.wrap ((p : Int) - 1) = (p : Int) - 1 := by rw [IntKind.wrap_i64]; omega
        have hk0 : (0 : Int) ≤ (p : Int) := by omega
        by_cases hIj : I = j
        · have hfd : lastD D j = D.U[p].2 := by
            unfold lastD
            rw [last_found hp (by rw [← hI]; exact hIj) (fun k hk h1 => unhide HQ k hk (by omega))]
            rfl
          have HT := hide (show T = str (lastD D j) by rw [hT, hfd])
          have hIi : (I : Int) = (j : Int) := by omega
          have hIb : ((I : Int) == (j : Int)) = true := beq_iff_eq.2 hIi
          clear hI hT hq1 hrow hfd HQ hp hIi
          subst huo
          subst hIj
          go_wp2
          go_ret2
          exact ⟨by rw [unhide HT]; rfl, unhide HG1⟩
        · have hIb : ((I : Int) == (j : Int)) = false := beq_eq_false_iff_ne.2 (by omega)
          have hIi : ¬ (I : Int) = (j : Int) := by omega
          have hnew : ∀ q (hq : q < D.U.length), p ≤ q → D.U[q].1 ≠ j := fun q hq h1 => by
            by_cases e : q = p
            · subst e; rw [← hI]; exact hIj
            · exact unhide HQ q hq (by omega)
          have HNW := hide hnew
          clear hI hT hq1 hrow HQ hp hnew hIj
          subst huo
          go_wp2
          go_roundw
          case rel => exact ⟨p, rfl, by omega, trivial, HNW⟩
          case measure => simp [intOf]

end Go.Proofs.Ytfaipdifkmjdeaa
