/- What disk's kept and last answer: a sector's bytes. -/
import Derived.Test.YtfaipdifkmjdeaaDkB
import Derived.Test.YtfaipdifkmjdeaaMMsk
namespace Go.Proofs.Ytfaipdifkmjdeaa
open Go.RowKit

theorem info_secs : (Try.prog.info? 70).map (·.size) = some 256 := by kernel_rfl
theorem zero_secA : ∃ Z : Array Value, Z.size = 256 ∧ ∀ w, (zeroValue 70).run Try.prog w = .ok (.agg Z) w := ⟨_, by rw [List.size_toArray, secC_len, zsec_len], zero_sec⟩
theorem zero_secs (w : World) : (zeroValue 58).run Try.prog w = .ok (.slice none 0 0) w := by kernel_rfl
theorem flat_take (S : List (List UInt8)) (h : ∀ s ∈ S, s.length = 256) (i : Nat) (hi : i < S.length) : ∃ A B, S.flatMap secC = A ++ (secC S[i] ++ B) ∧ A.length = i * 256 := by
  refine ⟨(S.take i).flatMap secC, (S.drop (i + 1)).flatMap secC, ?_, ?_⟩
  · conv => lhs; rw [← List.take_append_drop i S, List.drop_eq_getElem_cons hi]
    rw [List.flatMap_append, List.flatMap_cons]
  · rw [flat_len2 secC 256 _ (fun x hx => by rw [secC_len]; exact h x (List.mem_of_mem_take hx)), List.length_take, Nat.min_eq_left (Nat.le_of_lt hi)]
theorem sec_range {w : World} {s : Nat} {S : List (List UInt8)} {X : List Value} (h : Blk w s 70 (S.flatMap secC ++ X)) (hS : ∀ x ∈ S, x.length = 256) (i : Nat) (hi : i < S.length) : w.rangeAt s (i * 256) (secC S[i]) := by
  obtain ⟨A, B, e, hA⟩ := flat_take S hS i hi
  rw [e] at h
  have h2 : Blk w s 70 (A ++ (secC S[i] ++ (B ++ X))) := by simpa using h
  have := h2.range
  rwa [hA] at this
theorem DiskM.range {u : Nat} {w : World} {F : List Nat} {d s c m : Nat} {X : List Value} {ov : Value} {K : List (Nat × Value)} {D : Dsk} (h : DiskM u w F d s c m X ov K D) (i : Nat) (hi : i < D.safe.length) : w.rangeAt s (i * 256) (secC (keptD D i)) := by
  have := sec_range h.sec h.ok.wide i hi
  unfold keptD
  rw [List.getElem?_eq_getElem hi]
  exact this

set_option maxRecDepth 100000 in
set_option maxHeartbeats 2000000 in
theorem dkept_any (u : Nat) (w : World) (F : List Nat) (d s c m : Nat) (X : List Value) (ov : Value) (K : List (Nat × Value)) (D : Dsk) (h : DiskM u w F d s c m X ov K D) (i : Nat) (hi : i < D.safe.length) :
    Calls Try.prog 39 #[.pointer (some ⟨d, 0, none⟩), .int .i64 (i : Int)] w fun e w' => e = .returned (.agg (secC (keptD D i)).toArray) ∧ w.grownBy w' none := by
  obtain ⟨Z, hZ, hzv⟩ := zero_secA
  obtain ⟨EB, hEB⟩ : ∃ EB, EB = secC (keptD D i) := ⟨_, rfl⟩
  have hEl : EB.length = 256 := by rw [hEB, secC_len, keptD_len h.ok hi]
  have hEo : EB.toArray.all (·.oneCell') = true := by rw [hEB]; exact all_oneCell_toArray (secC_one _)
  have hiE : (Try.prog.info? 70).map (·.size) = some EB.length := by rw [hEl]; exact info_secs
  have hiE2 : (Try.prog.info? 70).map (·.size) = some EB.toArray.size := by simpa using hiE
  have hZE : Z.toList.toArray.size = EB.toArray.size := by simp [hZ, hEl]
  obtain ⟨W1, hW1⟩ : ∃ W, W = w.alloc (.cells Z 70) := ⟨_, rfl⟩
  have hBZ : Blk W1 w.heap.size 70 Z.toList := by rw [hW1]; simpa using Blk.new w 70 Z.toList
  have g1 : w.grownBy W1 none := by rw [hW1]; exact gb_alloc (gb_refl _ _) _
  have h1 := h.fr (Fr.none g1 []) (fun _ _ e => by cases e)
  have hr := h1.range i hi
  have hc0 := h1.c0
  obtain ⟨n, hn⟩ : ∃ n, n = D.safe.length := ⟨_, rfl⟩
  rw [← hn] at hc0 hi
  rw [← hEB] at hr ⊢
  have hg := gb_row (cs := EB.toArray) (g := w.heap.size) g1 (Or.inl (Nat.le_refl _))
  have HBZ := hide hBZ
  have HIE := hide hiE
  have HIE2 := hide hiE2
  have HZE := hide hZE
  have HEO := hide hEo
  have HW1 := hide hW1
  clear hBZ hiE hiE2 hZE hEo hW1 hEB hEl h h1 hn hZ g1
  go_enter Try.func39, Try.ntmps39
  go_wp2_with (first
    | rw [← unhide HW1]
    | (refine wpList_load_mid rfl 70 _ rfl s (i * 256) rfl EB _ hr Try.underlying70 rfl (unhide HIE) ?_; clear hr)
    | (have hB9 := unhide HBZ; refine wpList_store_row rfl 70 _ _ rfl w.heap.size EB.toArray rfl rfl _ _ hB9 (unhide HIE2) (unhide HZE) (unhide HEO) ?_; clear hB9))
  refine bodyPost_ret (results_cell_row rfl _ _ _ _ _ _ _ rfl ((unhide HBZ).row EB) Try.underlying70 rfl (unhide HIE2)) rfl ?_
  exact ⟨rfl, hg⟩

set_option maxRecDepth 100000 in
set_option maxHeartbeats 2000000 in
theorem dlast_any (u : Nat) (w : World) (F : List Nat) (d s c m : Nat) (X : List Value) (ov : Value) (K : List (Nat × Value)) (D : Dsk) (h : DiskM u w F d s c m X ov K D) (i : Nat) (hi : i < D.safe.length) (hU : D.U.length ≤ 1000000) :
    Calls Try.prog 37 #[.pointer (some ⟨d, 0, none⟩), .int .i64 (i : Int)] w fun e w' => e = .returned (.agg (secC (lastD D i)).toArray) ∧ w.grownBy w' none := by
  obtain ⟨Z, hZ, hzv⟩ := zero_secA
  obtain ⟨EB, hEB⟩ : ∃ EB, EB = secC (lastD D i) := ⟨_, rfl⟩
  have hEl : EB.length = 256 := by rw [hEB, secC_len, lastD_len h.ok hi]
  have hEo : EB.toArray.all (·.oneCell') = true := by rw [hEB]; exact all_oneCell_toArray (secC_one _)
  have hiE : (Try.prog.info? 70).map (·.size) = some EB.length := by rw [hEl]; exact info_secs
  have hiE2 : (Try.prog.info? 70).map (·.size) = some EB.toArray.size := by simpa using hiE
  have hZE : Z.toList.toArray.size = EB.toArray.size := by simp [hZ, hEl]
  obtain ⟨W1, hW1⟩ : ∃ W, W = w.alloc (.cells Z 70) := ⟨_, rfl⟩
  have hBZ : Blk W1 w.heap.size 70 Z.toList := by rw [hW1]; simpa using Blk.new w 70 Z.toList
  have g1 : w.grownBy W1 none := by rw [hW1]; exact gb_alloc (gb_refl _ _) _
  have h1 := h.fr (Fr.none g1 []) (fun _ _ e => by cases e)
  have hr := h1.range i hi
  have hc0 := h1.c0
  have hc2 := h1.c2
  have hlk := h1.und.map.look 59 58 Try.underlying59 (.slice none 0 0) (zero_secs W1) i false
  unfold keyN at hlk
  simp only [Bool.false_eq_true, if_false] at hlk
  obtain ⟨n, hn⟩ : ∃ n, n = D.safe.length := ⟨_, rfl⟩
  rw [← hn] at hc0 hi
  have hg := gb_row (cs := EB.toArray) (g := w.heap.size) g1 (Or.inl (Nat.le_refl _))
  have HBZ := hide hBZ
  have HIE := hide hiE
  have HIE2 := hide hiE2
  have HZE := hide hZE
  have HEO := hide hEo
  have HW1 := hide hW1
  by_cases hm : i ∈ K.map (·.1)
  · obtain ⟨v, hv⟩ : ∃ v, getI K i = some v := Option.isSome_iff_exists.1 ((getI_isSome K i).2 hm)
    rw [hv, Option.getD_some] at hlk
    have hrow := h1.und.row _ (getI_mem hv)
    simp only at hrow
    have hne : rowsU D.U i ≠ [] := rowsU_ne.2 ((h.und.keys i).1 hm)
    have hlen := rowsU_len D.U i
    obtain ⟨ao, cc, rfl, hR, _⟩ := Rws.own secC hrow (fun x hx => by rw [secC_len]; exact (h.ok.inn _ (rowsU_mem hx)).2)
    obtain ⟨j, hj⟩ : ∃ j, (rowsU D.U i).length = j + 1 := ⟨(rowsU D.U i).length - 1, by have := List.length_pos_iff.2 hne; omega⟩
    obtain ⟨b, o, rfl, hrr⟩ := hR.at j (by omega)
    have hEB2 : secC (rowsU D.U i)[j] = EB := by
      rw [hEB]
      unfold lastD
      rw [List.getLast?_eq_getElem?, List.getElem?_eq_getElem (by omega), Option.getD_some]
      congr 2
      omega
    rw [hEB2] at hrr
    rw [hj] at hlk hlen
    have hjl : j < 1000000 := by omega
    have hjw : IntKind.i64.wrap (((j + 1 : Nat) : Int) - 1) = (j : Int) := by rw [IntKind.wrap_i64]; omega
    have hjw2 : IntKind.i64.wrap ((j : Int) + 1 - 1) = (j : Int) := by rw [IntKind.wrap_i64]; omega
    rw [← hEB]
    clear hBZ hiE hiE2 hZE hEo hW1 hEB hEl h h1 hn hZ g1 hm hv hrow hne hlen hR hEB2 hr hj hU
    go_enter Try.func37, Try.ntmps37
    go_wp2_with (first
      | rw [← unhide HW1]
      | (refine wpList_load_mid rfl 70 _ rfl b (o + j * 256) rfl EB _ hrr Try.underlying70 rfl (unhide HIE) ?_; clear hrr)
      | (have hB9 := unhide HBZ; refine wpList_store_row rfl 70 _ _ rfl w.heap.size EB.toArray rfl rfl _ _ hB9 (unhide HIE2) (unhide HZE) (unhide HEO) ?_; clear hB9))
    refine bodyPost_ret (results_cell_row rfl _ _ _ _ _ _ _ rfl ((unhide HBZ).row EB) Try.underlying70 rfl (unhide HIE2)) rfl ?_
    exact ⟨rfl, hg⟩
  · rw [getI_none hm, Option.getD_none] at hlk
    have he : rowsU D.U i = [] := Classical.byContradiction fun hne => hm ((h.und.keys i).2 (rowsU_ne.1 hne))
    have hEB2 : secC (keptD D i) = EB := by rw [hEB]; unfold lastD; rw [he]; rfl
    rw [hEB2] at hr
    rw [← hEB]
    clear hBZ hiE hiE2 hZE hEo hW1 hEB hEl h h1 hn hZ g1 hm he hEB2 hU
    go_enter Try.func37, Try.ntmps37
    go_wp2_with (first
      | rw [← unhide HW1]
      | (refine wpList_load_mid rfl 70 _ rfl s (i * 256) rfl EB _ hr Try.underlying70 rfl (unhide HIE) ?_; clear hr)
      | (have hB9 := unhide HBZ; refine wpList_store_row rfl 70 _ _ rfl w.heap.size EB.toArray rfl rfl _ _ hB9 (unhide HIE2) (unhide HZE) (unhide HEO) ?_; clear hB9))
    refine bodyPost_ret (results_cell_row rfl _ _ _ _ _ _ _ rfl ((unhide HBZ).row EB) Try.underlying70 rfl (unhide HIE2)) rfl ?_
    exact ⟨rfl, hg⟩

end Go.Proofs.Ytfaipdifkmjdeaa
