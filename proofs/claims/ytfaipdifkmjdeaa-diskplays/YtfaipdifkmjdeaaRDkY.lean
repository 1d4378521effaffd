/- What the document's Sync and Fall answer (package coffretref14). -/
import Derived.Test.YtfaipdifkmjdeaaRDkS
import Derived.Test.YtfaipdifkmjdeaaDkFt
namespace Go.Proofs.Ytfaipdifkmjdeaa
open Go.RowKit

theorem bs_i1 (V : World) : (Instr.buildSlice 34 1 #[(0, .int .i64 256)]).run Try.prog V = .ok (.slice (some ⟨V.heap.size, 0, none⟩) 1 1) (V.alloc (.cells #[.int .i64 256] 3)) := by kernel_rfl
theorem info_intz : (Try.prog.info? 3).map (fun i => (i.zero, i.size, i.bytes)) = some (some (.int .i64 0), 1, 8) := by kernel_rfl
/-- 'append(own, number)'. -/
theorem wpList_append_iv {w : World} {ops : Array Oper} {rest : List Oper} {o : Oper} {a : Act} {Q : Exit → Act → World → Prop} (hgd : o.guard = none) (s x : Operand)
    (ho : o.op = .call { callee := .builtin .append, args := #[s, x], argTypes := #[34, 34] })
    (base : Nat) (v : Value) (n : Nat) (xs : List Value) (hs : a.eval s = v) (hown : w.ownsRow base 3 1 v n xs) (p : Nat) (y : Int) (hB : Blk w p 3 [ivc y])
    (hx : a.eval x = .slice (some ⟨p, 0, none⟩) 1 1) (hn : n ≤ 1000000) (hbase : base ≤ w.heap.size)
    (h : ∀ v' w', w'.ownsRow base 3 1 v' (n + 1) (xs ++ [ivc y]) → w.grownBy w' v.ownBlock → wpList Try.prog ops Q rest (a.put o.dst v') w') : wpList Try.prog ops Q (o :: rest) a w := by
  obtain ⟨i0, hi, hz0, hz1, hz2⟩ := info_parts info_intz
  exact wpList_append_own w hgd s x 34 ho base 3 i0 (.int .i64 0) 1 8 Try.underlying34 hi hz0 hz1 hz2 rfl (by decide) v n xs hs hown ⟨p, 0, none⟩ 1 1 [ivc y] hx rfl (fun j u hu => World.news_of_block hB j u (by simpa using hu)) (fun u hu => by simp at hu; subst hu; rfl) (by unfold maxLen; omega) (by omega) hbase (fun v' w' q1 q2 _ => h v' w' q1 q2)
theorem settle_rep (D : Dsk) : settleD (fateL (List.replicate D.U.length 256)) D = settleD (fun _ => 256) D := by
  have key : ∀ (U : List (Nat × List UInt8)) (k : Nat) (S : List (List UInt8)) (f g : Nat → Int), (∀ i, k ≤ i → i < k + U.length → f i = g i) → layAll f k U S = layAll g k U S := by
    intro U
    induction U with
    | nil => intro k S f g _; rfl
    | cons x U ih =>
      intro k S f g hfg
      rw [layAll, layAll, hfg k (Nat.le_refl _) (by simp), ih (k + 1) _ f g (fun i h1 h2 => hfg i (by omega) (by simp; omega))]
  unfold settleD
  rw [key D.U 0 D.safe _ (fun _ => 256) (fun i _ h2 => by unfold fateL; rw [List.getElem?_replicate, if_pos (by omega)]; rfl)]

set_option maxRecDepth 100000 in
set_option maxHeartbeats 4000000 in
theorem rfall_any (w : World) (so : Option Addr) (sc : Nat) (uo : Option Addr) (uc : Nat) (D : Dsk) (h : RdW w so sc uo uc D) (hok : D.Ok) (hU : D.U.length ≤ 1000000) (fo : Option Addr) (fc : Nat) (L : List Int) (hL : Nts w fo fc L) :
    Calls Try.prog 17 #[.agg (rdC so sc uo uc D).toArray, .slice fo L.length fc] w fun e w' => ∃ v, e = .returned v ∧ RdR w w' so uo v (faD D L) ∧ w.grownBy w' none := by
  obtain ⟨n1, hn1⟩ : ∃ n, n = D.safe.length := ⟨_, rfl⟩
  obtain ⟨n2, hn2⟩ : ∃ n, n = D.U.length := ⟨_, rfl⟩
  obtain ⟨n3, hn3⟩ : ∃ n, n = L.length := ⟨_, rfl⟩
  obtain ⟨lf, hlf⟩ : ∃ l, l = D.left := ⟨_, rfl⟩
  obtain ⟨dn, hdn⟩ : ∃ b, b = D.down := ⟨_, rfl⟩
  have e0 : rdC so sc uo uc D = [.slice so n1 sc, .slice uo n2 uc, .int .i64 lf, .bool dn] := by rw [hn1, hn2, hlf, hdn]; rfl
  rw [e0, ← hn3]
  obtain ⟨W1, hW1, hB1, g1⟩ := box_new w 30 [.slice so n1 sc, .slice uo n2 uc, .int .i64 lf, .bool dn]
  obtain ⟨W2, hW2, hB2, g2⟩ := box_new W1 30 [.slice none 0 0, .slice none 0 0, .int .i64 0, .bool false]
  have s1 : W1.heap.size = w.heap.size + 1 := by rw [hW1, World.size_alloc]
  rw [s1] at hB2
  have hB1' := hB1.kept g2 (by simp)
  have hzv := zero_rd
  have hfold : ((w.alloc (.cells #[.slice so n1 sc, .slice uo n2 uc, .int .i64 lf, .bool dn] 30)).alloc (.cells #[.slice none 0 0, .slice none 0 0, .int .i64 0, .bool false] 30)) = W2 := by rw [hW2, hW1]
  have HF := hide hfold
  have hra := blk_all hB1'
  have HB2 := hide hB1'
  have HC2 := hide hB2
  have HG2 := hide (tn g1 g2)
  have HSZ : Hid (w.heap.size + 2 ≤ W2.heap.size) := by rw [hW2, World.size_alloc, s1]; exact Nat.le_refl _
  have HN1 := hide hn1
  have cs := rsettled_any W2 so sc uo uc D (h.kept (tn g1 g2)) hok hU fo fc L (hL.kept (tn g1 g2))
  rw [e0, ← hn3] at cs
  clear hW1 hW2 hB1 hB2 hB1' g1 g2 s1 hfold h e0 hU hn1 hn2 hn3 hlf hdn hok hL
  go_enter Try.func17, Try.ntmps17
  go_upto_region 2 with (first
    | (rw [unhide HF])
    | (refine wpList_load_mid rfl 30 _ rfl w.heap.size 0 rfl [.slice so n1 sc, .slice uo n2 uc, .int .i64 lf, .bool dn] _ hra Try.underlying30 rfl info_rd ?_; clear hra)
    | (go_at_call 31; refine cs.mono ?_; rintro e w3 ⟨so3, sc3, rfl, h3, hn3, g3⟩; obtain ⟨m1, hm1⟩ : ∃ m, m = (settleD (fateL L) D).safe.length := ⟨_, rfl⟩; obtain ⟨l3, hl3⟩ : ∃ m, m = (settleD (fateL L) D).left := ⟨_, rfl⟩; obtain ⟨d3, hd3⟩ : ∃ m, m = (settleD (fateL L) D).down := ⟨_, rfl⟩; rw [show rdC so3 sc3 none 0 (settleD (fateL L) D) = [.slice so3 m1 sc3, .slice none 0 0, .int .i64 l3, .bool d3] by rw [hm1, hl3, hd3]; rfl]; have HM1 := hide hm1; have HB3 := hide ((unhide HB2).kept g3 (by simp)); have HC3 := hide ((unhide HC2).kept g3 (by simp)); have HG3 := hide (tn (unhide HG2) g3); have H3 := hide (And.intro h3 hn3); clear cs h3 hn3 g3 hm1 hl3 hd3)
    | (have hB9 := unhide HB3; refine wpList_store_row rfl 30 _ _ rfl w.heap.size _ rfl rfl _ _ hB9 info_rd rfl (rd4_one _ _ _ _ _ _ _ _) ?_; clear hB9))
  have hB4 := (unhide HB3).row [.slice so3 m1 sc3, .slice none 0 0, .int .i64 l3, .bool d3]
  have hC4 := (unhide HC3).row_other w.heap.size #[.slice so3 m1 sc3, .slice none 0 0, .int .i64 l3, .bool d3] (by omega)
  have g4 : w3.grownBy (w3.setRow w.heap.size #[.slice so3 m1 sc3, .slice none 0 0, .int .i64 l3, .bool d3]) (some w.heap.size) := gb_row (gb_refl _ _) _ (Or.inr rfl)
  obtain ⟨W4, hW4⟩ : ∃ W, W = w3.setRow w.heap.size #[.slice so3 m1 sc3, .slice none 0 0, .int .i64 l3, .bool d3] := ⟨_, rfl⟩
  rw [← hW4]
  rw [show ([.slice so3 m1 sc3, .slice none 0 0, .int .i64 l3, .bool d3] : List Value).toArray = #[.slice so3 m1 sc3, .slice none 0 0, .int .i64 l3, .bool d3] from rfl, ← hW4] at hB4
  rw [← hW4] at hC4 g4
  clear hW4
  have c2 := hB4.cell 2
  have f2 := hB4.fz 2
  have hB5 := hB4.set 2 (.int .i64 (-1))
  have c3 := hB5.cell 3
  have f3 := hB5.fz 3
  have hB6 := hB5.set 3 (.bool false)
  have hC6 := (hC4.other ⟨w.heap.size, 2, none⟩ (.int .i64 (-1)) (by simp)).other ⟨w.heap.size, 3, none⟩ (.bool false) (by simp)
  have g6 : W4.grownBy ((W4.setCell ⟨w.heap.size, 2, none⟩ (.int .i64 (-1))).setCell ⟨w.heap.size, 3, none⟩ (.bool false)) (some w.heap.size) := gb_setCell (gb_set _ _ _ _) _ _ (Or.inr rfl)
  obtain ⟨W6, hW6⟩ : ∃ W, W = (W4.setCell ⟨w.heap.size, 2, none⟩ (.int .i64 (-1))).setCell ⟨w.heap.size, 3, none⟩ (.bool false) := ⟨_, rfl⟩
  rw [← hW6] at hB6 hC6 g6
  simp only [List.set_cons_zero, List.set_cons_succ, List.getElem?_cons_zero, List.getElem?_cons_succ] at c2 c3 hB6
  have hra := blk_all hB6
  have HW6 := hide hW6
  have HC6 := hide hC6
  have HG6 := hide (gb_trans (unhide HG3) (gb_trans g4 g6 (fun x e => Or.inr e)) (fun x e => by cases e; exact Or.inl (Nat.le_refl _)))
  have HG46 := hide (gb_trans g4 g6 (fun x e => Or.inr e))
  clear hB4 hC4 g4 hB5 hB6 hC6 g6 hW6
  go_wp2_with (first
    | (rw [← unhide HW6])
    | (refine wpList_load_mid rfl 30 _ rfl w.heap.size 0 rfl [.slice so3 m1 sc3, .slice none 0 0, .int .i64 (-1), .bool false] _ hra Try.underlying30 rfl info_rd ?_; clear hra)
    | (have hB9 := unhide HC6; refine wpList_store_row rfl 30 _ _ rfl (w.heap.size + 1) _ rfl rfl _ _ hB9 info_rd rfl (rd4_one _ _ _ _ _ _ _ _) ?_; clear hB9))
  refine bodyPost_ret (results_cell_row rfl _ _ _ _ _ _ _ rfl ((unhide HC6).row [.slice so3 m1 sc3, .slice none 0 0, .int .i64 (-1), .bool false]) Try.underlying30 rfl info_rd) rfl ?_
  have g8 : W6.grownBy (W6.setRow (w.heap.size + 1) #[.slice so3 m1 sc3, .slice none 0 0, .int .i64 (-1), .bool false]) (some (w.heap.size + 1)) := gb_row (gb_refl _ _) _ (Or.inr rfl)
  refine ⟨_, rfl, ⟨so3, sc3, none, 0, ?_, ?_, (fun ad e => Or.inr (by have := (unhide H3).2 ad e; have := unhide HSZ; have := (unhide HG46).size; have := g8.size; omega)), (fun _ e => by cases e)⟩, gb_trans (unhide HG6) g8 (fun x e => by cases e; exact Or.inl (by omega))⟩
  · rw [unhide HM1]
    rfl
  · have hlo := fun ad e => Nat.le_trans (unhide HSZ) ((unhide H3).2 ad e).1
    have h9 := (unhide H3).1.off (unhide HG46) (fun ad e e2 => by injection e2 with e2; have := hlo ad e; omega) (fun _ e => by cases e)
    exact (h9.off g8 (fun ad e e2 => by injection e2 with e2; have := hlo ad e; omega) (fun _ e => by cases e)).same rfl rfl

set_option maxRecDepth 100000 in
set_option maxHeartbeats 8000000 in
theorem rsync_any (w : World) (so : Option Addr) (sc : Nat) (uo : Option Addr) (uc : Nat) (D : Dsk) (h : RdW w so sc uo uc D) (hok : D.Ok) (hU : D.U.length ≤ 1000000) (hl1 : -9223372036854775808 ≤ D.left) :
    Calls Try.prog 12 #[.agg (rdC so sc uo uc D).toArray] w fun e w' => ∃ v, e = .returned (.tuple #[v, .int .i64 (rsy D).2]) ∧ RdR w w' so uo v (rsy D).1 ∧ w.grownBy w' none := by
  obtain ⟨n1, hn1⟩ : ∃ n, n = D.safe.length := ⟨_, rfl⟩
  obtain ⟨n2, hn2⟩ : ∃ n, n = D.U.length := ⟨_, rfl⟩
  obtain ⟨lf, hlf⟩ : ∃ l, l = D.left := ⟨_, rfl⟩
  obtain ⟨dn, hdn⟩ : ∃ b, b = D.down := ⟨_, rfl⟩
  have e0 : rdC so sc uo uc D = [.slice so n1 sc, .slice uo n2 uc, .int .i64 lf, .bool dn] := by rw [hn1, hn2, hlf, hdn]; rfl
  rw [e0]
  obtain ⟨W1, hW1, hB1, g1⟩ := box_new w 30 [.slice so n1 sc, .slice uo n2 uc, .int .i64 lf, .bool dn]
  obtain ⟨W2, hW2, hB2, g2⟩ := box_new W1 30 [.slice none 0 0, .slice none 0 0, .int .i64 0, .bool false]
  have s1 : W1.heap.size = w.heap.size + 1 := by rw [hW1, World.size_alloc]
  have s2 : W2.heap.size = w.heap.size + 2 := by rw [hW2, World.size_alloc, s1]
  rw [s1] at hB2
  have hB1' := hB1.kept g2 (by simp)
  have hzv := zero_rd
  have hfold : ((w.alloc (.cells #[.slice so n1 sc, .slice uo n2 uc, .int .i64 lf, .bool dn] 30)).alloc (.cells #[.slice none 0 0, .slice none 0 0, .int .i64 0, .bool false] 30)) = W2 := by rw [hW2, hW1]
  have HF := hide hfold
  have hra := blk_all hB1'
  have hc3 := hB1'.cell 3
  simp only [List.getElem?_cons_zero, List.getElem?_cons_succ] at hc3
  have HB2 := hide hB1'
  have HC2 := hide hB2
  have HG2 := hide (tn g1 g2)
  have HSZ := hide s2
  have HN := hide (And.intro hn1 (And.intro hn2 (And.intro hlf hdn)))
  have H2 := hide h
  have HOK := hide hok
  have HUB := hide hU
  have cl := rcall_any W2 so sc uo uc D hl1 hok.lim
  rw [e0] at cl
  have hn2b : n2 ≤ 1000000 := by omega
  clear hW1 hW2 hB1 hB2 hB1' g1 g2 s1 s2 hfold h e0 hU hn1 hn2 hlf hok hl1
  cases dn with
  | true =>
    have er : rsy D = (D, 17) := by unfold rsy; rw [if_pos (unhide HN).2.2.2.symm]
    rw [er]
    clear er cl hdn
    go_enter Try.func12, Try.ntmps12
    go_wp2_with (first
      | (rw [unhide HF])
      | (refine wpList_load_mid rfl 30 _ rfl w.heap.size 0 rfl [.slice so n1 sc, .slice uo n2 uc, .int .i64 lf, .bool true] _ hra Try.underlying30 rfl info_rd ?_; clear hra)
      | (have hB9 := unhide HC2; refine wpList_store_row rfl 30 _ _ rfl (w.heap.size + 1) _ rfl rfl _ _ hB9 info_rd rfl (rd4_one _ _ _ _ _ _ _ _) ?_; clear hB9))
    refine bodyPost_ret (results_row_tmp rfl _ _ _ _ _ _ _ rfl ((unhide HC2).row [.slice so n1 sc, .slice uo n2 uc, .int .i64 lf, .bool true]) Try.underlying30 rfl info_rd) rfl ?_
    have g : w.grownBy (W2.setRow (w.heap.size + 1) #[.slice so n1 sc, .slice uo n2 uc, .int .i64 lf, .bool true]) none := gb_row (unhide HG2) _ (Or.inl (by omega))
    exact ⟨_, rfl, ⟨so, sc, uo, uc, by rw [(unhide HN).1, (unhide HN).2.1, (unhide HN).2.2.1, (unhide HN).2.2.2]; rfl, (unhide H2).kept g, (fun _ e => Or.inl e), (fun _ e => Or.inl e)⟩, g⟩
  | false =>
    have hdf : ¬ D.down = true := by rw [← hdn]; decide
    have hcs := rcall_safe D
    obtain ⟨E, hE⟩ : ∃ E, E = (rcall D).1 := ⟨_, rfl⟩
    obtain ⟨dn2, hdn2⟩ : ∃ b, b = (rcall D).2 := ⟨_, rfl⟩
    have hEok : E.Ok := by
      have ok := unhide HOK
      rw [hE]
      unfold rcall
      split
      · exact ⟨ok.pos, ok.most, ok.wide, ok.inn, by show (-1 : Int) < _; decide⟩
      · split
        · exact ⟨ok.pos, ok.most, ok.wide, ok.inn, by have := ok.lim; show D.left - 1 < _; omega⟩
        · exact ok
    have er : rsy D = if dn2 = true then (settleD (fun _ => 256) E, 0) else (E, 17) := by
      unfold rsy
      rw [if_neg hdf, ← hE, ← hdn2]
    rw [er]
    obtain ⟨RS, hRS⟩ : ∃ x, x = (if dn2 = true then (settleD (fun _ => 256) E, (0 : Int)) else (E, 17)) := ⟨_, rfl⟩
    rw [← hRS]
    have HRS := hide hRS
    clear hRS
    rw [← hE] at hcs cl
    rw [← hdn2] at cl
    obtain ⟨lf2, hlf2⟩ : ∃ l, l = E.left := ⟨_, rfl⟩
    obtain ⟨dw, hdw⟩ : ∃ l, l = E.down := ⟨_, rfl⟩
    have e1 : rdC so sc uo uc E = [.slice so n1 sc, .slice uo n2 uc, .int .i64 lf2, .bool dw] := by rw [(unhide HN).1, (unhide HN).2.1, hlf2, hdw, ← hcs.1, ← hcs.2]; rfl
    rw [e1] at cl
    have HE1 := hide e1
    have HEok := hide hEok
    have HCS := hide hcs
    have HNU : Hid (n2 = E.U.length) := by rw [hcs.2]; exact (unhide HN).2.1
    clear er hE hdn2 hlf2 hdw e1 hEok hcs hdf hdn
    go_enter Try.func12, Try.ntmps12
    go_upto_region 4 with (first
      | (rw [unhide HF])
      | (refine wpList_load_mid rfl 30 _ rfl w.heap.size 0 rfl [.slice so n1 sc, .slice uo n2 uc, .int .i64 lf, .bool false] _ hra Try.underlying30 rfl info_rd ?_; clear hra)
      | (go_at_call 27; refine cl.mono ?_; rintro e w3 ⟨rfl, g3⟩; clear cl; have HB3 := hide ((unhide HB2).kept g3 (by simp)); have HC3 := hide ((unhide HC2).kept g3 (by simp)); have HG3 := hide g3; clear g3)
      | (have hB9 := unhide HB3; refine wpList_store_row rfl 30 _ _ rfl w.heap.size _ rfl rfl _ _ hB9 info_rd rfl (rd4_one _ _ _ _ _ _ _ _) ?_; clear hB9))
    obtain ⟨W4, hW4⟩ : ∃ W, W = w3.setRow w.heap.size #[.slice so n1 sc, .slice uo n2 uc, .int .i64 lf2, .bool dw] := ⟨_, rfl⟩
    rw [← hW4]
    have hB4 := (unhide HB3).row [.slice so n1 sc, .slice uo n2 uc, .int .i64 lf2, .bool dw]
    have hC4 := (unhide HC3).row_other w.heap.size #[.slice so n1 sc, .slice uo n2 uc, .int .i64 lf2, .bool dw] (by omega)
    have g4 : w.grownBy W4 none := by rw [hW4]; exact gb_row (tn (unhide HG2) (unhide HG3)) _ (Or.inl (Nat.le_refl _))
    rw [show ([.slice so n1 sc, .slice uo n2 uc, .int .i64 lf2, .bool dw] : List Value).toArray = #[.slice so n1 sc, .slice uo n2 uc, .int .i64 lf2, .bool dw] from rfl, ← hW4] at hB4
    rw [← hW4] at hC4
    have HB4 := hide hB4
    have HC4 := hide hC4
    have HG4 := hide g4
    have HS4 : Hid (w.heap.size + 2 ≤ W4.heap.size) := by have h1 := (unhide HG3).size; have h2 : w3.heap.size ≤ W4.heap.size := (by rw [hW4]; exact (gb_row (gb_refl w3 (some w.heap.size)) _ (Or.inr rfl)).size); have := unhide HSZ; show _ ≤ _; omega
    clear hW4 hB4 hC4 g4 HB3 HC3 HG3 HB2 HC2 HF
    have hra := blk_all (unhide HB4)
    cases dn2 with
    | false =>
      go_wp2_with (first
        | (refine wpList_load_mid rfl 30 _ rfl w.heap.size 0 rfl [.slice so n1 sc, .slice uo n2 uc, .int .i64 lf2, .bool dw] _ hra Try.underlying30 rfl info_rd ?_; clear hra)
        | (have hB9 := unhide HC4; refine wpList_store_row rfl 30 _ _ rfl (w.heap.size + 1) _ rfl rfl _ _ hB9 info_rd rfl (rd4_one _ _ _ _ _ _ _ _) ?_; clear hB9))
      refine bodyPost_ret (results_row_tmp rfl _ _ _ _ _ _ _ rfl ((unhide HC4).row [.slice so n1 sc, .slice uo n2 uc, .int .i64 lf2, .bool dw]) Try.underlying30 rfl info_rd) rfl ?_
      have g : w.grownBy (W4.setRow (w.heap.size + 1) #[.slice so n1 sc, .slice uo n2 uc, .int .i64 lf2, .bool dw]) none := gb_row (unhide HG4) _ (Or.inl (by omega))
      rw [show RS = (E, 17) from (unhide HRS).trans (if_neg (by decide))]
      exact ⟨_, rfl, ⟨so, sc, uo, uc, by rw [unhide HE1], ((unhide H2).kept g).same (unhide HCS).1 (unhide HCS).2, (fun _ e => Or.inl e), (fun _ e => Or.inl e)⟩, g⟩
    | true =>
      have hc1 := (unhide HB4).cell 1
      simp only [List.getElem?_cons_zero, List.getElem?_cons_succ] at hc1
      go_wp2
      go_loopw [5, 6] (fun v i wr => ∃ j : Nat, i = .int .i64 j ∧ j ≤ n2 ∧ Hid (wr.ownsRow W4.heap.size 3 1 v j ((List.replicate j (256 : Int)).map ivc) ∧ W4.grownBy wr none)) (fun _ i _ => n2 - (intOf i).toNat)
      case atStart => exact ⟨0, rfl, Nat.zero_le _, World.ownsRow_nil _ _ _ _, gb_refl _ _⟩
      case round =>
        obtain ⟨j, rfl, hj, HR⟩ := hrel
        have hcr := (unhide HR).2.cell hc1 (by simp)
        by_cases hlt : j < n2
        · have hji : (j : Int) < (n2 : Int) := by omega
          have hjw : IntKind.i64.wrap ((j : Int) + 1) = (j : Int) + 1 := by rw [IntKind.wrap_i64]; omega
          obtain ⟨W5, hW5, hB5, g5⟩ := box_new wr 3 [ivc 256]
          have ho5 := own_keepT (unhide HR).1 g5
          have hg5 := tn (unhide HR).2 g5
          have hb5 := hg5.size
          have hsn : (List.replicate (j + 1) (256 : Int)).map ivc = (List.replicate j (256 : Int)).map ivc ++ [ivc 256] := by rw [List.replicate_succ', List.map_append]; rfl
          have HW5 := hide (show W5 = wr.alloc (.cells #[.int .i64 256] 3) from hW5)
          have HB5 := hide hB5
          have HO5 := hide ho5
          have HG5 := hide hg5
          have HSN := hide hsn
          have hbs := bs_i1
          have hj1 : j ≤ 1000000 := by omega
          clear hW5 hB5 g5 ho5 hg5 hsn HR
          go_wp2_with (first
            | (refine wpList_build1 rfl 34 _ rfl (.int .i64 256) _ rfl (hbs _) ?_; rw [← unhide HW5])
            | (refine wpList_append_iv rfl _ _ rfl W4.heap.size u5 j _ rfl (unhide HO5) wr.heap.size 256 (unhide HB5) rfl hj1 hb5 ?_; intro v6 w6 ho6 g6; obtain ⟨a6, c6, rfl⟩ := own_val ho6; have HO6 := hide (And.intro ho6 (gb_trans (unhide HG5) g6 (fun x e => Or.inl ((unhide HO5).lt x e).1))); clear ho6 g6))
          go_roundw
          case rel => exact ⟨j + 1, by go_num, by omega, by rw [unhide HSN]; exact unhide HO6⟩
          case measure => simp [intOf]; omega
        · have hjn : j = n2 := by omega
          have hji : ¬ (j : Int) < (n2 : Int) := by omega
          subst hjn
          have el : (List.replicate j (256 : Int)).length = j := List.length_replicate
          obtain ⟨ao, c, e1, e2, -⟩ := nts_own (L := List.replicate j (256 : Int)) (by rw [el]; exact (unhide HR).1)
          rw [el] at e1
          have hg := tn (unhide HG4) (unhide HR).2
          have cs := rsettled_any wr so sc uo uc E (((unhide H2).kept hg).same (unhide HCS).1 (unhide HCS).2) (unhide HEok) (by rw [(unhide HCS).2]; exact unhide HUB) ao c _ e2
          rw [el, unhide HE1, show List.replicate j (256 : Int) = List.replicate E.U.length 256 by rw [← unhide HNU], settle_rep] at cs
          have hra := blk_all ((unhide HB4).kept (unhide HR).2 (by simp))
          have HC5 := hide ((unhide HC4).kept (unhide HR).2 (by simp))
          have HG5 := hide hg
          have HS5 := hide (Nat.le_trans (unhide HS4) (unhide HR).2.size)
          subst e1
          clear hg e2 HR el hji
          go_wp2_with (first
            | (refine wpList_load_mid rfl 30 _ rfl w.heap.size 0 rfl [.slice so n1 sc, .slice uo j uc, .int .i64 lf2, .bool dw] _ hra Try.underlying30 rfl info_rd ?_; clear hra)
            | (go_at_call 31; refine cs.mono ?_; rintro e w6 ⟨so3, sc3, rfl, h3, hn3, g3⟩; clear cs; have HC6 := hide ((unhide HC5).kept g3 (by simp)); have HG6 := hide (tn (unhide HG5) g3); have H3 := hide (And.intro h3 hn3); obtain ⟨m1, hm1⟩ : ∃ m, m = (settleD (fun _ => 256) E).safe.length := ⟨_, rfl⟩; obtain ⟨l3, hl3⟩ : ∃ m, m = (settleD (fun _ => 256) E).left := ⟨_, rfl⟩; obtain ⟨d3, hd3⟩ : ∃ m, m = (settleD (fun _ => 256) E).down := ⟨_, rfl⟩; rw [show rdC so3 sc3 none 0 (settleD (fun _ => 256) E) = [.slice so3 m1 sc3, .slice none 0 0, .int .i64 l3, .bool d3] by rw [hm1, hl3, hd3]; rfl]; have HM := hide (And.intro hm1 (And.intro hl3 hd3)); clear h3 hn3 g3 hm1 hl3 hd3)
            | (have hB9 := unhide HC6; refine wpList_store_row rfl 30 _ _ rfl (w.heap.size + 1) _ rfl rfl _ _ hB9 info_rd rfl (rd4_one _ _ _ _ _ _ _ _) ?_; clear hB9))
          refine bodyPost_ret (results_row_tmp rfl _ _ _ _ _ _ _ rfl ((unhide HC6).row [.slice so3 m1 sc3, .slice none 0 0, .int .i64 l3, .bool d3]) Try.underlying30 rfl info_rd) rfl ?_
          have g8 : w6.grownBy (w6.setRow (w.heap.size + 1) #[.slice so3 m1 sc3, .slice none 0 0, .int .i64 l3, .bool d3]) (some (w.heap.size + 1)) := gb_row (gb_refl _ _) _ (Or.inr rfl)
          rw [show RS = (settleD (fun _ => 256) E, 0) from (unhide HRS).trans (by simp)]
          refine ⟨_, rfl, ⟨so3, sc3, none, 0, ?_, ?_, (fun ad e => Or.inr (by have := (unhide H3).2 ad e; have := unhide HS5; have := g8.size; omega)), (fun _ e => by cases e)⟩, gb_trans (unhide HG6) g8 (fun x e => by cases e; exact Or.inl (by omega))⟩
          · rw [(unhide HM).1, (unhide HM).2.1, (unhide HM).2.2]
            rfl
          · exact (unhide H3).1.off g8 (fun ad e e2 => by injection e2 with e2; have := ((unhide H3).2 ad e).1; have := unhide HS5; omega) (fun _ e => by cases e)

end Go.Proofs.Ytfaipdifkmjdeaa
