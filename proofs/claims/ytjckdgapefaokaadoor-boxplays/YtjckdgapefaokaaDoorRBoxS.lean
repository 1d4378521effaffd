/- What the document's Seal (package coffretref08) answers. Of keys of 32 bytes, texts and besides of at most 200, first bytes of at most 1000. -/
import Derived.Test.YtjckdgapefaokaaDoorRBox
import Derived.Test.YtjckdgapefaokaaDoorBIdeal
import Derived.Test.YtjckdgapefaokaaDoorARefO
import Derived.Test.YtjckdgapefaokaaDoorKEqual
namespace Go.Proofs.YtjckdgapefaokaaDoor
open Go.RowKit

theorem results_cell_tmp2 {fn : Func} {p u x : Tmp} {ty : TypeId} (h : fn.results = #[.cell p ty, .tmp u, .tmp x]) (tmps : Array Value) (P : Program) (w : World) :
    (results fn tmps).run P w =
      ((asAddr (tmps.getD p undef)).run P w).andThen fun a w1 => ((loadVar ty a).run P w1).andThen fun v w2 => .ok (.tuple #[v, tmps.getD u undef, tmps.getD x undef]) w2 := by
  simp only [results, h]
  simp [Sem.run_bind, Result.andThen]

theorem results_row_tmp2 {P : Program} {fn : Func} {p u x : Tmp} {ty : TypeId} (h : fn.results = #[.cell p ty, .tmp u, .tmp x]) (tmps : Array Value) (w : World) (g : Nat) (t : TypeId) (cs : Array Value) (fr : Nat × Nat) (d : TypeDesc)
    (hp : tmps.getD p undef = .pointer (some ⟨g, 0, none⟩)) (hg : w.heap[g]? = some (.cells cs t fr))
    (hu : P.underlying ty = some d) (hd : (match d with | .struct _ | .array _ _ => true | _ => false) = true) (hi : (P.info? ty).map (·.size) = some cs.size) :
    (results fn tmps).run P w = .ok (.tuple #[.agg cs, tmps.getD u undef, tmps.getD x undef]) w := by
  rw [results_cell_tmp2 h, hp]
  simp [asAddr, run_loadVar_row w g t ty cs fr d hg hu hd hi]

theorem info_ent : (Tryd.prog.info? 44).map (fun i => (i.zero, i.size, i.bytes)) = some (some (.agg #[.string (str []), .string (str []), .string (str []), .string (str [])]), 4, 64) := by kernel_rfl

/-- 'append(own, L...)', L a row of entries. -/
theorem wpList_append_all {w : World} {ops : Array Oper} {rest : List Oper} {o : Oper} {a : Act} {Q : Exit → Act → World → Prop} (hgd : o.guard = none) (s x : Operand)
    (ho : o.op = .call { callee := .builtin .append, args := #[s, x], argTypes := #[31, 31] })
    (base base2 : Nat) (v v2 : Value) (L : List Ent) (hs : a.eval s = v) (hown : w.ownsRow base 44 4 v 0 []) (hx : a.eval x = v2) (hR : Rl w base2 v2 L) (hn : L.length ≤ 1000) (hbase : base ≤ w.heap.size)
    (h : ∀ v' w', Rl w' base v' L → w.grownBy w' v.ownBlock → wpList Tryd.prog ops Q rest (a.put o.dst v') w') : wpList Tryd.prog ops Q (o :: rest) a w := by
  obtain ⟨i0, hi, hz0, hz1, hz2⟩ := info_parts info_ent
  obtain ⟨oo, oc, hv2, hoo⟩ := hR.form
  have hR0 := hR
  rw [hv2] at hR hx
  rcases hR.2 with ⟨h1, h2⟩ | ⟨g, cap, cur, h1, _, _, h3, h4, _⟩
  · have : L = [] := List.eq_nil_of_length_eq_zero h2
    subst this
    rw [h1] at hx
    exact wpList_append_own_none hgd s x 31 ho base 44 i0 4 Tryd.underlying31 hi v 0 [] hs hown hx (h v w hown (gb_refl _ _))
  · injection h1 with e1 e2 e3
    subst e1
    refine wpList_append_own w hgd s x 31 ho base 44 i0 _ 4 64 Tryd.underlying31 hi hz0 hz1 hz2 rfl (by decide) v 0 [] hs hown ⟨g, 0, none⟩ L.length oc (L.flatMap entC) hx (ent_len L) ?_ (ent_one L) (by unfold maxLen; omega) (by omega) hbase ?_
    · intro j u hu
      exact World.ownsRow.cells hR (g := g) rfl j u hu
    · intro v' w' q1 q2 _
      rw [Nat.zero_add, List.nil_append] at q1
      exact h v' w' q1 q2

/-- 'append(own, e)'. -/
theorem wpList_append_ent {w : World} {ops : Array Oper} {rest : List Oper} {o : Oper} {a : Act} {Q : Exit → Act → World → Prop} (hgd : o.guard = none) (s x : Operand)
    (ho : o.op = .call { callee := .builtin .append, args := #[s, x], argTypes := #[31, 31] })
    (base : Nat) (v : Value) (L : List Ent) (e : Ent) (hs : a.eval s = v) (hR : Rl w base v L) (p : Nat) (hx : a.eval x = .slice (some ⟨p, 0, none⟩) 1 1) (hp : Blk w p 44 (entC e)) (hn : L.length ≤ 1000) (hbase : base ≤ w.heap.size)
    (h : ∀ v' w', Rl w' base v' (L ++ [e]) → w.grownBy w' v.ownBlock → wpList Tryd.prog ops Q rest (a.put o.dst v') w') : wpList Tryd.prog ops Q (o :: rest) a w := by
  obtain ⟨i0, hi, hz0, hz1, hz2⟩ := info_parts info_ent
  refine wpList_append_own w hgd s x 31 ho base 44 i0 _ 4 64 Tryd.underlying31 hi hz0 hz1 hz2 rfl (by decide) v L.length (L.flatMap entC) hs hR ⟨p, 0, none⟩ 1 1 (entC e) hx rfl ?_ ?_ (by unfold maxLen; omega) (by omega) hbase ?_
  · intro j u hu
    rw [Addr.add_lit, Nat.zero_add, hp.cell, hu]
  · intro u hu
    exact ent_one [e] u (by simpa using hu)
  · intro v' w' q1 q2 _
    refine h v' w' ?_ q2
    unfold Rl
    rw [List.flatMap_append, List.length_append]
    simpa using q1

theorem Rl.base {w : World} {base b : Nat} {v : Value} {L : List Ent} (h : Rl w base v L) (hb : b ≤ base) : Rl w b v L := by
  refine ⟨h.1, ?_⟩
  rcases h.2 with h2 | ⟨g, cap, cur, h1, h3, h4⟩
  · exact Or.inl h2
  · exact Or.inr ⟨g, cap, cur, h1, Nat.le_trans hb h3, h4⟩

theorem rb_new (V : World) (Z D : List Value) : ∃ W, W = (V.alloc (.cells Z.toArray 33)).setRow V.heap.size D.toArray ∧ Blk W V.heap.size 33 D ∧ V.grownBy W none :=
  ⟨_, rfl, (Blk.new V _ Z).row D, gb_row (gb_alloc (gb_refl _ _) _) _ (Or.inl (Nat.le_refl _))⟩

theorem ent_own (V : World) (base : Nat) (h : base ≤ V.heap.size) : ∃ W, W = V.alloc (.cells #[] 44) ∧ W.ownsRow base 44 4 (.slice (some ⟨V.heap.size, 0, none⟩) 0 0) 0 [] ∧ V.grownBy W none :=
  ⟨_, rfl, World.ownsRow_made V #[] 0 h (by unfold maxLen; omega) rfl, gb_alloc (gb_refl _ _) _⟩

theorem ent_new (V : World) (a b c d : ByteArray) : ∃ W, W = V.alloc (.cells #[.string a, .string b, .string c, .string d] 44) ∧ Blk W V.heap.size 44 [.string a, .string b, .string c, .string d] ∧ V.grownBy W none :=
  ⟨_, rfl, Blk.new V _ _, gb_alloc (gb_refl _ _) _⟩

theorem built_ent1 (a : ByteArray) : Tryd.prog.built 44 [(0, .string a)] = some #[.string a, .string (str []), .string (str []), .string (str [])] := by kernel_rfl
theorem built_ent4 (a b c d : ByteArray) : Tryd.prog.built 44 [(0, .string a), (1, .string b), (2, .string c), (3, .string d)] = some #[.string a, .string b, .string c, .string d] := by kernel_rfl

/-- A block outlasts an append onto a row of entries of one's own. -/
theorem blk_rl {w a : World} {base n p : Nat} {v : Value} {xs cs : List Value} {t : TypeId} (h : Blk w p t cs) (hR : w.ownsRow base 44 4 v n xs) (g : w.grownBy a v.ownBlock) (ht : t ≠ 44) : Blk a p t cs := by
  refine h.kept g (fun e => ?_)
  rcases hR.2 with ⟨rfl, _⟩ | ⟨q, cap, cur, rfl, _, hh, _⟩
  · cases e
  · have e2 : p = q := by simpa [Value.ownBlock] using e
    subst e2
    unfold Blk at h
    rw [h] at hh
    injection hh with h3
    injection h3 with _ h4
    exact ht h4

theorem blk_ne_rl {w : World} {base n p : Nat} {v : Value} {xs cs : List Value} (h : Blk w p 33 cs) (hR : w.ownsRow base 44 4 v n xs) : some p ≠ v.ownBlock := by
  intro e
  rcases hR.2 with ⟨rfl, _⟩ | ⟨q, cap, cur, rfl, _, hh, _⟩
  · cases e
  · have e2 : p = q := by simpa [Value.ownBlock] using e
    subst e2
    unfold Blk at h
    rw [h] at hh
    injection hh with h3
    injection h3 with _ h4
    exact absurd h4 (by decide)

/-- What a Seal of the document's leaves. -/
def RSealed (w : World) (base : Nat) (R : BoxS × Option (List UInt8)) (e : Ending) (w' : World) : Prop :=
  ∃ v', e = .returned (.tuple #[.agg (rbC (R.1.mode : Int) R.1.T R.1.u v').toArray, .string (str (txtO R.2)), .int .i64 (errO R.2)]) ∧ Rl w' base v' R.1.L ∧ w.grownBy w' none

set_option maxRecDepth 100000 in
set_option maxHeartbeats 4000000 in
theorem rseal8_any (w : World) (base : Nat) (B : BoxS) (v : Value) (k be tx : List UInt8) (hR : Rl w base v B.L) (hb0 : base ≤ w.heap.size) (hk : k.length = 32) (hbe : be.length ≤ 200) (ht : tx.length ≤ 200) (hm : B.mode = 0 ∨ B.mode = 1) (hF : B.T.length ≤ 1000) (hus : B.u ≤ 60000) (hn : B.L.length ≤ 900) :
    Calls Tryd.prog 13 #[.agg (rbC (B.mode : Int) B.T B.u v).toArray, .string (str k), .string (str be), .string (str tx)] w (RSealed w base (B.seal k be tx)) := by
  obtain ⟨Z, hZ⟩ : ∃ Z : List Value, Z = [.int .i64 0, .string (str []), .int .i64 0, .slice none 0 0] := ⟨_, rfl⟩
  have hzv : ∀ w, (zeroValue 33).run Tryd.prog w = .ok (.agg Z.toArray) w := fun w => by rw [hZ]; exact zero_rbox w
  have hsZ : Z.toArray.size = 4 := by rw [hZ]; rfl
  obtain ⟨C, hC⟩ : ∃ C, C = rbC (B.mode : Int) B.T B.u v := ⟨_, rfl⟩
  have hsC : C.toArray.size = 4 := by rw [hC]; rfl
  obtain ⟨W2, hW2⟩ : ∃ W2, W2 = (w.alloc (.cells C.toArray 33)).alloc (.cells Z.toArray 33) := ⟨_, rfl⟩
  have g2 : w.grownBy W2 none := by rw [hW2]; exact gb_alloc (gb_alloc (gb_refl _ _) _) _
  have hs2 : W2.heap.size = w.heap.size + 2 := by rw [hW2, World.size_alloc, World.size_alloc]
  have hC2 : Blk W2 w.heap.size 33 C := by rw [hW2]; exact (Blk.new w _ _).alloc _
  have hZ2 : Blk W2 (w.heap.size + 1) 33 Z := by
    have := Blk.new (w.alloc (.cells C.toArray 33)) 33 Z
    rw [World.size_alloc] at this
    rw [hW2]; exact this
  have hc0 : W2.cell? ⟨w.heap.size, 0, none⟩ = some (.int .i64 (B.mode : Int)) := by rw [hC2.cell, hC]; rfl
  have hone := hR.one
  obtain ⟨ST, hST⟩ : ∃ S, S = str tx := ⟨_, rfl⟩
  obtain ⟨SK, hSK⟩ : ∃ S, S = str k := ⟨_, rfl⟩
  obtain ⟨SB, hSB⟩ : ∃ S, S = str be := ⟨_, rfl⟩
  have ht1 : ST.size = tx.length := by rw [hST, str_size]
  have ht2 : SB.size = be.length := by rw [hSB, str_size]
  obtain ⟨nt, hnt⟩ : ∃ n, n = tx.length := ⟨_, rfl⟩
  obtain ⟨nb, hnb⟩ : ∃ n, n = be.length := ⟨_, rfl⟩
  rw [← hnt] at ht1 ht
  rw [← hnb] at ht2 hbe
  have hbg1 : ¬ (65536 : Int) < (nt : Int) := by omega
  have hbg2 : ¬ (65536 : Int) < (nb : Int) := by omega
  obtain ⟨R, hRR⟩ : ∃ R, R = B.seal k be tx := ⟨_, rfl⟩
  rw [← hRR, ← hST, ← hSK, ← hSB, ← hC]
  -- how it ends: the result's block is written
  have fin : ∀ (V : World) (D : List Value) (v' : Value) (r : List UInt8) (z : Int), Blk V (w.heap.size + 1) 33 Z → D = rbC (R.1.mode : Int) R.1.T R.1.u v' → txtO R.2 = r → errO R.2 = z → Rl V w.heap.size v' R.1.L ∨ Rl V base v' R.1.L → w.grownBy V none →
      Blk (V.setRow (w.heap.size + 1) D.toArray) (w.heap.size + 1) 33 D ∧ RSealed w base R (.returned (.tuple #[.agg D.toArray, .string (str r), .int .i64 z])) (V.setRow (w.heap.size + 1) D.toArray) := fun V D v' r z hV hD hr hz hRV gV => by
    refine ⟨hV.row D, v', by rw [hD, ← hr, ← hz], ?_, gb_row gV _ (Or.inl (Nat.le_succ _))⟩
    have hRB : Rl V base v' R.1.L := by
      rcases hRV with h | h
      · exact h.base hb0
      · exact h
    refine World.ownsRow.kept hRB (show V.grownBy (V.setRow (w.heap.size + 1) D.toArray) (some (w.heap.size + 1)) from gb_row (gb_refl _ _) _ (Or.inr rfl)) ?_
    right
    intro e
    rcases hRB.2 with ⟨h1, _⟩ | ⟨q, cap, cur, h1, _, hh, _⟩
    · rw [h1] at e; cases e
    · have e2 : q = w.heap.size + 1 := by rw [h1] at e; simpa [Value.ownBlock] using e
      subst e2
      unfold Blk at hV
      rw [hV] at hh
      injection hh with h3
      injection h3 with _ h4
      exact absurd h4 (by decide)
  rcases hm with hm | hm
  · rw [hm] at hc0
    have hcz : W2.cell? ⟨w.heap.size, 0, none⟩ = some (.int .i64 0) := hc0
    obtain ⟨N, hN⟩ : ∃ N, N = told B.T B.u 12 := ⟨_, rfl⟩
    obtain ⟨s, hs⟩ : ∃ s, s = N ++ sealL k N be tx := ⟨_, rfl⟩
    have hRe : R = ({ B with u := B.u + 12, L := B.L ++ [⟨s, [], [], []⟩] }, some s) := by
      rw [hRR]; unfold BoxS.seal; rw [if_pos hm, hs, hN]
    obtain ⟨D, hD⟩ : ∃ D, D = rbC (B.mode : Int) B.T (B.u + 12) v := ⟨_, rfl⟩
    have cD : Calls Tryd.prog 30 #[.agg C.toArray, .int .i64 12] W2 fun e w' => e = .returned (.tuple #[.agg D.toArray, .string (str N)]) ∧ W2.grownBy w' none := by
      rw [hC, hD, hN]; exact rdraw_any W2 (B.mode : Int) B.T B.u 12 v hone hF (by omega) (by omega)
    have hNl : N.length = 12 := by rw [hN]; exact told_length _ _ _
    have cS : ∀ V, Calls Tryd.prog 31 #[.string SK, .string (str N), .string SB, .string ST] V fun e w' => e = .returned (.string (str (sealL k N be tx))) ∧ V.grownBy w' none := fun V => by
      rw [hSK, hSB, hST]; exact rseal6_any V k N be tx hk hNl (by omega) (by omega)
    obtain ⟨SN, hSN⟩ : ∃ S, S = str N := ⟨_, rfl⟩
    obtain ⟨SE, hSE⟩ : ∃ S, S = str (sealL k N be tx) := ⟨_, rfl⟩
    obtain ⟨SS, hSS⟩ : ∃ S, S = str s := ⟨_, rfl⟩
    have happ : SN ++ SE = SS := by rw [hSN, hSE, hSS, str_app, hs]
    obtain ⟨z12, hz12⟩ : ∃ z, z = 12 := ⟨_, rfl⟩
    obtain ⟨z16, hz16⟩ : ∃ z, z = nt + 16 := ⟨_, rfl⟩
    have hz1 : SN.size = z12 := by rw [hSN, str_size, hNl, hz12]
    have hz2 : SE.size = z16 := by rw [hSE, str_size, sealL_length, hz16, hnt]
    have hlim : z12 + z16 ≤ 9223372036854775807 := by omega
    clear hz12 hz16
    rw [← hSN] at cD
    simp only [← hSN, ← hSE] at cS
    have hsD : D.toArray.size = 4 := by rw [hD]; rfl
    have hoD : D.toArray.all (·.oneCell') = true := by rw [hD]; exact rbC_one _ _ _ hone
    have hD3 : D[3]? = some v := by rw [hD]; rfl
    have hset : ∀ v', D.set 3 v' = rbC (R.1.mode : Int) R.1.T R.1.u v' := fun v' => by rw [hRe, hD]; rfl
    have hRW : ∀ V, w.grownBy V none → Rl V base v B.L := fun V gV => hR.none gV
    have hfin := fun V D' v' h1 h2 h3 h4 => fin V D' v' s 0 h1 h2 (by rw [hRe]; rfl) (by rw [hRe]; rfl) (Or.inl h3) h4
    have hRL : R.1.L = B.L ++ [⟨s, [], [], []⟩] := by rw [hRe]
    rw [hRL] at hfin
    rw [← hSS] at hfin
    have heC : entC ⟨s, [], [], []⟩ = [.string SS, .string (str []), .string (str []), .string (str [])] := by rw [hSS]; rfl
    obtain ⟨S0, hS0⟩ : ∃ S, S = str [] := ⟨_, rfl⟩
    have hbe1 := built_ent1 SS
    rw [← hS0] at heC hbe1
    have HW2 := hide hW2
    have HSC := hide hsC
    have HSD := hide hsD
    have HSZ := hide hsZ
    have HOD := hide hoD
    have HD3 := hide hD3
    have HSET := hide hset
    have HRW := hide hRW
    have HFIN := hide hfin
    have HEC := hide heC
    have HBE := hide hbe1
    have HZ2 := hide hZ2
    have HC2 := hide hC2
    have HG2 := hide g2
    have HS2 := hide hs2
    have HN := hide hn
    clear hZ hsC hC hW2 g2 hs2 hC2 hZ2 hc0 hone hST hSK hSB hnt hnb hRR fin hm hN hs hRe hD hNl hSN hSE hSS hsD hoD hD3 hset hRW hfin hRL heC hS0 hbe1 hR hk hF hus hn hb0 hsZ
    go_enter Tryd.func13, Tryd.ntmps13
    go_upto_region 1 with fail
    rw [← unhide HW2]
    go_upto_region 4 with fail
    refine region_named fun O hO => ?_
    refine wpList_val (by rw [hO]; kernel_rfl) (.agg C.toArray) (fun K9 hK9 => wp_load_row _ _ rfl w.heap.size rfl _ _ _ _ (unhide HC2) Tryd.underlying33 rfl (by rw [unhide HSC]; exact info_rbox) hK9) ?_
    (try simp only [Act.put, pq1, pq2, pq3])
    refine wpList_want (by rw [hO]; kernel_rfl) fun K9 hK9 => ?_
    go_simp
    go_at_call 30
    refine (cD).mono ?_
    rintro e w3 ⟨rfl, g3⟩
    have hZ3 := (unhide HZ2).kept g3 (by simp)
    have G3 := tn (unhide HG2) g3
    have hsz3 : w.heap.size + 2 ≤ w3.heap.size := by have := g3.size; rw [unhide HS2] at this; exact this
    clear cD
    refine hK9 _ _ ?_
    clear hK9 K9
    (try simp only [Act.put, pq1, pq2, pq3])
    refine wpList_val (by rw [hO]; kernel_rfl) (.tuple #[.agg D.toArray, .string SN]) (fun K9 hK9 => by go_simp; exact hK9) ?_
    (try simp only [Act.put, pq1, pq2, pq3])
    refine wpList_val (by rw [hO]; kernel_rfl) (.agg D.toArray) (fun K9 hK9 => by go_simp; exact hK9) ?_
    (try simp only [Act.put, pq1, pq2, pq3])
    refine wpList_val (by rw [hO]; kernel_rfl) (.string SN) (fun K9 hK9 => by go_simp; exact hK9) ?_
    (try simp only [Act.put, pq1, pq2, pq3])
    refine wpList_want (by rw [hO]; kernel_rfl) fun K9 hK9 => ?_
    go_simp
    refine hK9 _ _ ?_
    clear hK9 K9
    (try simp only [Act.put, pq1, pq2, pq3])
    obtain ⟨W4, hW4, hD4, g4⟩ := rb_new w3 Z D
    refine wpList_store_row rfl 33 _ _ rfl w3.heap.size _ rfl rfl _ _ (Blk.new w3 _ Z) (by rw [unhide HSD]; exact info_rbox) (by rw [unhide HSD, unhide HSZ]) (unhide HOD) ?_
    rw [← hW4]
    have hZ4 := hZ3.kept g4 (by simp)
    have G4 := tn G3 g4
    clear hW4 hZ3 G3
    (try simp only [Act.put])
    refine wpList_val (by rw [hO]; kernel_rfl) (.string SN) (fun K9 hK9 => by go_simp; exact hK9) ?_
    (try simp only [Act.put, pq1, pq2, pq3])
    go_upto_region 5 with fail
    refine region_named fun O hO => ?_
    refine wpList_val (by rw [hO]; kernel_rfl) (.string SN) (fun K9 hK9 => by go_simp; exact hK9) ?_
    (try simp only [Act.put, pq1, pq2, pq3])
    refine wpList_val (by rw [hO]; kernel_rfl) (.string SK) (fun K9 hK9 => by go_simp; exact hK9) ?_
    (try simp only [Act.put, pq1, pq2, pq3])
    refine wpList_val (by rw [hO]; kernel_rfl) (.string SN) (fun K9 hK9 => by go_simp; exact hK9) ?_
    (try simp only [Act.put, pq1, pq2, pq3])
    refine wpList_val (by rw [hO]; kernel_rfl) (.string SB) (fun K9 hK9 => by go_simp; exact hK9) ?_
    (try simp only [Act.put, pq1, pq2, pq3])
    refine wpList_val (by rw [hO]; kernel_rfl) (.string ST) (fun K9 hK9 => by go_simp; exact hK9) ?_
    (try simp only [Act.put, pq1, pq2, pq3])
    refine wpList_want (by rw [hO]; kernel_rfl) fun K9 hK9 => ?_
    go_simp
    go_at_call 31
    refine (cS W4).mono ?_
    rintro e w5 ⟨rfl, g5⟩
    have hD5 := hD4.kept g5 (by simp)
    have hZ5 := hZ4.kept g5 (by simp)
    have G5 := tn G4 g5
    clear cS hD4 hZ4 G4
    refine hK9 _ _ ?_
    clear hK9 K9
    (try simp only [Act.put, pq1, pq2, pq3])
    refine wpList_val (by rw [hO]; kernel_rfl) (.string SS) (fun K9 hK9 => by (go_simp; rw [if_neg (by omega)]; go_simp); exact hK9) ?_
    (try simp only [Act.put, pq1, pq2, pq3])
    refine wpList_val (by rw [hO]; kernel_rfl) (.string SS) (fun K9 hK9 => by go_simp; exact hK9) ?_
    (try simp only [Act.put, pq1, pq2, pq3])
    go_upto_region 6 with fail
    refine region_named fun O hO => ?_
    refine wpList_want (by rw [hO]; kernel_rfl) fun K9 hK9 => ?_
    go_simp
    refine hK9 _ _ ?_
    clear hK9 K9
    (try simp only [Act.put, pq1, pq2, pq3])
    obtain ⟨W6, hW6, hv6, g6⟩ := ent_own w5 w.heap.size (G5).size
    rw [← hW6]
    clear hW6
    have hD6 := hD5.kept g6 (by simp)
    have hZ6 := hZ5.kept g6 (by simp)
    have G6 := tn G5 g6
    have hc6 : W6.cell? ⟨w3.heap.size, 3, none⟩ = some v := by rw [hD6.cell]; exact unhide HD3
    refine wpList_val (by rw [hO]; kernel_rfl) (.pointer (some ⟨w3.heap.size, 3, none⟩)) (fun K9 hK9 => by go_simp; exact hK9) ?_
    (try simp only [Act.put, pq1, pq2, pq3])
    refine wpList_val (by rw [hO]; kernel_rfl) (v) (fun K9 hK9 => by go_simp; exact hK9) ?_
    (try simp only [Act.put, pq1, pq2, pq3])
    refine wpList_append_all rfl _ _ rfl w.heap.size base (.slice (some ⟨w5.heap.size, 0, none⟩) 0 0) v B.L rfl hv6 rfl (unhide HRW W6 G6) (by have := unhide HN; omega) G6.size ?_
    intro v7 w7 hv7 g7
    have hD7 := blk_rl hD6 hv6 g7 (by decide)
    have hZ7 := blk_rl hZ6 hv6 g7 (by decide)
    have G7 : w.grownBy w7 none := gb_trans G6 g7 (fun y e => Or.inl (hv6.lt y e).1)
    clear hv6 g7 hD6 hZ6 G6 hc6
    (try simp only [Act.put, pq1, pq2, pq3])
    refine wpList_val (by rw [hO]; kernel_rfl) (.string SS) (fun K9 hK9 => by go_simp; exact hK9) ?_
    (try simp only [Act.put, pq1, pq2, pq3])
    refine wpList_built rfl 44 _ rfl #[.string SS, .string S0, .string S0, .string S0] (by simpa [Act.eval] using unhide HBE) ?_
    (try simp only [Act.put, pq1, pq2, pq3])
    refine wpList_want (by rw [hO]; kernel_rfl) fun K9 hK9 => ?_
    go_simp
    refine hK9 _ _ ?_
    clear hK9 K9
    (try simp only [Act.put, pq1, pq2, pq3])
    obtain ⟨W8, hW8, he8, g8⟩ := ent_new w7 SS S0 S0 S0
    rw [← hW8]
    clear hW8
    rw [← unhide HEC] at he8
    have hD8 := hD7.kept g8 (by simp)
    have hZ8 := hZ7.kept g8 (by simp)
    have hv8 := hv7.none g8
    have G8 := tn G7 g8
    refine wpList_append_ent rfl _ _ rfl w.heap.size v7 B.L ⟨s, [], [], []⟩ rfl hv8 w7.heap.size rfl he8 (by have := unhide HN; omega) G8.size ?_
    intro v9 w9 hv9 g9
    have hD9 := blk_rl hD8 hv8 g9 (by decide)
    have hZ9 := blk_rl hZ8 hv8 g9 (by decide)
    have G9 : w.grownBy w9 none := gb_trans G8 g9 (fun y e => Or.inl (hv8.lt y e).1)
    clear hv7 hv8 g8 g9 hD7 hZ7 hD8 hZ8 G7 G8 he8
    (try simp only [Act.put, pq1, pq2, pq3])
    obtain ⟨oo9, oc9, hv9e, _⟩ := hv9.form
    obtain ⟨n9, hn9⟩ : ∃ n, n = (B.L ++ [(⟨s, [], [], []⟩ : Ent)]).length := ⟨_, rfl⟩
    rw [← hn9] at hv9e
    subst hv9e
    clear hn9
    have hc9 : w9.cell? ⟨w3.heap.size, 3, none⟩ = some v := by rw [hD9.cell]; exact unhide HD3
    have hf9 := hD9.fz 3
    refine wpList_val (by rw [hO]; kernel_rfl) (.pointer (some ⟨w3.heap.size, 3, none⟩)) (fun K9 hK9 => by go_simp; exact hK9) ?_
    (try simp only [Act.put, pq1, pq2, pq3])
    refine wpList_want (by rw [hO]; kernel_rfl) fun K9 hK9 => ?_
    go_simp
    refine hK9 _ _ ?_
    clear hK9 K9
    (try simp only [Act.put, pq1, pq2, pq3])
    have hD10 := hD9.set 3 (.slice oo9 n9 oc9)
    have hZ10 := hZ9.other ⟨w3.heap.size, 3, none⟩ (.slice oo9 n9 oc9) (by simp only; omega)
    have G10 : w.grownBy (w9.setCell ⟨w3.heap.size, 3, none⟩ (.slice oo9 n9 oc9)) none := gb_setCell G9 _ _ (Or.inl (by simp only; omega))
    have hv10 : Rl (w9.setCell ⟨w3.heap.size, 3, none⟩ (.slice oo9 n9 oc9)) w.heap.size (.slice oo9 n9 oc9) (B.L ++ [⟨s, [], [], []⟩]) := World.ownsRow.kept hv9 (gb_set w9 (w3.heap.size) 3 (.slice oo9 n9 oc9)) (Or.inr (fun e => by have e5 := blk_ne_rl hD9 hv9; exact e5 e.symm))
    obtain ⟨D2, hD2⟩ : ∃ D2, D2 = D.set 3 (.slice oo9 n9 oc9) := ⟨_, rfl⟩
    rw [← hD2] at hD10
    rw [unhide HSET (.slice oo9 n9 oc9)] at hD2
    have hs2' : D2.toArray.size = 4 := by rw [hD2]; rfl
    have ho2 : D2.toArray.all (·.oneCell') = true := by rw [hD2]; exact rbC_one _ _ _ hv9.one
    obtain ⟨w10, hw10⟩ : ∃ w10, w10 = w9.setCell ⟨w3.heap.size, 3, none⟩ (.slice oo9 n9 oc9) := ⟨_, rfl⟩
    rw [← hw10] at hD10 hZ10 G10 hv10 ⊢
    obtain ⟨hfb, hfr⟩ := unhide HFIN w10 D2 (.slice oo9 n9 oc9) hZ10 hD2 hv10 G10
    have HS2N := hide hs2'
    clear hw10 hc9 hf9 hD9 hZ9 G9 hv9 hD2
    go_upto_region 7 with fail
    refine region_named fun O hO => ?_
    refine wpList_val (by rw [hO]; kernel_rfl) (.agg D2.toArray) (fun K9 hK9 => wp_load_row _ _ rfl w3.heap.size rfl _ _ _ _ hD10 Tryd.underlying33 rfl (by rw [unhide HS2N]; exact info_rbox) hK9) ?_
    (try simp only [Act.put, pq1, pq2, pq3])
    refine wpList_val (by rw [hO]; kernel_rfl) (.string SS) (fun K9 hK9 => by go_simp; exact hK9) ?_
    (try simp only [Act.put, pq1, pq2, pq3])
    refine wpList_store_row rfl 33 _ _ rfl (w.heap.size + 1) _ rfl rfl _ _ hZ10 (by rw [hs2']; exact info_rbox) (by rw [hs2', unhide HSZ]) ho2 ?_
    (try simp only [Act.put])
    refine wpList_val (by rw [hO]; kernel_rfl) (.string SS) (fun K9 hK9 => by go_simp; exact hK9) ?_
    (try simp only [Act.put, pq1, pq2, pq3])
    refine wpList_val (by rw [hO]; kernel_rfl) (.int .i64 0) (fun K9 hK9 => by go_simp; exact hK9) ?_
    (try simp only [Act.put, pq1, pq2, pq3])
    go_wp2
    refine bodyPost_ret (v := .tuple #[.agg D2.toArray, .string SS, .int .i64 0]) ((results_row_tmp2 (fn := Tryd.f13) (g := w.heap.size + 1) rfl _ _ _ _ _ _ ?_ hfb Tryd.underlying33 rfl ?_).trans ?_) rfl hfr
    · rfl
    · rw [hs2']; exact info_rbox
    · rfl
  · rw [hm] at hc0
    have hcz : W2.cell? ⟨w.heap.size, 0, none⟩ = some (.int .i64 1) := hc0
    have hRe : R = B.tries k be tx 8 := by rw [hRR]; unfold BoxS.seal; rw [if_neg (by omega)]
    have cD : ∀ (V : World) (u : Nat), u ≤ 80000 → Calls Tryd.prog 30 #[.agg (rbC 1 B.T u v).toArray, .int .i64 ((nt : Int) + 28)] V fun e w' => e = .returned (.tuple #[.agg (rbC 1 B.T (u + (nt + 28)) v).toArray, .string (str (told B.T u (nt + 28)))]) ∧ V.grownBy w' none := fun V u hu => by
      have := rdraw_any V 1 B.T u (nt + 28) v hone hF (by omega) (by omega)
      rw [show ((nt + 28 : Nat) : Int) = (nt : Int) + 28 by omega] at this
      exact this
    have cK : ∀ (V : World) (u : Nat) (s : List UInt8), w.grownBy V none → Calls Tryd.prog 17 #[.agg (rbC 1 B.T u v).toArray, .string (str s)] V fun e w' => e = .returned (.bool (B.known s)) ∧ V.grownBy w' none := fun V u s gV => rknown_any V base 1 B.T u v B.L s (hR.none gV) (by omega)
    have hwN : IntKind.i64.wrap ((nt : Int) + 28) = (nt : Int) + 28 := by rw [IntKind.wrap_i64]; omega
    have hRW : ∀ V, w.grownBy V none → Rl V base v B.L := fun V gV => hR.none gV
    have hC1 : C = rbC 1 B.T B.u v := by rw [hC, hm]; rfl
    have hszr : ∀ u, (rbC 1 B.T u v).toArray.size = 4 := fun u => rfl
    have hor : ∀ u, (rbC 1 B.T u v).toArray.all (·.oneCell') = true := fun u => rbC_one _ _ _ hone
    have hsk : SK = str k := hSK
    have hsb : SB = str be := hSB
    have hst : ST = str tx := hST
    have HFIN := hide fin
    have HCD := hide cD
    have HCK := hide cK
    have HRW := hide hRW
    have HW2 := hide hW2
    have HZ2 := hide hZ2
    have HC2 := hide hC2
    have HG2 := hide g2
    have HS2 := hide hs2
    have HC1 := hide hC1
    have HSZR := hide hszr
    have HOR := hide hor
    have HRE := hide hRe
    have HM := hide hm
    have HNT := hide hnt
    have HUS := hide hus
    have HN := hide hn
    have HSK := hide hsk
    have HSB := hide hsb
    have HST := hide hst
    have HSZ := hide hsZ
    clear fin cD cK hRW hW2 hC2 hZ2 g2 hs2 hC1 hszr hor hRe hm hnt hus hn hsk hsb hst hZ hsZ hsC hC hc0 hone hST hSK hSB hnb hRR hR hk hF hb0
    go_enter Tryd.func13, Tryd.ntmps13
    go_upto_region 1 with fail
    rw [← unhide HW2]
    go_wp2
    go_loopw [14] (fun i wr => ∃ (j u : Nat), j ≤ 8 ∧ i = .int .i64 j ∧ u ≤ 60000 + j * 300 ∧ R = BoxS.tries k be tx (8 - j) ⟨1, B.T, u, B.L⟩ ∧ Blk wr w.heap.size 33 (rbC 1 B.T u v) ∧ Blk wr (w.heap.size + 1) 33 Z ∧ w.grownBy wr none ∧ w.heap.size + 2 ≤ wr.heap.size) (fun i _ => 8 - (intOf i).toNat)
    case atStart =>
      refine ⟨0, B.u, by omega, rfl, by have := unhide HUS; omega, ?_, by rw [← unhide HC1]; exact unhide HC2, unhide HZ2, unhide HG2, by rw [unhide HS2]; exact Nat.le_refl _⟩
      rw [unhide HRE]
      have := unhide HM
      obtain ⟨bm, bT, bu, bL⟩ := B
      simp only at this
      subst this
      rfl
    case round =>
      obtain ⟨j, u, hj, rfl, hu, hRj, hCw, hZw, G, hsz⟩ := hrel
      obtain ⟨wo, rfl⟩ : ∃ wo, wo = wr := ⟨_, rfl⟩
      by_cases hlt : j < 8
      · obtain ⟨q, hq⟩ : ∃ q, 8 - j = q + 1 := ⟨7 - j, by omega⟩
        rw [hq] at hRj
        have cd := unhide HCD wo u (by omega)
        obtain ⟨s, hs⟩ : ∃ s, s = told B.T u (nt + 28) := ⟨_, rfl⟩
        rw [← hs] at cd
        have ck := fun V gV => unhide HCK V (u + (nt + 28)) s gV
        have htr : told (BoxS.mk 1 B.T u B.L).T (BoxS.mk 1 B.T u B.L).u (tx.length + 28) = s := by rw [hs, unhide HNT]
        obtain ⟨C0, hC0⟩ : ∃ C, C = rbC 1 B.T u v := ⟨_, rfl⟩
        obtain ⟨D, hD⟩ : ∃ D, D = rbC 1 B.T (u + (nt + 28)) v := ⟨_, rfl⟩
        have hsC0 : C0.toArray.size = 4 := by rw [hC0]; exact unhide HSZR u
        have hsD : D.toArray.size = 4 := by rw [hD]; exact unhide HSZR _
        have hoD : D.toArray.all (·.oneCell') = true := by rw [hD]; exact unhide HOR _
        have hD3 : D[3]? = some v := by rw [hD]; rfl
        rw [← hC0] at hCw cd
        rw [← hD] at cd
        simp only [← hD] at ck
        obtain ⟨SS, hSS⟩ : ∃ S, S = str s := ⟨_, rfl⟩
        rw [← hSS] at cd
        simp only [← hSS] at ck
        have hwj : IntKind.i64.wrap ((j : Int) + 1) = (j : Int) + 1 := by rw [IntKind.wrap_i64]; omega
        have hj8 : (j : Int) < 8 := by omega
        have HSC := hide hsC0
        have HSD := hide hsD
        have HOD := hide hoD
        have HD3 := hide hD3
        cases hkn : B.known s with
        | true =>
          simp only [hkn] at ck
          have hR2 : R = BoxS.tries k be tx q ⟨1, B.T, u + (nt + 28), B.L⟩ := by
            rw [hRj, tries_known (by rw [htr]; exact hkn), unhide HNT]
          have HR2 := hide hR2
          have HD := hide hD
          have HQ := hide hq
          clear hRj htr hs hC0 hD hsC0 hsD hoD hD3 hSS hkn hR2 hq
          go_upto_region 11 with fail
          refine region_named fun O hO => ?_
          refine wpList_val (by rw [hO]; kernel_rfl) (.agg C0.toArray) (fun K9 hK9 => wp_load_row _ _ rfl w.heap.size rfl _ _ _ _ hCw Tryd.underlying33 rfl (by rw [unhide HSC]; exact info_rbox) hK9) ?_
          (try simp only [Act.put, pq1, pq2, pq3])
          refine wpList_val (by rw [hO]; kernel_rfl) (.string ST) (fun K9 hK9 => by go_simp; exact hK9) ?_
          (try simp only [Act.put, pq1, pq2, pq3])
          refine wpList_val (by rw [hO]; kernel_rfl) (.int .i64 (nt : Int)) (fun K9 hK9 => by go_simp; exact hK9) ?_
          (try simp only [Act.put, pq1, pq2, pq3])
          refine wpList_val (by rw [hO]; kernel_rfl) (.int .i64 ((nt : Int) + 28)) (fun K9 hK9 => by go_simp; exact hK9) ?_
          (try simp only [Act.put, pq1, pq2, pq3])
          refine wpList_want (by rw [hO]; kernel_rfl) fun K9 hK9 => ?_
          go_simp
          go_at_call 30
          refine (cd).mono ?_
          rintro e w3 ⟨rfl, g3⟩
          have hC3 := hCw.kept g3 (by simp)
          have hZ3 := hZw.kept g3 (by simp)
          have G3 := tn G g3
          have hsz3 : w.heap.size + 2 ≤ w3.heap.size := Nat.le_trans hsz g3.size
          clear cd hCw hZw
          refine hK9 _ _ ?_
          clear hK9 K9
          (try simp only [Act.put, pq1, pq2, pq3])
          refine wpList_val (by rw [hO]; kernel_rfl) (.tuple #[.agg D.toArray, .string SS]) (fun K9 hK9 => by go_simp; exact hK9) ?_
          (try simp only [Act.put, pq1, pq2, pq3])
          refine wpList_val (by rw [hO]; kernel_rfl) (.agg D.toArray) (fun K9 hK9 => by go_simp; exact hK9) ?_
          (try simp only [Act.put, pq1, pq2, pq3])
          refine wpList_val (by rw [hO]; kernel_rfl) (.string SS) (fun K9 hK9 => by go_simp; exact hK9) ?_
          (try simp only [Act.put, pq1, pq2, pq3])
          refine wpList_want (by rw [hO]; kernel_rfl) fun K9 hK9 => ?_
          go_simp
          refine hK9 _ _ ?_
          clear hK9 K9
          (try simp only [Act.put, pq1, pq2, pq3])
          obtain ⟨W4, hW4, hD4, g4⟩ := rb_new w3 Z D
          refine wpList_store_row rfl 33 _ _ rfl w3.heap.size _ rfl rfl _ _ (Blk.new w3 _ Z) (by rw [unhide HSD]; exact info_rbox) (by rw [unhide HSD, unhide HSZ]) (unhide HOD) ?_
          rw [← hW4]
          have hC4 := hC3.kept g4 (by simp)
          have hZ4 := hZ3.kept g4 (by simp)
          have G4 := tn G3 g4
          clear hW4 hZ3 hC3 G3
          (try simp only [Act.put])
          refine wpList_val (by rw [hO]; kernel_rfl) (.string SS) (fun K9 hK9 => by go_simp; exact hK9) ?_
          (try simp only [Act.put, pq1, pq2, pq3])
          go_upto_region 12 with fail
          refine region_named fun O hO => ?_
          refine wpList_val (by rw [hO]; kernel_rfl) (.agg D.toArray) (fun K9 hK9 => wp_load_row _ _ rfl w3.heap.size rfl _ _ _ _ hD4 Tryd.underlying33 rfl (by rw [unhide HSD]; exact info_rbox) hK9) ?_
          (try simp only [Act.put, pq1, pq2, pq3])
          refine wpList_val (by rw [hO]; kernel_rfl) (.string SS) (fun K9 hK9 => by go_simp; exact hK9) ?_
          (try simp only [Act.put, pq1, pq2, pq3])
          refine wpList_want (by rw [hO]; kernel_rfl) fun K9 hK9 => ?_
          go_simp
          go_at_call 17
          refine (ck W4 G4).mono ?_
          rintro e w5 ⟨rfl, g5⟩
          have hC5 := hC4.kept g5 (by simp)
          have hD5 := hD4.kept g5 (by simp)
          have hZ5 := hZ4.kept g5 (by simp)
          have G5 := tn G4 g5
          clear ck hC4 hD4 hZ4 G4
          refine hK9 _ _ ?_
          clear hK9 K9
          (try simp only [Act.put, pq1, pq2, pq3])
          refine wpList_val (by rw [hO]; kernel_rfl) (.bool false) (fun K9 hK9 => by go_simp; exact hK9) ?_
          (try simp only [Act.put, pq1, pq2, pq3])
          go_upto_region 15 with fail
          refine region_named fun O hO => ?_
          refine wpList_val (by rw [hO]; kernel_rfl) (.agg D.toArray) (fun K9 hK9 => wp_load_row _ _ rfl w3.heap.size rfl _ _ _ _ hD5 Tryd.underlying33 rfl (by rw [unhide HSD]; exact info_rbox) hK9) ?_
          (try simp only [Act.put, pq1, pq2, pq3])
          refine wpList_store_row rfl 33 _ _ rfl w.heap.size _ rfl rfl _ _ hC5 (by rw [unhide HSD]; exact info_rbox) (by rw [unhide HSD, unhide HSC]) (unhide HOD) ?_
          have hC6 := hC5.row D
          have hZ6 := hZ5.row_other w.heap.size D.toArray (by omega)
          have G6 : w.grownBy (w5.setRow w.heap.size D.toArray) none := gb_row G5 _ (Or.inl (Nat.le_refl _))
          have hz6 : w.heap.size + 2 ≤ (w5.setRow w.heap.size D.toArray).heap.size := by have e1 := g5.size; have e2 := g4.size; simp; omega
          obtain ⟨w6, hw6⟩ : ∃ w6, w6 = w5.setRow w.heap.size D.toArray := ⟨_, rfl⟩
          rw [← hw6] at hC6 hZ6 G6 hz6 ⊢
          clear hw6
          (try simp only [Act.put])
          go_wp2
          go_roundw
          case rel =>
            have h7 := unhide HQ
            exact ⟨j + 1, u + (nt + 28), by omega, by go_num, by have := unhide HNT; omega, by rw [unhide HR2, show 8 - (j + 1) = q by omega], by rw [← unhide HD]; exact hC6, hZ6, G6, hz6⟩
          case measure => simp [intOf]; omega
        | false =>
          simp only [hkn] at ck
          have hR2 : R = (⟨1, B.T, u + (nt + 28), B.L ++ [⟨s, k, be, tx⟩]⟩, some s) := by
            rw [hRj, tries_new (by rw [htr]; exact hkn), htr, unhide HNT]
          have hset : ∀ v', D.set 3 v' = rbC (R.1.mode : Int) R.1.T R.1.u v' := fun v' => by rw [hR2, hD]; rfl
          have hfin := fun V D' v' h1 h2 h3 h4 => unhide HFIN V D' v' s 0 h1 h2 (by rw [hR2]; rfl) (by rw [hR2]; rfl) (Or.inl h3) h4
          have hRL : R.1.L = B.L ++ [⟨s, k, be, tx⟩] := by rw [hR2]
          rw [hRL] at hfin
          rw [← hSS] at hfin
          have heC : entC ⟨s, k, be, tx⟩ = [.string SS, .string SK, .string SB, .string ST] := by rw [hSS, unhide HSK, unhide HSB, unhide HST]; rfl
          have hbe4 := built_ent4 SS SK SB ST
          have HSET := hide hset
          have HFN := hide hfin
          have HEC := hide heC
          have HBE := hide hbe4
          clear hRj htr hs hC0 hD hsC0 hsD hoD hD3 hSS hkn hR2 hq hset hfin hRL heC hbe4
          go_upto_region 11 with fail
          refine region_named fun O hO => ?_
          refine wpList_val (by rw [hO]; kernel_rfl) (.agg C0.toArray) (fun K9 hK9 => wp_load_row _ _ rfl w.heap.size rfl _ _ _ _ hCw Tryd.underlying33 rfl (by rw [unhide HSC]; exact info_rbox) hK9) ?_
          (try simp only [Act.put, pq1, pq2, pq3])
          refine wpList_val (by rw [hO]; kernel_rfl) (.string ST) (fun K9 hK9 => by go_simp; exact hK9) ?_
          (try simp only [Act.put, pq1, pq2, pq3])
          refine wpList_val (by rw [hO]; kernel_rfl) (.int .i64 (nt : Int)) (fun K9 hK9 => by go_simp; exact hK9) ?_
          (try simp only [Act.put, pq1, pq2, pq3])
          refine wpList_val (by rw [hO]; kernel_rfl) (.int .i64 ((nt : Int) + 28)) (fun K9 hK9 => by go_simp; exact hK9) ?_
          (try simp only [Act.put, pq1, pq2, pq3])
          refine wpList_want (by rw [hO]; kernel_rfl) fun K9 hK9 => ?_
          go_simp
          go_at_call 30
          refine (cd).mono ?_
          rintro e w3 ⟨rfl, g3⟩
          have hC3 := hCw.kept g3 (by simp)
          have hZ3 := hZw.kept g3 (by simp)
          have G3 := tn G g3
          have hsz3 : w.heap.size + 2 ≤ w3.heap.size := Nat.le_trans hsz g3.size
          clear cd hCw hZw
          refine hK9 _ _ ?_
          clear hK9 K9
          (try simp only [Act.put, pq1, pq2, pq3])
          refine wpList_val (by rw [hO]; kernel_rfl) (.tuple #[.agg D.toArray, .string SS]) (fun K9 hK9 => by go_simp; exact hK9) ?_
          (try simp only [Act.put, pq1, pq2, pq3])
          refine wpList_val (by rw [hO]; kernel_rfl) (.agg D.toArray) (fun K9 hK9 => by go_simp; exact hK9) ?_
          (try simp only [Act.put, pq1, pq2, pq3])
          refine wpList_val (by rw [hO]; kernel_rfl) (.string SS) (fun K9 hK9 => by go_simp; exact hK9) ?_
          (try simp only [Act.put, pq1, pq2, pq3])
          refine wpList_want (by rw [hO]; kernel_rfl) fun K9 hK9 => ?_
          go_simp
          refine hK9 _ _ ?_
          clear hK9 K9
          (try simp only [Act.put, pq1, pq2, pq3])
          obtain ⟨W4, hW4, hD4, g4⟩ := rb_new w3 Z D
          refine wpList_store_row rfl 33 _ _ rfl w3.heap.size _ rfl rfl _ _ (Blk.new w3 _ Z) (by rw [unhide HSD]; exact info_rbox) (by rw [unhide HSD, unhide HSZ]) (unhide HOD) ?_
          rw [← hW4]
          have hC4 := hC3.kept g4 (by simp)
          have hZ4 := hZ3.kept g4 (by simp)
          have G4 := tn G3 g4
          clear hW4 hZ3 hC3 G3
          (try simp only [Act.put])
          refine wpList_val (by rw [hO]; kernel_rfl) (.string SS) (fun K9 hK9 => by go_simp; exact hK9) ?_
          (try simp only [Act.put, pq1, pq2, pq3])
          go_upto_region 12 with fail
          refine region_named fun O hO => ?_
          refine wpList_val (by rw [hO]; kernel_rfl) (.agg D.toArray) (fun K9 hK9 => wp_load_row _ _ rfl w3.heap.size rfl _ _ _ _ hD4 Tryd.underlying33 rfl (by rw [unhide HSD]; exact info_rbox) hK9) ?_
          (try simp only [Act.put, pq1, pq2, pq3])
          refine wpList_val (by rw [hO]; kernel_rfl) (.string SS) (fun K9 hK9 => by go_simp; exact hK9) ?_
          (try simp only [Act.put, pq1, pq2, pq3])
          refine wpList_want (by rw [hO]; kernel_rfl) fun K9 hK9 => ?_
          go_simp
          go_at_call 17
          refine (ck W4 G4).mono ?_
          rintro e w5 ⟨rfl, g5⟩
          have hC5 := hC4.kept g5 (by simp)
          have hD5 := hD4.kept g5 (by simp)
          have hZ5 := hZ4.kept g5 (by simp)
          have G5 := tn G4 g5
          clear ck hC4 hD4 hZ4 G4
          refine hK9 _ _ ?_
          clear hK9 K9
          (try simp only [Act.put, pq1, pq2, pq3])
          refine wpList_val (by rw [hO]; kernel_rfl) (.bool true) (fun K9 hK9 => by go_simp; exact hK9) ?_
          (try simp only [Act.put, pq1, pq2, pq3])
          go_upto_region 13 with fail
          refine region_named fun O hO => ?_
          refine wpList_want (by rw [hO]; kernel_rfl) fun K9 hK9 => ?_
          go_simp
          refine hK9 _ _ ?_
          clear hK9 K9
          (try simp only [Act.put, pq1, pq2, pq3])
          obtain ⟨W6, hW6, hv6, g6⟩ := ent_own w5 w.heap.size (G5).size
          rw [← hW6]
          clear hW6
          have hD6 := hD5.kept g6 (by simp)
          have hZ6 := hZ5.kept g6 (by simp)
          have G6 := tn G5 g6
          have hc6 : W6.cell? ⟨w3.heap.size, 3, none⟩ = some v := by rw [hD6.cell]; exact unhide HD3
          refine wpList_val (by rw [hO]; kernel_rfl) (.pointer (some ⟨w3.heap.size, 3, none⟩)) (fun K9 hK9 => by go_simp; exact hK9) ?_
          (try simp only [Act.put, pq1, pq2, pq3])
          refine wpList_val (by rw [hO]; kernel_rfl) (v) (fun K9 hK9 => by go_simp; exact hK9) ?_
          (try simp only [Act.put, pq1, pq2, pq3])
          refine wpList_append_all rfl _ _ rfl w.heap.size base (.slice (some ⟨w5.heap.size, 0, none⟩) 0 0) v B.L rfl hv6 rfl (unhide HRW W6 G6) (by have := unhide HN; omega) G6.size ?_
          intro v7 w7 hv7 g7
          have hD7 := blk_rl hD6 hv6 g7 (by decide)
          have hZ7 := blk_rl hZ6 hv6 g7 (by decide)
          have G7 : w.grownBy w7 none := gb_trans G6 g7 (fun y e => Or.inl (hv6.lt y e).1)
          clear hv6 g7 hD6 hZ6 G6 hc6
          (try simp only [Act.put, pq1, pq2, pq3])
          refine wpList_val (by rw [hO]; kernel_rfl) (.string SS) (fun K9 hK9 => by go_simp; exact hK9) ?_
          (try simp only [Act.put, pq1, pq2, pq3])
          refine wpList_val (by rw [hO]; kernel_rfl) (.string SK) (fun K9 hK9 => by go_simp; exact hK9) ?_
          (try simp only [Act.put, pq1, pq2, pq3])
          refine wpList_val (by rw [hO]; kernel_rfl) (.string SB) (fun K9 hK9 => by go_simp; exact hK9) ?_
          (try simp only [Act.put, pq1, pq2, pq3])
          refine wpList_val (by rw [hO]; kernel_rfl) (.string ST) (fun K9 hK9 => by go_simp; exact hK9) ?_
          (try simp only [Act.put, pq1, pq2, pq3])
          refine wpList_built rfl 44 _ rfl #[.string SS, .string SK, .string SB, .string ST] (by simpa [Act.eval] using unhide HBE) ?_
          (try simp only [Act.put, pq1, pq2, pq3])
          refine wpList_want (by rw [hO]; kernel_rfl) fun K9 hK9 => ?_
          go_simp
          refine hK9 _ _ ?_
          clear hK9 K9
          (try simp only [Act.put, pq1, pq2, pq3])
          obtain ⟨W8, hW8, he8, g8⟩ := ent_new w7 SS SK SB ST
          rw [← hW8]
          clear hW8
          rw [← unhide HEC] at he8
          have hD8 := hD7.kept g8 (by simp)
          have hZ8 := hZ7.kept g8 (by simp)
          have hv8 := hv7.none g8
          have G8 := tn G7 g8
          refine wpList_append_ent rfl _ _ rfl w.heap.size v7 B.L ⟨s, k, be, tx⟩ rfl hv8 w7.heap.size rfl he8 (by have := unhide HN; omega) G8.size ?_
          intro v9 w9 hv9 g9
          have hD9 := blk_rl hD8 hv8 g9 (by decide)
          have hZ9 := blk_rl hZ8 hv8 g9 (by decide)
          have G9 : w.grownBy w9 none := gb_trans G8 g9 (fun y e => Or.inl (hv8.lt y e).1)
          clear hv7 hv8 g8 g9 hD7 hZ7 hD8 hZ8 G7 G8 he8
          (try simp only [Act.put, pq1, pq2, pq3])
          obtain ⟨oo9, oc9, hv9e, _⟩ := hv9.form
          obtain ⟨n9, hn9⟩ : ∃ n, n = (B.L ++ [(⟨s, k, be, tx⟩ : Ent)]).length := ⟨_, rfl⟩
          rw [← hn9] at hv9e
          subst hv9e
          clear hn9
          have hc9 : w9.cell? ⟨w3.heap.size, 3, none⟩ = some v := by rw [hD9.cell]; exact unhide HD3
          have hf9 := hD9.fz 3
          refine wpList_val (by rw [hO]; kernel_rfl) (.pointer (some ⟨w3.heap.size, 3, none⟩)) (fun K9 hK9 => by go_simp; exact hK9) ?_
          (try simp only [Act.put, pq1, pq2, pq3])
          refine wpList_want (by rw [hO]; kernel_rfl) fun K9 hK9 => ?_
          go_simp
          refine hK9 _ _ ?_
          clear hK9 K9
          (try simp only [Act.put, pq1, pq2, pq3])
          have hD10 := hD9.set 3 (.slice oo9 n9 oc9)
          have hZ10 := hZ9.other ⟨w3.heap.size, 3, none⟩ (.slice oo9 n9 oc9) (by simp only; omega)
          have G10 : w.grownBy (w9.setCell ⟨w3.heap.size, 3, none⟩ (.slice oo9 n9 oc9)) none := gb_setCell G9 _ _ (Or.inl (by simp only; omega))
          have hv10 : Rl (w9.setCell ⟨w3.heap.size, 3, none⟩ (.slice oo9 n9 oc9)) w.heap.size (.slice oo9 n9 oc9) (B.L ++ [⟨s, k, be, tx⟩]) := World.ownsRow.kept hv9 (gb_set w9 (w3.heap.size) 3 (.slice oo9 n9 oc9)) (Or.inr (fun e => by have e5 := blk_ne_rl hD9 hv9; exact e5 e.symm))
          obtain ⟨D2, hD2⟩ : ∃ D2, D2 = D.set 3 (.slice oo9 n9 oc9) := ⟨_, rfl⟩
          rw [← hD2] at hD10
          rw [unhide HSET (.slice oo9 n9 oc9)] at hD2
          have hs2' : D2.toArray.size = 4 := by rw [hD2]; rfl
          have ho2 : D2.toArray.all (·.oneCell') = true := by rw [hD2]; exact rbC_one _ _ _ hv9.one
          obtain ⟨w10, hw10⟩ : ∃ w10, w10 = w9.setCell ⟨w3.heap.size, 3, none⟩ (.slice oo9 n9 oc9) := ⟨_, rfl⟩
          rw [← hw10] at hD10 hZ10 G10 hv10 ⊢
          obtain ⟨hfb, hfr⟩ := unhide HFN w10 D2 (.slice oo9 n9 oc9) hZ10 hD2 hv10 G10
          have HS2N := hide hs2'
          clear hw10 hc9 hf9 hD9 hZ9 G9 hv9 hD2
          go_upto_region 14 with fail
          refine region_named fun O hO => ?_
          refine wpList_val (by rw [hO]; kernel_rfl) (.agg D2.toArray) (fun K9 hK9 => wp_load_row _ _ rfl w3.heap.size rfl _ _ _ _ hD10 Tryd.underlying33 rfl (by rw [unhide HS2N]; exact info_rbox) hK9) ?_
          (try simp only [Act.put, pq1, pq2, pq3])
          refine wpList_val (by rw [hO]; kernel_rfl) (.string SS) (fun K9 hK9 => by go_simp; exact hK9) ?_
          (try simp only [Act.put, pq1, pq2, pq3])
          refine wpList_store_row rfl 33 _ _ rfl (w.heap.size + 1) _ rfl rfl _ _ hZ10 (by rw [hs2']; exact info_rbox) (by rw [hs2', unhide HSZ]) ho2 ?_
          (try simp only [Act.put])
          refine wpList_val (by rw [hO]; kernel_rfl) (.string SS) (fun K9 hK9 => by go_simp; exact hK9) ?_
          (try simp only [Act.put, pq1, pq2, pq3])
          refine wpList_val (by rw [hO]; kernel_rfl) (.int .i64 0) (fun K9 hK9 => by go_simp; exact hK9) ?_
          (try simp only [Act.put, pq1, pq2, pq3])
          go_wp2
          refine bodyPost_ret (v := .tuple #[.agg D2.toArray, .string SS, .int .i64 0]) ((results_row_tmp2 (fn := Tryd.f13) (g := w.heap.size + 1) rfl _ _ _ _ _ _ ?_ hfb Tryd.underlying33 rfl ?_).trans ?_) rfl hfr
          · rfl
          · rw [hs2']; exact info_rbox
          · rfl
      · obtain rfl : j = 8 := by omega
        have hR2 : R = (⟨1, B.T, u, B.L⟩, none) := hRj
        have hsC0 := unhide HSZR u
        have hfin := unhide HFIN wo (rbC 1 B.T u v) v [] 15 hZw (by rw [hR2]; rfl) (by rw [hR2]; rfl) (by rw [hR2]; rfl) (Or.inr (by rw [hR2]; exact unhide HRW wo G)) G
        obtain ⟨C0, hC0⟩ : ∃ C, C = rbC 1 B.T u v := ⟨_, rfl⟩
        have hoC := unhide HOR u
        rw [← hC0] at hCw hsC0 hfin hoC
        obtain ⟨hfb, hfr⟩ := hfin
        have HSC := hide hsC0
        clear hRj hR2 hC0 hsC0
        go_upto_region 16 with fail
        refine region_named fun O hO => ?_
        refine wpList_val (by rw [hO]; kernel_rfl) (.agg C0.toArray) (fun K9 hK9 => wp_load_row _ _ rfl w.heap.size rfl _ _ _ _ hCw Tryd.underlying33 rfl (by rw [unhide HSC]; exact info_rbox) hK9) ?_
        (try simp only [Act.put, pq1, pq2, pq3])
        refine wpList_store_row rfl 33 _ _ rfl (w.heap.size + 1) _ rfl rfl _ _ hZw (by rw [unhide HSC]; exact info_rbox) (by rw [unhide HSC, unhide HSZ]) hoC ?_
        (try simp only [Act.put])
        refine wpList_val (by rw [hO]; kernel_rfl) (.string { data := #[] }) (fun K9 hK9 => by go_simp; exact hK9) ?_
        (try simp only [Act.put, pq1, pq2, pq3])
        refine wpList_val (by rw [hO]; kernel_rfl) (.int .i64 15) (fun K9 hK9 => by go_simp; exact hK9) ?_
        (try simp only [Act.put, pq1, pq2, pq3])
        go_wp2
        refine bodyPost_ret (v := .tuple #[.agg C0.toArray, .string (str []), .int .i64 15]) ((results_row_tmp2 (fn := Tryd.f13) (g := w.heap.size + 1) rfl _ _ _ _ _ _ ?_ hfb Tryd.underlying33 rfl ?_).trans ?_) rfl hfr
        · rfl
        · rw [unhide HSC]; exact info_rbox
        · rfl

end Go.Proofs.YtjckdgapefaokaaDoor
