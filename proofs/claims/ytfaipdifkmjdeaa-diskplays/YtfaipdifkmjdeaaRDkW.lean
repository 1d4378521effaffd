/- What the document's Write answers (package coffretref14). -/
import Derived.Test.YtfaipdifkmjdeaaRDkR
namespace Go.Proofs.Ytfaipdifkmjdeaa
open Go.RowKit

theorem info_rw : (Try.prog.info? 54).map (fun i => (i.zero, i.size, i.bytes)) = some (some (.agg #[.int .i64 0, .string ⟨#[]⟩]), 2, 24) := by kernel_rfl
theorem bs_rw0 (V : World) : (Instr.buildSlice 28 0 #[]).run Try.prog V = .ok (.slice (some ⟨V.heap.size, 0, none⟩) 0 0) (V.alloc (.cells #[] 54)) := by kernel_rfl
theorem bs_rw1 (k : Int) (s : ByteArray) (V : World) : (Instr.buildSlice 28 1 #[(0, .agg #[.int .i64 k, .string s])]).run Try.prog V = .ok (.slice (some ⟨V.heap.size, 0, none⟩) 1 1) (V.alloc (.cells #[.int .i64 k, .string s] 54)) := by kernel_rfl
theorem built_rw (k : Int) (s : ByteArray) : Try.prog.built 54 [(0, .int .i64 k), (1, .string s)] = some #[.int .i64 k, .string s] := by kernel_rfl
theorem own_newT (V : World) (t : TypeId) (k base : Nat) (h : base ≤ V.heap.size) : ∃ Wb, Wb = V.alloc (.cells #[] t) ∧ Wb.ownsRow base t k (.slice (some ⟨V.heap.size, 0, none⟩) 0 0) 0 [] ∧ V.grownBy Wb none :=
  ⟨_, rfl, ⟨by simp, Or.inr ⟨V.heap.size, 0, #[], rfl, h, heap_alloc_new V _, by simp [maxLen]⟩⟩, gb_alloc (gb_refl _ _) _⟩
/-- 'append(own, writes...)'. -/
theorem wpList_append_rws {w : World} {ops : Array Oper} {rest : List Oper} {o : Oper} {a : Act} {Q : Exit → Act → World → Prop} (hgd : o.guard = none) (s x : Operand)
    (ho : o.op = .call { callee := .builtin .append, args := #[s, x], argTypes := #[28, 28] })
    (base : Nat) (v : Value) (L M : List (Nat × List UInt8)) (hs : a.eval s = v) (hown : w.ownsRow base 54 2 v L.length (L.flatMap rwC)) (xo : Option Addr) (m c : Nat) (hx : a.eval x = .slice xo m c) (hm : m = M.length) (hM : Rws w 2 rwC xo c M)
    (hn : L.length + M.length ≤ 2000000) (hbase : base ≤ w.heap.size)
    (h : ∀ v' w', w'.ownsRow base 54 2 v' (L ++ M).length ((L ++ M).flatMap rwC) → w.grownBy w' v.ownBlock → wpList Try.prog ops Q rest (a.put o.dst v') w') : wpList Try.prog ops Q (o :: rest) a w := by
  obtain ⟨i0, hi, hz0, hz1, hz2⟩ := info_parts info_rw
  exact wpList_plain hgd fun _ hK => wp_append_rws s x 28 54 ho i0 _ 2 24 Try.underlying28 hi hz0 hz1 hz2 rfl (by decide) rwC rwC_one base v L M (fun _ _ => rfl) hs hown xo m c hx hm hM (by omega) (by omega) hbase
    (fun v' w' q1 q2 => hK _ _ (h v' w' q1 q2))
theorem rws_one {w : World} {p : Nat} {x : Nat × List UInt8} (h : Blk w p 54 (rwC x)) : Rws w 2 rwC (some ⟨p, 0, none⟩) 1 [x] :=
  ⟨(fun e => by cases e), Nat.le_refl _, by unfold maxLen; decide, (fun ad e => by cases e; rfl), fun ad e i hi => by
    cases e
    have hi0 : i = 0 := by simpa using hi
    subst hi0
    simpa using blk_all h⟩

set_option maxRecDepth 100000 in
set_option maxHeartbeats 8000000 in
theorem rwrite_any (w : World) (so : Option Addr) (sc : Nat) (uo : Option Addr) (uc : Nat) (D : Dsk) (h : RdW w so sc uo uc D) (i : Int) (b : List UInt8) (hU : D.U.length ≤ 1000000) (hs : D.safe.length ≤ 1000000) (hb : b.length ≤ 100000) (hl1 : -9223372036854775808 ≤ D.left) (hl2 : D.left < 9223372036854775808) :
    Calls Try.prog 10 #[.agg (rdC so sc uo uc D).toArray, .int .i64 i, .string (str b)] w fun e w' => ∃ v, e = .returned (.tuple #[v, .int .i64 (rwr D i b).2]) ∧ RdR w w' so uo v (rwr D i b).1 ∧ w.grownBy w' none := by
  obtain ⟨T, hT⟩ : ∃ T, T = str b := ⟨_, rfl⟩
  have hTs : T.size = b.length := by rw [hT, str_size]
  obtain ⟨n1, hn1⟩ : ∃ n, n = D.safe.length := ⟨_, rfl⟩
  obtain ⟨n2, hn2⟩ : ∃ n, n = D.U.length := ⟨_, rfl⟩
  obtain ⟨lf, hlf⟩ : ∃ l, l = D.left := ⟨_, rfl⟩
  obtain ⟨dn, hdn⟩ : ∃ b, b = D.down := ⟨_, rfl⟩
  have e0 : rdC so sc uo uc D = [.slice so n1 sc, .slice uo n2 uc, .int .i64 lf, .bool dn] := by rw [hn1, hn2, hlf, hdn]; rfl
  rw [e0, ← hT]
  obtain ⟨W1, hW1, hB1, g1⟩ := box_new w 30 [.slice so n1 sc, .slice uo n2 uc, .int .i64 lf, .bool dn]
  obtain ⟨W2, hW2, hB2, g2⟩ := box_new W1 30 [.slice none 0 0, .slice none 0 0, .int .i64 0, .bool false]
  have s1 : W1.heap.size = w.heap.size + 1 := by rw [hW1, World.size_alloc]
  have s2 : W2.heap.size = w.heap.size + 2 := by rw [hW2, World.size_alloc, s1]
  rw [s1] at hB2
  have hB1' := hB1.kept g2 (by simp)
  have hzv := zero_rd
  have hfold : ((w.alloc (.cells #[.slice so n1 sc, .slice uo n2 uc, .int .i64 lf, .bool dn] 30)).alloc (.cells #[.slice none 0 0, .slice none 0 0, .int .i64 0, .bool false] 30)) = W2 := by rw [hW2, hW1]
  have HF := hide hfold
  have hc0 := hB1'.cell 0
  have hc3 := hB1'.cell 3
  simp only [List.getElem?_cons_zero, List.getElem?_cons_succ] at hc0 hc3
  have hra := blk_all hB1'
  have HB1 := hide hB1'
  have HB2 := hide hB2
  have HG2 := hide (tn g1 g2)
  have H2 := hide h
  have HSZ := hide (And.intro s1 s2)
  have cl := rcall_any W2 so sc uo uc D hl1 hl2
  rw [e0] at cl
  have HN1 := hide hn1
  have HN2 := hide hn2
  have HDN := hide hdn
  have HLF := hide hlf
  have HT := hide hT
  have HTS := hide hTs
  have HUB := hide (And.intro hU (And.intro hs hb))
  clear hW1 hW2 hB1 hB2 hB1' g1 g2 s1 s2 hfold h e0 hU hs hb hT hn1 hn2 hlf hl1 hl2
  have HZ1 := unhide HSZ
  have same : ∀ y : Int, rwr D i b = (D, y) → Calls Try.prog 10 #[.agg #[.slice so n1 sc, .slice uo n2 uc, .int .i64 lf, .bool dn], .int .i64 i, .string T] w (fun e w' => e = .returned (.tuple #[.agg #[.slice so n1 sc, .slice uo n2 uc, .int .i64 lf, .bool dn], .int .i64 y]) ∧ w' = W2.setRow (w.heap.size + 1) #[.slice so n1 sc, .slice uo n2 uc, .int .i64 lf, .bool dn]) →
      Calls Try.prog 10 #[.agg #[.slice so n1 sc, .slice uo n2 uc, .int .i64 lf, .bool dn], .int .i64 i, .string T] w (fun e w' => ∃ v, e = .returned (.tuple #[v, .int .i64 (rwr D i b).2]) ∧ RdR w w' so uo v (rwr D i b).1 ∧ w.grownBy w' none) := fun y hy hc => hc.mono fun e w' q => by
    obtain ⟨q1, q2⟩ := q
    have g : w.grownBy w' none := by rw [q2]; exact gb_row (unhide HG2) _ (Or.inl (by omega))
    refine ⟨_, by rw [hy]; exact q1, ?_, g⟩
    rw [hy]
    exact ⟨so, sc, uo, uc, by rw [unhide HN1, unhide HN2, unhide HLF, unhide HDN]; rfl, (unhide H2).kept g, fun _ e => Or.inl e, fun _ e => Or.inl e⟩
  have hra2 := hra
  cases dn with
  | true =>
    refine same 17 (by unfold rwr; rw [if_pos (unhide HDN).symm]) ?_
    clear same hra2 cl hc0 hdn
    go_enter Try.func10, Try.ntmps10
    go_wp2_with (first
      | (rw [unhide HF])
      | (refine wpList_load_mid rfl 30 _ rfl w.heap.size 0 rfl [.slice so n1 sc, .slice uo n2 uc, .int .i64 lf, .bool true] _ hra Try.underlying30 rfl info_rd ?_; clear hra)
      | (have hB9 := unhide HB2; refine wpList_store_row rfl 30 _ _ rfl (w.heap.size + 1) _ rfl rfl _ _ hB9 info_rd rfl (rd4_one _ _ _ _ _ _ _ _) ?_; clear hB9))
    refine bodyPost_ret (results_row_tmp rfl _ _ _ _ _ _ _ rfl ((unhide HB2).row [.slice so n1 sc, .slice uo n2 uc, .int .i64 lf, .bool true]) Try.underlying30 rfl info_rd) rfl ?_
    exact ⟨rfl, rfl⟩
  | false =>
    have no : (¬ (hasD D i = true ∧ b.length ≤ 256)) → rwr D i b = (D, 2) := fun hn => by unfold rwr; rw [if_neg (show ¬ D.down = true by rw [← unhide HDN]; decide), if_neg hn]
    by_cases hi0 : i < 0
    · refine same 2 (no (fun e => by rw [hasD_iff] at e; omega)) ?_
      clear same no hra2 cl hc0 hdn
      go_enter Try.func10, Try.ntmps10
      go_wp2_with (first
        | (rw [unhide HF])
        | (refine wpList_load_mid rfl 30 _ rfl w.heap.size 0 rfl [.slice so n1 sc, .slice uo n2 uc, .int .i64 lf, .bool false] _ hra Try.underlying30 rfl info_rd ?_; clear hra)
        | (have hB9 := unhide HB2; refine wpList_store_row rfl 30 _ _ rfl (w.heap.size + 1) _ rfl rfl _ _ hB9 info_rd rfl (rd4_one _ _ _ _ _ _ _ _) ?_; clear hB9))
      refine bodyPost_ret (results_row_tmp rfl _ _ _ _ _ _ _ rfl ((unhide HB2).row [.slice so n1 sc, .slice uo n2 uc, .int .i64 lf, .bool false]) Try.underlying30 rfl info_rd) rfl ?_
      exact ⟨rfl, rfl⟩
    by_cases hi1 : (n1 : Int) ≤ i
    · refine same 2 (no (fun e => by rw [hasD_iff] at e; have := unhide HN1; omega)) ?_
      clear same no hra2 cl hdn
      go_enter Try.func10, Try.ntmps10
      go_wp2_with (first
        | (rw [unhide HF])
        | (refine wpList_load_mid rfl 30 _ rfl w.heap.size 0 rfl [.slice so n1 sc, .slice uo n2 uc, .int .i64 lf, .bool false] _ hra Try.underlying30 rfl info_rd ?_; clear hra)
        | (have hB9 := unhide HB2; refine wpList_store_row rfl 30 _ _ rfl (w.heap.size + 1) _ rfl rfl _ _ hB9 info_rd rfl (rd4_one _ _ _ _ _ _ _ _) ?_; clear hB9))
      refine bodyPost_ret (results_row_tmp rfl _ _ _ _ _ _ _ rfl ((unhide HB2).row [.slice so n1 sc, .slice uo n2 uc, .int .i64 lf, .bool false]) Try.underlying30 rfl info_rd) rfl ?_
      exact ⟨rfl, rfl⟩
    by_cases hbl : 256 < b.length
    · refine same 2 (no (fun e => by omega)) ?_
      have hTi : (256 : Int) < (T.size : Int) := by rw [unhide HTS]; omega
      clear same no hra2 cl hdn hbl
      go_enter Try.func10, Try.ntmps10
      go_wp2_with (first
        | (rw [unhide HF])
        | (refine wpList_load_mid rfl 30 _ rfl w.heap.size 0 rfl [.slice so n1 sc, .slice uo n2 uc, .int .i64 lf, .bool false] _ hra Try.underlying30 rfl info_rd ?_; clear hra)
        | (have hB9 := unhide HB2; refine wpList_store_row rfl 30 _ _ rfl (w.heap.size + 1) _ rfl rfl _ _ hB9 info_rd rfl (rd4_one _ _ _ _ _ _ _ _) ?_; clear hB9))
      refine bodyPost_ret (results_row_tmp rfl _ _ _ _ _ _ _ rfl ((unhide HB2).row [.slice so n1 sc, .slice uo n2 uc, .int .i64 lf, .bool false]) Try.underlying30 rfl info_rd) rfl ?_
      exact ⟨rfl, rfl⟩
    clear same no hra2
    obtain ⟨j, rfl⟩ : ∃ j : Nat, i = (j : Int) := ⟨i.toNat, by omega⟩
    have hj : j < n1 := by omega
    have er : rwr D (j : Int) b = ({ (rcall D).1 with U := D.U ++ [(j, padS b)] }, if (rcall D).2 = true then 0 else 17) := by
      unfold rwr
      rw [if_neg (show ¬ D.down = true by rw [← unhide HDN]; decide), if_pos ⟨(hasD_iff D _).2 (by have := unhide HN1; omega), by omega⟩, Int.toNat_natCast]
    rw [er]
    have hcs := rcall_safe D
    obtain ⟨E, hE⟩ : ∃ E, E = (rcall D).1 := ⟨_, rfl⟩
    obtain ⟨dn2, hdn2⟩ : ∃ b, b = (rcall D).2 := ⟨_, rfl⟩
    obtain ⟨lf2, hlf2⟩ : ∃ l, l = E.left := ⟨_, rfl⟩
    obtain ⟨dw, hdw⟩ : ∃ l, l = E.down := ⟨_, rfl⟩
    rw [← hE, ← hdn2] at cl ⊢
    rw [← hE] at hcs
    have e1 : rdC so sc uo uc E = [.slice so n1 sc, .slice uo n2 uc, .int .i64 lf2, .bool dw] := by rw [unhide HN1, unhide HN2, hlf2, hdw, ← hcs.1, ← hcs.2]; rfl
    rw [e1] at cl
    have HE1 := hide hcs
    have HLF2 := hide (And.intro hlf2 hdw)
    have hTi : ¬ (256 : Int) < (T.size : Int) := by rw [unhide HTS]; omega
    obtain ⟨k, hk⟩ : ∃ k : Nat, (256 : Int) - (T.size : Int) = (k : Int) ∧ k = 256 - b.length := ⟨256 - b.length, by rw [unhide HTS]; omega, rfl⟩
    have hk1 := hk.1
    have hkw : IntKind.i64.wrap ((256 : Int) - (T.size : Int)) = (k : Int) := by rw [IntKind.wrap_i64, hk1]; omega
    obtain ⟨P, hP⟩ : ∃ P, P = str (padS b) := ⟨_, rfl⟩
    have hTZ : T ++ str (List.replicate k 0) = P := by rw [unhide HT, str_app, hP, hk.2]; rfl
    obtain ⟨Z, hZ⟩ : ∃ Z, Z = str (List.replicate k (0 : UInt8)) := ⟨_, rfl⟩
    have hZs : Z.size = k := by rw [hZ, str_size, List.length_replicate]
    have hns : ¬ 9223372036854775807 < T.size + Z.size := by rw [hZs, hk.2, unhide HTS]; omega
    rw [← hZ] at hTZ
    have cz : ∀ V, Calls Try.prog 26 #[.int .i64 (k : Int)] V (fun e w' => e = .returned (.string Z) ∧ w' = V) := fun V => by rw [hZ]; exact rzeros_any V k (by omega)
    have hbt := built_rw (j : Int) P
    have HP := hide hP
    have HDN2 := hide hdn2
    clear hTs hdn2 er hE hlf2 hdw e1 hk hk1 hZ hP hZs hi0 hi1 hbl hcs hdn
    go_enter Try.func10, Try.ntmps10
    go_upto_region 6 with (first
      | (rw [unhide HF])
      | (refine wpList_load_mid rfl 30 _ rfl w.heap.size 0 rfl [.slice so n1 sc, .slice uo n2 uc, .int .i64 lf, .bool false] _ hra Try.underlying30 rfl info_rd ?_; clear hra)
      | (go_at_call 27; refine cl.mono ?_; rintro e w3 ⟨rfl, g3⟩; clear cl; have HB3 := hide ((unhide HB1).kept g3 (by simp)); have HC3 := hide ((unhide HB2).kept g3 (by simp)); have HG3 := hide g3; clear g3)
      | (have hB9 := unhide HB3; refine wpList_store_row rfl 30 _ _ rfl w.heap.size _ rfl rfl _ _ hB9 info_rd rfl (rd4_one _ _ _ _ _ _ _ _) ?_; clear hB9))
    obtain ⟨W4, hW4⟩ : ∃ W, W = w3.setRow w.heap.size #[.slice so n1 sc, .slice uo n2 uc, .int .i64 lf2, .bool dw] := ⟨_, rfl⟩
    rw [← hW4]
    have hB4 := (unhide HB3).row [.slice so n1 sc, .slice uo n2 uc, .int .i64 lf2, .bool dw]
    have hC4 := (unhide HC3).row_other w.heap.size #[.slice so n1 sc, .slice uo n2 uc, .int .i64 lf2, .bool dw] (by omega)
    have g4 : w.grownBy W4 none := by rw [hW4]; exact gb_row (tn (unhide HG2) (unhide HG3)) _ (Or.inl (Nat.le_refl _))
    rw [show ([.slice so n1 sc, .slice uo n2 uc, .int .i64 lf2, .bool dw] : List Value).toArray = #[.slice so n1 sc, .slice uo n2 uc, .int .i64 lf2, .bool dw] from rfl, ← hW4] at hB4
    rw [← hW4] at hC4
    obtain ⟨W5, hW5, ho5, g5⟩ := own_newT W4 54 2 W4.heap.size (Nat.le_refl _)
    have hB5 := hB4.kept g5 (by simp)
    have hC5 := hC4.kept g5 (by simp)
    have hc1 := hB5.cell 1
    simp only [List.getElem?_cons_zero, List.getElem?_cons_succ] at hc1
    have hM5 := (unhide H2).und.kept (tn g4 g5)
    have hb0 := bs_rw0
    have HW5 := hide hW5
    have HO5 := hide ho5
    have HM5 := hide hM5
    have HB5 := hide hB5
    have HC5 := hide hC5
    have HG5 := hide (tn g4 g5)


    have HS5 : Hid (W4.heap.size ≤ W5.heap.size ∧ w.heap.size + 2 ≤ W4.heap.size) := ⟨g5.size, by have h1 := (unhide HG3).size; have h2 : w3.heap.size ≤ W4.heap.size := (by rw [hW4]; exact (gb_row (gb_refl w3 (some w.heap.size)) _ (Or.inr rfl)).size); omega⟩
    clear hW4 hB4 hC4 g4 hW5 ho5 g5 hB5 hC5 hM5 HB3 HC3 HG3 HB1 HB2 HF
    have hbs := bs_rw1 (j : Int) P
    go_upto_region 7 with (first
      | (rw [← unhide HW5])
      | (refine wpList_append_rws rfl _ _ rfl W4.heap.size _ [] D.U rfl (unhide HO5) uo n2 uc rfl (unhide HN2) (unhide HM5) (by have := (unhide HUB).1; simp; omega) (unhide HS5).1 ?_; intro v6 w6 ho6 g6; obtain ⟨a6, c6, rfl⟩ := own_val ho6; have HO6 := hide (show w6.ownsRow W4.heap.size 54 2 _ D.U.length (D.U.flatMap rwC) from ho6); have HB6 := hide ((unhide HB5).kept g6 (own_apart_t (unhide HO5) (unhide HB5) (by decide))); have HC6 := hide ((unhide HC5).kept g6 (own_apart_t (unhide HO5) (unhide HC5) (by decide))); have HG6 := hide (gb_trans (unhide HG5) g6 (fun x e => Or.inl (by have := (unhide HO5).lt x e; have := (unhide HS5).2; omega))); have HS6 := hide (Nat.le_trans (unhide HS5).1 g6.size); clear ho6 g6)
      | (go_at_call 26; refine (cz _).mono ?_; rintro e w7 ⟨rfl, e7⟩; subst w7; clear cz)
      | (refine wpList_built rfl 54 _ rfl #[.int .i64 (j : Int), .string P] ?hb ?_; (case hb => exact hbt))
      | (refine wpList_build1 rfl 28 _ rfl (.agg #[.int .i64 (j : Int), .string P]) _ rfl (hbs _) ?_; obtain ⟨W8, hW8, hB8, g8⟩ := box_new w6 54 [.int .i64 (j : Int), .string P]; rw [← (show W8 = w6.alloc (.cells #[.int .i64 (j : Int), .string P] 54) from hW8)]; have HM8 := hide (show Rws W8 2 rwC (some ⟨w6.heap.size, 0, none⟩) 1 [(j, padS b)] from rws_one (by unfold rwC sc1; rw [← unhide HP]; exact hB8)); have HO8 := hide (World.ownsRow.kept (unhide HO6) g8 (Classical.em _)); have HB8 := hide ((unhide HB6).kept g8 (by simp)); have HC8 := hide ((unhide HC6).kept g8 (by simp)); have HG8 := hide (tn (unhide HG6) g8); have HS8 := hide (Nat.le_trans (unhide HS6) g8.size); clear hW8 hB8 g8)
      | (refine wpList_append_rws rfl _ _ rfl W4.heap.size _ D.U [(j, padS b)] rfl (unhide HO8) (some ⟨w6.heap.size, 0, none⟩) 1 1 rfl rfl (unhide HM8) (by have := (unhide HUB).1; simp; omega) (unhide HS8) ?_; intro v9 w9 ho9 g9; obtain ⟨m9, hm9⟩ : ∃ m, m = (D.U ++ [(j, padS b)]).length := ⟨_, rfl⟩; rw [← hm9] at ho9; obtain ⟨a9, c9, rfl⟩ := own_val ho9; have hB9 := (unhide HB8).kept g9 (own_apart_t (unhide HO8) (unhide HB8) (by decide)); have HC9 := hide ((unhide HC8).kept g9 (own_apart_t (unhide HO8) (unhide HC8) (by decide))); have HG9 := hide (gb_trans (unhide HG8) g9 (fun x e => Or.inl (by have := (unhide HO8).lt x e; have := (unhide HS5).2; omega))); have q9 := hB9.cell 1; have f9 := hB9.fz 1; simp only [List.getElem?_cons_zero, List.getElem?_cons_succ] at q9; have HB9 := hide hB9; have HO9 := hide ho9; have HMM := hide hm9; clear hB9 ho9 g9 hm9))
    have hB10 := (unhide HB9).set 1 (.slice a9 m9 c9)
    have hC10 := (unhide HC9).other ⟨w.heap.size, 1, none⟩ (.slice a9 m9 c9) (by simp)
    have g10 := gb_set w9 w.heap.size 1 (.slice a9 m9 c9)
    have ho10 := World.ownsRow.kept (unhide HO9) g10 (Or.inr fun e => own_apart_t (unhide HO9) (unhide HB9) (by decide) e.symm)
    obtain ⟨W10, hW10⟩ : ∃ W, W = w9.setCell ⟨w.heap.size, 1, none⟩ (.slice a9 m9 c9) := ⟨_, rfl⟩
    rw [← hW10] at hB10 hC10 g10 ho10 ⊢
    have hG10 : w.grownBy W10 none := gb_trans (unhide HG9) g10 (fun x e => Or.inl (by cases e; exact Nat.le_refl _))
    have hra := blk_all hB10
    simp only [List.set_cons_zero, List.set_cons_succ] at hra
    have HC10 := hide hC10
    have HO10 := hide ho10
    have HRES : Hid (∀ w', W10.grownBy w' (some (w.heap.size + 1)) → RdR w w' so uo (.agg #[.slice so n1 sc, .slice a9 m9 c9, .int .i64 lf2, .bool dw]) { E with U := D.U ++ [(j, padS b)] } ∧ w.grownBy w' none) := fun w' g => by
      have hg : w.grownBy w' none := gb_trans hG10 g (fun x e => Or.inl (by cases e; omega))
      refine ⟨⟨so, sc, a9, c9, ?_, ⟨?_, ?_⟩, (fun _ e => Or.inl e), ?_⟩, hg⟩
      · rw [unhide HMM, unhide HN1, (unhide HLF2).1, (unhide HLF2).2, ← (unhide HE1).1]
        rfl
      · show Cel w' so sc (E.safe.map sc1)
        rw [(unhide HE1).1]
        exact (unhide H2).safe.kept hg
      · have ho := World.ownsRow.kept (unhide HO10) g (Or.inr fun e => own_apart_t (unhide HO10) (unhide HC10) (by decide) e.symm)
        have hmm := unhide HMM
        rw [hmm] at ho
        obtain ⟨ao, c, e1, e2, _⟩ := Rws.own rwC ho (fun _ _ => rfl)
        injection e1 with q1 q2 q3
        rw [q1, q3]
        exact e2
      · intro ad e
        have h1 := (unhide HO10).lt ad.block (by rw [e]; rfl)
        have h2 := (unhide HS5).2
        have h3 := g.size
        exact Or.inr (by omega)
    clear hB10 hC10 g10 ho10 hW10 hG10
    cases dn2 with
    | true =>
      go_wp2_with (first
        | (refine wpList_load_mid rfl 30 _ rfl w.heap.size 0 rfl [.slice so n1 sc, .slice a9 m9 c9, .int .i64 lf2, .bool dw] _ hra Try.underlying30 rfl info_rd ?_; clear hra)
        | (have hB9 := unhide HC10; refine wpList_store_row rfl 30 _ _ rfl (w.heap.size + 1) _ rfl rfl _ _ hB9 info_rd rfl (rd4_one _ _ _ _ _ _ _ _) ?_; clear hB9))
      refine bodyPost_ret (results_row_tmp rfl _ _ _ _ _ _ _ rfl ((unhide HC10).row [.slice so n1 sc, .slice a9 m9 c9, .int .i64 lf2, .bool dw]) Try.underlying30 rfl info_rd) rfl ?_
      exact ⟨_, rfl, unhide HRES _ (gb_row (gb_refl _ _) _ (Or.inr rfl))⟩
    | false =>
      go_wp2_with (first
        | (refine wpList_load_mid rfl 30 _ rfl w.heap.size 0 rfl [.slice so n1 sc, .slice a9 m9 c9, .int .i64 lf2, .bool dw] _ hra Try.underlying30 rfl info_rd ?_; clear hra)
        | (have hB9 := unhide HC10; refine wpList_store_row rfl 30 _ _ rfl (w.heap.size + 1) _ rfl rfl _ _ hB9 info_rd rfl (rd4_one _ _ _ _ _ _ _ _) ?_; clear hB9))
      refine bodyPost_ret (results_row_tmp rfl _ _ _ _ _ _ _ rfl ((unhide HC10).row [.slice so n1 sc, .slice a9 m9 c9, .int .i64 lf2, .bool dw]) Try.underlying30 rfl info_rd) rfl ?_
      exact ⟨_, rfl, unhide HRES _ (gb_row (gb_refl _ _) _ (Or.inr rfl))⟩

end Go.Proofs.Ytfaipdifkmjdeaa
