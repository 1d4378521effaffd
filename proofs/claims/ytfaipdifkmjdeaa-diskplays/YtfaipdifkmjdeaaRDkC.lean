/- What the document's New and Read answer (package coffretref14). -/
import Derived.Test.YtfaipdifkmjdeaaRDkB
import Derived.Test.YtfaipdifkmjdeaaMNts
import Derived.Test.YtfaipdifkmjdeaaDkT
namespace Go.Proofs.Ytfaipdifkmjdeaa
open Go.RowKit

theorem info_sc : (Try.prog.info? 9).map (fun i => (i.zero, i.size, i.bytes)) = some (some (.string ⟨#[]⟩), 1, 16) := by kernel_rfl
theorem bs_sc (s : ByteArray) (V : World) : (Instr.buildSlice 27 1 #[(0, .string s)]).run Try.prog V = .ok (.slice (some ⟨V.heap.size, 0, none⟩) 1 1) (V.alloc (.cells #[.string s] 9)) := by kernel_rfl
/-- 'append(own, text)'. -/
theorem wpList_append_sc {w : World} {ops : Array Oper} {rest : List Oper} {o : Oper} {a : Act} {Q : Exit → Act → World → Prop} (hgd : o.guard = none) (s x : Operand)
    (ho : o.op = .call { callee := .builtin .append, args := #[s, x], argTypes := #[27, 27] })
    (base : Nat) (v : Value) (n : Nat) (xs : List Value) (hs : a.eval s = v) (hown : w.ownsRow base 9 1 v n xs) (p : Nat) (y : ByteArray) (hB : Blk w p 9 [.string y])
    (hx : a.eval x = .slice (some ⟨p, 0, none⟩) 1 1) (hn : n ≤ 1000000) (hbase : base ≤ w.heap.size)
    (h : ∀ v' w', w'.ownsRow base 9 1 v' (n + 1) (xs ++ [.string y]) → w.grownBy w' v.ownBlock → wpList Try.prog ops Q rest (a.put o.dst v') w') : wpList Try.prog ops Q (o :: rest) a w := by
  obtain ⟨i0, hi, hz0, hz1, hz2⟩ := info_parts info_sc
  exact wpList_append_own w hgd s x 27 ho base 9 i0 (.string ⟨#[]⟩) 1 16 Try.underlying27 hi hz0 hz1 hz2 rfl (by decide) v n xs hs hown ⟨p, 0, none⟩ 1 1 [.string y] hx rfl (fun j u hu => World.news_of_block hB j u (by simpa using hu)) (fun u hu => by simp at hu; subst hu; rfl) (by unfold maxLen; omega) (by omega) hbase (fun v' w' q1 q2 _ => h v' w' q1 q2)
theorem built_rd1 : Try.prog.built 30 [(2, .int .i64 (-1))] = some #[.slice none 0 0, .slice none 0 0, .int .i64 (-1), .bool false] := by kernel_rfl
theorem built_rd0 : Try.prog.built 30 [] = some #[.slice none 0 0, .slice none 0 0, .int .i64 0, .bool false] := by kernel_rfl
theorem wpList_built {P : Program} {ops : Array Oper} {rest : List Oper} {o : Oper} {a : Act} {w : World} {Q : Exit → Act → World → Prop} (hg : o.guard = none) (t : TypeId) (parts : Array (Nat × Operand)) (ho : o.op = .build t parts) (cells : Array Value)
    (hf : P.built t (parts.map fun (i, x) => (i, a.eval x)).toList = some cells)
    (h : wpList P ops Q rest (a.put o.dst (.agg cells)) w) : wpList P ops Q (o :: rest) a w :=
  wpList_build hg t parts ho (by rw [hf]; rfl) (by rw [hf]; exact h)
theorem rep_snoc (n : Nat) (z : List UInt8) : (List.replicate (n + 1) z).map sc1 = (List.replicate n z).map sc1 ++ [sc1 z] := by rw [List.replicate_succ', List.map_append]; rfl

set_option maxRecDepth 100000 in
set_option maxHeartbeats 4000000 in
theorem rnew_ok (w : World) (n : Nat) (h1 : 1 ≤ n) (h2 : n ≤ 2048) :
    Calls Try.prog 9 #[.int .i64 (n : Int)] w fun e w' => ∃ v, e = .returned (.tuple #[v, .int .i64 0]) ∧ RdR w w' none none v (newD n) ∧ w.grownBy w' none := by
  obtain ⟨W1, hW1, hB1, g1⟩ := box_new w 30 [.slice none 0 0, .slice none 0 0, .int .i64 0, .bool false]
  obtain ⟨W2, hW2, hB2, g2⟩ := row_new W1 30 #[.slice none 0 0, .slice none 0 0, .int .i64 0, .bool false] [.slice none 0 0, .slice none 0 0, .int .i64 (-1), .bool false]
  have s1 : W1.heap.size = w.heap.size + 1 := by rw [hW1, World.size_alloc]
  have hBn := Blk.new W1 30 [.slice none 0 0, .slice none 0 0, .int .i64 0, .bool false]
  have hB1' := hB1.kept g2 (by simp)
  have hzv := zero_rd
  have hpq : w.heap.size ≠ W1.heap.size := by omega
  have cz := rzeros_any W2 256 (by decide)
  have hb1 := built_rd1
  have HW1 := hide hW1
  have HW2 := hide hW2
  have HBN := hide hBn
  have HB1 := hide hB1'
  have HB2 := hide hB2
  have HG2 := hide (tn g1 g2)
  have hbs := bs_sc
  obtain ⟨ZS, hZS⟩ : ∃ Z, Z = str zsec := ⟨_, rfl⟩
  have cz2 : Calls Try.prog 26 #[.int .i64 256] W2 fun e w' => e = .returned (.string ZS) ∧ w' = W2 := by rw [hZS]; exact cz
  have HZS := hide hZS
  have HS1 : Hid (W1.heap.size = w.heap.size + 1 ∧ W1.heap.size < W2.heap.size) := ⟨s1, hB2.lt⟩
  clear hW1 hW2 hB1 hB2 g1 g2 hBn hB1' cz s1 hZS
  go_enter Try.func9, Try.ntmps9
  go_upto_region 5 with (first
    | (rw [← unhide HW1])
    | (refine wpList_built rfl 30 _ rfl #[.slice none 0 0, .slice none 0 0, .int .i64 (-1), .bool false] ?hb ?_; (case hb => exact hb1))
    | (have hB9 := unhide HBN; refine wpList_store_row rfl 30 _ _ rfl W1.heap.size _ rfl rfl _ _ hB9 info_rd rfl (rd4_one _ _ _ _ _ _ _ _) ?_; clear hB9; rw [← unhide HW2])
    | (go_at_call 26; refine cz2.mono ?_; rintro e w3 ⟨rfl, e3⟩; subst w3; clear cz2))
  go_wp2
  go_loopw [6] (fun i wr => ∃ (j : Nat) (so : Option Addr) (sc : Nat), i = .int .i64 j ∧ j ≤ n ∧ Hid (Blk wr W1.heap.size 30 [.slice so j sc, .slice none 0 0, .int .i64 (-1), .bool false] ∧ wr.ownsRow W2.heap.size 9 1 (.slice so j sc) j ((List.replicate j zsec).map sc1) ∧ W2.grownBy wr (some W1.heap.size))) (fun i _ => n - (intOf i).toNat)
  case atStart => exact ⟨0, none, 0, rfl, Nat.zero_le _, unhide HB2, World.ownsRow_nil _ _ _ _, gb_refl _ _⟩
  case round =>
    obtain ⟨j, so, sc, rfl, hj, HR⟩ := hrel
    by_cases hlt : j < n
    · have hjw : IntKind.i64.wrap ((j : Int) + 1) = (j : Int) + 1 := by rw [IntKind.wrap_i64]; omega
      have hji : (j : Int) < (n : Int) := by omega
      have hc0 := (unhide HR).1.cell 0
      simp only [List.getElem?_cons_zero] at hc0
      obtain ⟨W3, hW3, hB3, g3⟩ := box_new wr 9 [.string ZS]
      have ho3 := own_keepT (unhide HR).2.1 g3
      have hbP := (unhide HR).1.kept g3 (by simp)
      have hsn : (List.replicate (j + 1) zsec).map sc1 = (List.replicate j zsec).map sc1 ++ [.string ZS] := by rw [rep_snoc, unhide HZS]; rfl
      have hg3 := tn (unhide HR).2.2 g3
      have hbase := hg3.size
      have HW3 := hide (show W3 = wr.alloc (.cells #[.string ZS] 9) from hW3)
      have HB3 := hide hB3
      have HO3 := hide ho3
      have HBP := hide hbP
      have HSN := hide hsn
      have HG3 := hide hg3
      have hj1 : j ≤ 1000000 := by omega
      clear hW3 hB3 g3 ho3 hbP hsn hg3 HR h1
      go_wp2_with (first
        | (refine wpList_build1 rfl 27 _ rfl (.string ZS) _ rfl (hbs ZS _) ?_; rw [← unhide HW3])
        | (refine wpList_append_sc rfl _ _ rfl W2.heap.size (.slice so j sc) j _ rfl (unhide HO3) wr.heap.size ZS (unhide HB3) rfl hj1 hbase ?_; intro v5 w5 ho5 g5; obtain ⟨so5, sc5, rfl⟩ := own_val ho5; have hB5 := (unhide HBP).kept g5 (own_apart_t (unhide HO3) (unhide HBP) (by decide)); have q5 := hB5.cell 0; have f5 := hB5.fz 0; simp only [List.getElem?_cons_zero] at q5; have HB5 := hide hB5; have HO5 := hide ho5; have HG5 := hide (gb_trans (unhide HG3) g5 (fun x e => Or.inl ((unhide HO3).lt x e).1)); clear hB5 ho5 g5))
      go_roundw
      case rel =>
        have gs := gb_set w5 W1.heap.size 0 (.slice so5 (j + 1) sc5)
        exact ⟨j + 1, so5, sc5, by go_num, by omega, (by have := (unhide HB5).set 0 (.slice so5 (j + 1) sc5); simpa only [List.set_cons_zero] using this), by rw [unhide HSN]; exact World.ownsRow.kept (unhide HO5) gs (Or.inr fun e => own_apart_t (unhide HO5) (unhide HB5) (by decide) e.symm), gb_trans (unhide HG5) gs (fun x e => Or.inr e)⟩
      case measure => simp [intOf]; omega
    · have hjn : j = n := by omega
      have hji : ¬ (j : Int) < (n : Int) := by omega
      subst hjn
      have hra := blk_all (unhide HR).1
      have hBq := (unhide HB1).kept (unhide HR).2.2 (by rw [ne_eq, Option.some.injEq]; exact hpq)
      have HBQ := hide hBq
      clear hBq hji
      go_wp2_with (first
        | (refine wpList_load_mid rfl 30 _ rfl W1.heap.size 0 rfl [.slice so j sc, .slice none 0 0, .int .i64 (-1), .bool false] _ hra Try.underlying30 rfl info_rd ?_; clear hra)
        | (have hB9 := unhide HBQ; refine wpList_store_row rfl 30 _ _ rfl w.heap.size _ rfl rfl _ _ hB9 info_rd rfl (rd4_one _ _ _ _ _ _ _ _) ?_; clear hB9))
      refine bodyPost_ret (results_row_tmp rfl _ _ _ _ _ _ _ rfl ((unhide HBQ).row [.slice so j sc, .slice none 0 0, .int .i64 (-1), .bool false]) Try.underlying30 rfl info_rd) rfl ?_
      have g5 : wr.grownBy (wr.setRow w.heap.size #[.slice so j sc, .slice none 0 0, .int .i64 (-1), .bool false]) (some w.heap.size) := gb_row (gb_refl _ _) _ (Or.inr rfl)
      have ho := World.ownsRow.kept (unhide HR).2.1 g5 (Or.inr fun e => own_apart_t (unhide HR).2.1 (unhide HBQ) (by decide) e.symm)
      have el : ((List.replicate j zsec).map sc1).length = j := by simp
      obtain ⟨ao, c, e1, e2, e3⟩ := Cel.own (L := (List.replicate j zsec).map sc1) (by rw [el]; exact ho) (sc1_one _)
      rw [el] at e1
      cases e1
      refine ⟨_, rfl, ⟨so, sc, none, 0, ?_, ⟨?_, ?_⟩, ?_, (fun _ e => by cases e)⟩, ?_⟩
      · simp only [rdC, newD, List.length_replicate, List.length_nil]
      · exact e2
      · exact ⟨fun _ => ⟨rfl, rfl⟩, Nat.le_refl _, Nat.zero_le _, (fun _ e => by cases e), (fun _ e => by cases e)⟩
      · intro ad e
        have h4 := ho.lt ad.block (by rw [e]; rfl)
        have := unhide HS1
        exact Or.inr ⟨by omega, h4.2⟩
      · have hs1 := (unhide HS1).1
        exact gb_row (gb_trans (unhide HG2) (unhide HR).2.2 (fun x e => by cases e; exact Or.inl (by omega))) _ (Or.inl (Nat.le_refl _))

end Go.Proofs.Ytfaipdifkmjdeaa
