/- An append of bytes where a region draws its order, and what a row of the call's own is apart from. No condition but those that each lemma names. -/
import Derived.Test.YtcemdlcimhoeeaaDoorMBlk
import Derived.Test.YtcemdlcimhoeeaaDoorBase
import Derived.Deep.AppendLies
import Derived.Test.YtcemdlcimhoeeaaDoorOCell
import Derived.Laws.AppendOwnNone
namespace Go.Proofs.YtcemdlcimhoeeaaDoor
open Go.RowKit

/-- 'append(own, x...)' at a step of a region that draws its order. -/
theorem step_append_bts {w : World} {ops : Array Oper} {o : Oper} {a : Act} {K : Act → World → Prop} {Q : Exit → Act → World → Prop} {E : Prop} (hw : Region.wanted o (yielded ops a.tmps) = true) (s x : Operand)
    (ho : o.op = .call { callee := .builtin .append, args := #[s, x], argTypes := #[32, 32] })
    (base : Nat) (v : Value) (n : Nat) (xs : List Value) (hs : a.eval s = v) (hown : w.ownsRow base 5 1 v n xs)
    (ao : Option Addr) (c : Nat) (l : List UInt8) (hb : Bts w ao c l) (m : Nat) (hm : m = l.length) (hx : a.eval x = .slice ao m c) (hn : n + l.length ≤ 140737488355328) (hbase : base ≤ w.heap.size)
    (h : ∀ v' w', w'.ownsRow base 5 1 v' (n + l.length) (xs ++ l.map bv) → w.grownBy w' v.ownBlock → K (a.put o.dst v') w') :
    if Region.wanted o (yielded ops a.tmps) = true then Oper.wp Tryd.prog o a w K Q else E := by
  subst hm
  rw [if_pos hw]
  obtain ⟨i0, hi, hz0, hz1, hz2⟩ := info_parts info_byte
  cases ao with
  | none =>
    have hz := hb.zip rfl
    have hx0 : l = [] := List.eq_nil_of_length_eq_zero hz.1
    have hc0 := hz.2
    subst hx0 hc0
    have hrun := run_append_owned_none (P := Tryd.prog) (w := w) base 32 o.type 5 i0 1 Tryd.underlying32 hi v n xs hown
    unfold Oper.wp
    simp [execOp, ho, resolve, invoke, builtin, hs, hx, hrun, Result.andThen]
    exact h v w (by simpa using hown) (gb_refl _ _)
  | some ad =>
    exact wp_append_own w s x 32 ho base 5 i0 (.int .u8 0) 1 1 Tryd.underlying32 hi hz0 hz1 hz2 rfl (by decide) v n xs hs hown ad l.length c (l.map bv) hx (by simp) (hb.news ad rfl) (bv_one l) (by unfold maxLen; omega) (by omega) hbase (fun v' w' q1 q2 _ => h v' w' q1 q2)

theorem Blk.typ {w : World} {b : Nat} {t : TypeId} {cs : List Value} (h : Blk w b t cs) (ht : t ≠ 5) : ¬ Typ w b := by
  rintro ⟨cur, m, h2⟩
  unfold Blk at h
  rw [h] at h2
  injection h2 with h3
  injection h3 with _ h4
  exact ht h4

/-- 'append(own, x...)' as wpList_append_bts says it, the length by another name. -/
theorem wpList_append_btm {w : World} {ops : Array Oper} {rest : List Oper} {o : Oper} {a : Act} {Q : Exit → Act → World → Prop} (hgd : o.guard = none) (s x : Operand)
    (ho : o.op = .call { callee := .builtin .append, args := #[s, x], argTypes := #[32, 32] })
    (base : Nat) (v : Value) (n : Nat) (xs : List Value) (hs : a.eval s = v) (hown : w.ownsRow base 5 1 v n xs)
    (ao : Option Addr) (c : Nat) (l : List UInt8) (hb : Bts w ao c l) (m : Nat) (hm : m = l.length) (hx : a.eval x = .slice ao m c) (hn : n + m ≤ 140737488355328) (hbase : base ≤ w.heap.size)
    (h : ∀ v' w', w'.ownsRow base 5 1 v' (n + m) (xs ++ l.map bv) → w.grownBy w' v.ownBlock → wpList Tryd.prog ops Q rest (a.put o.dst v') w') : wpList Tryd.prog ops Q (o :: rest) a w := by
  subst hm
  exact wpList_append_bts hgd s x ho base v n xs hs hown ao c l hb hx hn hbase h

/-- No bytes yet, in memory of the call's own. -/
theorem own_new (V : World) (base : Nat) (h : base ≤ V.heap.size) : ∃ Wb, Wb = V.alloc (.cells #[] 5) ∧ Wb.ownsRow base 5 1 (.slice (some ⟨V.heap.size, 0, none⟩) 0 0) 0 [] ∧ V.grownBy Wb none :=
  ⟨_, rfl, World.ownsRow_made V #[] 0 h (by unfold maxLen; omega) rfl, gb_alloc (gb_refl _ _) _⟩
theorem own_apart {V : World} {base n : Nat} {v : Value} {xs cs : List Value} {p : Nat} {t : TypeId} (h : V.ownsRow base 5 1 v n xs) (hB : Blk V p t cs) (ht : t ≠ 5) : some p ≠ v.ownBlock := by
  rcases h.2 with ⟨rfl, _⟩ | ⟨g, cap, cur, rfl, hg, hh, _⟩
  · intro e; cases e
  · intro e
    have e2 : p = g := by simpa [Value.ownBlock] using e
    subst e2
    exact hB.typ ht ⟨cur, _, hh⟩
theorem own_keep {V V' : World} {base n : Nat} {v : Value} {xs : List Value} (h : V.ownsRow base 5 1 v n xs) (g : V.grownBy V' none) : V'.ownsRow base 5 1 v n xs :=
  h.kept g (by
    by_cases e : v.ownBlock = none
    · exact Or.inl e
    · exact Or.inr e)
theorem own_grow {u V V' : World} {n : Nat} {v : Value} {xs : List Value} (g : u.grownBy V none) (h : V.ownsRow u.heap.size 5 1 v n xs) (q : V.grownBy V' v.ownBlock) : u.grownBy V' none :=
  gb_trans g q (fun x e => Or.inl (h.lt x e).1)

end Go.Proofs.YtcemdlcimhoeeaaDoor

/- Small facts of memory for objects: names of objects as slices of bytes, rows that a call has laid, blocks that it has made. No condition but those that each lemma names. -/
namespace Go.Proofs.YtcemdlcimhoeeaaDoor
open Go.RowKit

theorem range_bts {w : World} {b o : Nat} {l : List UInt8} (h : w.rangeAt b o (l.map bv)) (hm : l.length ≤ maxLen) : Bts w (some ⟨b, o, none⟩) l.length l := by
  refine ⟨(fun e => by cases e), Nat.le_refl _, hm, (fun ad e _ => by cases e; rfl), (fun ad e i hi => ?_)⟩
  cases e
  exact h i _ (by simp [bv, hi])
theorem slice_wid (b o : Nat) (W : World) : (Instr.sliceAt 24 (.pointer (some ⟨b, o, none⟩)) none none none).run Tryd.prog W = .ok (.slice (some ⟨b, o, none⟩) 32 32) W := by
  have ea : Tryd.prog.arrayLen 24 = 32 := by simp [Program.arrayLen, Tryd.underlying24]
  have ee : Tryd.prog.elem 24 = 5 := by simp [Program.elem, Tryd.underlying24]
  rw [run_sliceAt_array_all W 24 ⟨b, o, none⟩ (by rw [ea, ee]; exact Tryd.underlying24), ea, ee, size_byte]
  simp only [Result.andThen_ok, slicedAt, Nat.zero_mul, Nat.sub_zero]
  rw [if_neg (by omega), Addr.add_mid]
  rfl
theorem own_low {w : World} {b1 b2 k n : Nat} {t : TypeId} {v : Value} {xs : List Value} (h : w.ownsRow b1 t k v n xs) (hb : b2 ≤ b1) : w.ownsRow b2 t k v n xs := by
  refine ⟨h.1, ?_⟩
  rcases h.2 with h1 | ⟨g, cap, cur, h1, h2, h3⟩
  · exact Or.inl h1
  · exact Or.inr ⟨g, cap, cur, h1, Nat.le_trans hb h2, h3⟩
/-- A row of bytes of the call's own, to be read. -/
theorem own_read {w : World} {base n : Nat} {v : Value} {l : List UInt8} (h : w.ownsRow base 5 1 v n (l.map bv)) : n = l.length ∧ ∃ ao c, v = .slice ao n c ∧ Bts w ao c l ∧ ∀ ad, ao = some ad → base ≤ ad.block ∧ Typ w ad.block := by
  have hn : n = l.length := by have := h.1; simpa using this.symm
  refine ⟨hn, ?_⟩
  rcases h.2 with ⟨rfl, h2⟩ | ⟨g, cap, cur, rfl, hg, hh, _⟩
  · have : l = [] := List.eq_nil_of_length_eq_zero (by omega)
    subst this
    exact ⟨none, 0, by rw [hn]; rfl, Bts.nil _, fun _ e => by cases e⟩
  · obtain ⟨_, h3, h4⟩ := Bts.own h
    exact ⟨_, _, rfl, h4, fun ad e => by cases e; exact ⟨h3, ⟨cur, _, hh⟩⟩⟩
/-- A row of other than bytes is no row of bytes. -/
theorem own_typ {w : World} {base n k x : Nat} {t : TypeId} {v : Value} {xs : List Value} (h : w.ownsRow base t k v n xs) (e : v.ownBlock = some x) (ht : t ≠ 5) : ¬ Typ w x := by
  rcases h.2 with ⟨rfl, _⟩ | ⟨g, cap, cur, rfl, _, hh, _⟩
  · cases e
  · have : g = x := by simpa [Value.ownBlock] using e
    subst this
    rintro ⟨cur2, m2, h2⟩
    rw [hh] at h2
    injection h2 with h3
    injection h3 with _ h4
    exact ht h4
/-- A block that is made, and written whole. -/
theorem row_new (w : World) (t : TypeId) (Z : Array Value) (cs : List Value) : ∃ W, W = (w.alloc (.cells Z t)).setRow w.heap.size cs.toArray ∧ Blk W w.heap.size t cs ∧ w.grownBy W none :=
  ⟨_, rfl, by
    have h : Blk (w.alloc (.cells Z t)) w.heap.size t Z.toList := by simpa using Blk.new w t Z.toList
    exact h.row cs, gb_row (gb_alloc (gb_refl _ _) _) _ (Or.inl (Nat.le_refl _))⟩
theorem box_new (w : World) (t : TypeId) (cs : List Value) : ∃ W, W = w.alloc (.cells cs.toArray t) ∧ Blk W w.heap.size t cs ∧ w.grownBy W none :=
  ⟨_, rfl, Blk.new w t cs, gb_alloc (gb_refl _ _) _⟩
/-- An id's bytes in an entry's block, in a commit's, in a note's. -/
theorem en_id {w : World} {b o : Nat} {e : EntL} (h : w.rangeAt b o (enC e)) : w.rangeAt b (o + 2) (e.id.map bv) := by
  intro j v hv
  rw [show o + 2 + j = o + (j + 2) by omega]
  exact h (j + 2) v (by simpa [enC] using hv)
theorem ch_tree {w : World} {b o : Nat} {c : ChgL} {po : Option Addr} {pc : Nat} (h : w.rangeAt b o (chC c po pc)) : w.rangeAt b o (c.tree.map bv) := by
  intro j v hv
  refine h j v ?_
  unfold chC
  rw [List.getElem?_append_left (List.getElem?_eq_some_iff.1 hv).1]
  exact hv
theorem mk_target {w : World} {b o : Nat} {m : MrkL} (h : w.rangeAt b o (mkC m)) : w.rangeAt b o (m.target.map bv) := by
  intro j v hv
  refine h j v ?_
  unfold mkC
  rw [List.getElem?_append_left (List.getElem?_eq_some_iff.1 hv).1]
  exact hv
theorem blk_all {w : World} {b : Nat} {t : TypeId} {vs : List Value} (h : Blk w b t vs) : w.rangeAt b 0 vs := by
  have : Blk w b t ([] ++ (vs ++ [])) := by simpa using h
  exact this.range

theorem zero_ent : ∃ Z : Array Value, Z.size = 34 ∧ ∀ w, (zeroValue 41).run Tryd.prog w = .ok (.agg Z) w := ⟨_, rfl, fun w => (by kernel_rfl : (zeroValue 41).run Tryd.prog w = .ok (.agg (enC ⟨[], false, List.replicate 32 0⟩).toArray) w)⟩
theorem zero_chg : ∃ Z : Array Value, Z.size = 36 ∧ ∀ w, (zeroValue 28).run Tryd.prog w = .ok (.agg Z) w := ⟨_, rfl, fun w => (by kernel_rfl : (zeroValue 28).run Tryd.prog w = .ok (.agg (chC ⟨List.replicate 32 0, [], 0, [], []⟩ none 0).toArray) w)⟩
theorem zero_id : ∃ Z : Array Value, Z.size = 32 ∧ ∀ w, (zeroValue 24).run Tryd.prog w = .ok (.agg Z) w := ⟨_, rfl, fun w => (by kernel_rfl : (zeroValue 24).run Tryd.prog w = .ok (.agg ((List.replicate 32 (0 : UInt8)).map bv).toArray) w)⟩

end Go.Proofs.YtcemdlcimhoeeaaDoor

/- What object's ofData and Same, and the library's bytes.Clone and bytes.Equal answer. No condition but those that each lemma names. -/
namespace Go.Proofs.YtcemdlcimhoeeaaDoor
open Go.RowKit

theorem ofData_any (w : World) (k : Int) (ao : Option Addr) (c : Nat) (d : List UInt8) :
    Calls Tryd.prog 23 #[.int .i64 k, .slice ao d.length c] w fun e w' => e = .returned (.tuple #[.agg #[.int .i64 (if (fitB d).1 = 0 then k else 0), (if (fitB d).1 = 0 then .slice ao d.length c else .slice none 0 0)], .int .i64 (fitB d).1]) ∧ w.grownBy w' none := by
  by_cases h : 16384 < d.length
  · have e1 : fitB d = (3, []) := by simp [fitB, h]
    rw [e1]
    go_enter Tryd.func23, Tryd.ntmps23
    go_wp2
    exact bodyPost_ret (v := .tuple #[.agg #[.int .i64 0, .slice none 0 0], .int .i64 3]) (by simp [results, Tryd.results23, go_sem]) rfl ⟨rfl, gb_alloc (gb_refl _ _) _⟩
  · have e1 : fitB d = (0, d) := by simp [fitB, h]
    rw [e1]
    go_enter Tryd.func23, Tryd.ntmps23
    go_wp2
    exact bodyPost_ret (v := .tuple #[.agg #[.int .i64 k, .slice ao d.length c], .int .i64 0]) (by simp [results, Tryd.results23, go_sem]) rfl ⟨rfl, gb_alloc (gb_refl _ _) _⟩

theorem bequal_any (w : World) (ao bo : Option Addr) (c d : Nat) (l x : List UInt8) (hb : Bts w ao c l) (hx : Bts w bo d x) :
    Calls Tryd.prog 40 #[.slice ao l.length c, .slice bo x.length d] w fun e w' => e = .returned (.bool (decide (l = x))) ∧ w' = w := by
  have c1 := conv_str hb
  have c2 := conv_str hx
  obtain ⟨A, hA⟩ : ∃ A, A = str l := ⟨_, rfl⟩
  obtain ⟨B, hB⟩ : ∃ A, A = str x := ⟨_, rfl⟩
  obtain ⟨n, hn⟩ : ∃ n, n = l.length := ⟨_, rfl⟩
  obtain ⟨m, hm⟩ : ∃ n, n = x.length := ⟨_, rfl⟩
  rw [← hA, ← hn] at c1
  rw [← hB, ← hm] at c2
  rw [← hn, ← hm]
  have hE : A.toList = l := by rw [hA, str_list]
  have hF : B.toList = x := by rw [hB, str_list]
  clear hA hB hn hm hb hx
  by_cases h : l = x
  · have hT : decide (l = x) = true := decide_eq_true h
    rw [hT]
    subst h
    go_enter Tryd.func40, Tryd.ntmps40
    go_wp2
    go_ret
    exact ⟨rfl, rfl⟩
  · have hT : decide (l = x) = false := decide_eq_false h
    have hT2 : (l == x) = false := by simpa using h
    rw [hT]
    go_enter Tryd.func40, Tryd.ntmps40
    go_wp2
    go_ret
    exact ⟨rfl, rfl⟩

theorem same_any (w : World) (k m : Int) (ao bo : Option Addr) (c d : Nat) (l x : List UInt8) (hb : Bts w ao c l) (hx : Bts w bo d x) :
    Calls Tryd.prog 16 #[.agg #[.int .i64 k, .slice ao l.length c], .agg #[.int .i64 m, .slice bo x.length d]] w fun e w' => e = .returned (.bool (decide (k = m ∧ l = x))) ∧ w.grownBy w' none := by
  obtain ⟨n1, hn1⟩ : ∃ n, n = l.length := ⟨_, rfl⟩
  obtain ⟨n2, hn2⟩ : ∃ n, n = x.length := ⟨_, rfl⟩
  have g0 : w.grownBy ((w.alloc (.cells #[.int .i64 k, .slice ao n1 c] 34)).alloc (.cells #[.int .i64 m, .slice bo n2 d] 34)) none := gb_alloc (gb_alloc (gb_refl _ _) _) _
  have ce := bequal_any _ ao bo c d l x (hb.kept g0 (fun _ e => by cases e)) (hx.kept g0 (fun _ e => by cases e))
  rw [← hn1, ← hn2] at ce ⊢
  clear hn1 hn2 hb hx
  by_cases h : k = m
  · subst h
    have hd : decide (k = k ∧ l = x) = decide (l = x) := by simp
    rw [hd]
    obtain ⟨B, hB⟩ : ∃ B, B = decide (l = x) := ⟨_, rfl⟩
    rw [← hB] at ce ⊢
    clear hB hd
    go_enter Tryd.func16, Tryd.ntmps16
    go_wp2_with (go_at_call 40; refine ce.mono ?_; rintro e w1 ⟨rfl, hw1⟩; subst w1; clear ce)
    go_ret
    exact ⟨rfl, g0⟩
  · have hd : decide (k = m ∧ l = x) = false := by simp [h]
    have h2 : (k == m) = false := by simpa using h
    rw [hd]
    clear ce hd
    go_enter Tryd.func16, Tryd.ntmps16
    go_wp2
    go_ret
    exact ⟨rfl, g0⟩

end Go.Proofs.YtcemdlcimhoeeaaDoor
