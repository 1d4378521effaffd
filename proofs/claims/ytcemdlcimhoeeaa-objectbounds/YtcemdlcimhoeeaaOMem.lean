/- Small facts of memory for objects: names of objects as slices of bytes, rows that a call has laid, blocks that it has made. No condition but those that each lemma names. -/
import Derived.Test.YtcemdlcimhoeeaaOCell
import Derived.Test.YtcemdlcimhoeeaaOData
namespace Go.Proofs.Ytcemdlcimhoeeaa
open Go.RowKit

theorem range_bts {w : World} {b o : Nat} {l : List UInt8} (h : w.rangeAt b o (l.map bv)) (hm : l.length ≤ maxLen) : Bts w (some ⟨b, o, none⟩) l.length l := by
  refine ⟨(fun e => by cases e), Nat.le_refl _, hm, (fun ad e _ => by cases e; rfl), (fun ad e i hi => ?_)⟩
  cases e
  exact h i _ (by simp [bv, hi])
theorem slice_wid (b o : Nat) (W : World) : (Instr.sliceAt 24 (.pointer (some ⟨b, o, none⟩)) none none none).run Try.prog W = .ok (.slice (some ⟨b, o, none⟩) 32 32) W := by
  have ea : Try.prog.arrayLen 24 = 32 := by simp [Program.arrayLen, Try.underlying24]
  have ee : Try.prog.elem 24 = 5 := by simp [Program.elem, Try.underlying24]
  rw [run_sliceAt_array_all W 24 ⟨b, o, none⟩ (by rw [ea, ee]; exact Try.underlying24), ea, ee, size_byte]
  simp only [Result.andThen_ok, slicedAt, Nat.zero_mul, Nat.sub_zero]
  rw [if_neg (by omega), Addr.add_mid]
  rfl
theorem own_low {w : World} {b1 b2 k n : Nat} {t : TypeId} {v : Value} {xs : List Value} (h : w.ownsRow b1 t k v n xs) (hb : b2 ≤ b1) : w.ownsRow b2 t k v n xs := by
  refine ⟨h.1, ?_⟩
  rcases h.2 with h1 | ⟨g, cap, cur, h1, h2, h3⟩
  · exact Or.inl h1
  · exact Or.inr ⟨g, cap, cur, h1, Nat.le_trans hb h2, h3⟩
/-- A row of bytes of the call's own, to be read. -/
theorem own_read {w : World} {base n : Nat} {v : Value} {l : List UInt8} (h : w.ownsRow base 5 1 v n (l.map bv)) : n = l.length ∧ ∃ ao c, v = .slice ao n c ∧ Bts w ao c l ∧ ∀ ad, ao = some ad → base ≤ ad.block ∧ Typ w ad.block := by
  have hn : n = l.length := by have := h.1; simpa using this.symm
  refine ⟨hn, ?_⟩
  rcases h.2 with ⟨rfl, h2⟩ | ⟨g, cap, cur, rfl, hg, hh, _⟩
  · have : l = [] := List.eq_nil_of_length_eq_zero (by omega)
    subst this
    exact ⟨none, 0, by rw [hn]; rfl, Bts.nil _, fun _ e => by cases e⟩
  · obtain ⟨_, h3, h4⟩ := Bts.own h
    exact ⟨_, _, rfl, h4, fun ad e => by cases e; exact ⟨h3, ⟨cur, _, hh⟩⟩⟩
/-- A row of other than bytes is no row of bytes. -/
theorem own_typ {w : World} {base n k x : Nat} {t : TypeId} {v : Value} {xs : List Value} (h : w.ownsRow base t k v n xs) (e : v.ownBlock = some x) (ht : t ≠ 5) : ¬ Typ w x := by
  rcases h.2 with ⟨rfl, _⟩ | ⟨g, cap, cur, rfl, _, hh, _⟩
  · cases e
  · have : g = x := by simpa [Value.ownBlock] using e
    subst this
    rintro ⟨cur2, m2, h2⟩
    rw [hh] at h2
    injection h2 with h3
    injection h3 with _ h4
    exact ht h4
/-- A block that is made, and written whole. -/
theorem row_new (w : World) (t : TypeId) (Z : Array Value) (cs : List Value) : ∃ W, W = (w.alloc (.cells Z t)).setRow w.heap.size cs.toArray ∧ Blk W w.heap.size t cs ∧ w.grownBy W none :=
  ⟨_, rfl, by
    have h : Blk (w.alloc (.cells Z t)) w.heap.size t Z.toList := by simpa using Blk.new w t Z.toList
    exact h.row cs, gb_row (gb_alloc (gb_refl _ _) _) _ (Or.inl (Nat.le_refl _))⟩
theorem box_new (w : World) (t : TypeId) (cs : List Value) : ∃ W, W = w.alloc (.cells cs.toArray t) ∧ Blk W w.heap.size t cs ∧ w.grownBy W none :=
  ⟨_, rfl, Blk.new w t cs, gb_alloc (gb_refl _ _) _⟩
/-- An id's bytes in an entry's block, in a commit's, in a note's. -/
theorem en_id {w : World} {b o : Nat} {e : EntL} (h : w.rangeAt b o (enC e)) : w.rangeAt b (o + 2) (e.id.map bv) := by
  intro j v hv
  rw [show o + 2 + j = o + (j + 2) by omega]
  exact h (j + 2) v (by simpa [enC] using hv)
theorem ch_tree {w : World} {b o : Nat} {c : ChgL} {po : Option Addr} {pc : Nat} (h : w.rangeAt b o (chC c po pc)) : w.rangeAt b o (c.tree.map bv) := by
  intro j v hv
  refine h j v ?_
  unfold chC
  rw [List.getElem?_append_left (List.getElem?_eq_some_iff.1 hv).1]
  exact hv
theorem mk_target {w : World} {b o : Nat} {m : MrkL} (h : w.rangeAt b o (mkC m)) : w.rangeAt b o (m.target.map bv) := by
  intro j v hv
  refine h j v ?_
  unfold mkC
  rw [List.getElem?_append_left (List.getElem?_eq_some_iff.1 hv).1]
  exact hv
theorem blk_all {w : World} {b : Nat} {t : TypeId} {vs : List Value} (h : Blk w b t vs) : w.rangeAt b 0 vs := by
  have : Blk w b t ([] ++ (vs ++ [])) := by simpa using h
  exact this.range

theorem zero_ent : ∃ Z : Array Value, Z.size = 34 ∧ ∀ w, (zeroValue 32).run Try.prog w = .ok (.agg Z) w := ⟨_, rfl, fun w => (by kernel_rfl : (zeroValue 32).run Try.prog w = .ok (.agg (enC ⟨[], false, List.replicate 32 0⟩).toArray) w)⟩
theorem zero_chg : ∃ Z : Array Value, Z.size = 36 ∧ ∀ w, (zeroValue 28).run Try.prog w = .ok (.agg Z) w := ⟨_, rfl, fun w => (by kernel_rfl : (zeroValue 28).run Try.prog w = .ok (.agg (chC ⟨List.replicate 32 0, [], 0, [], []⟩ none 0).toArray) w)⟩
theorem zero_id : ∃ Z : Array Value, Z.size = 32 ∧ ∀ w, (zeroValue 24).run Try.prog w = .ok (.agg Z) w := ⟨_, rfl, fun w => (by kernel_rfl : (zeroValue 24).run Try.prog w = .ok (.agg ((List.replicate 32 (0 : UInt8)).map bv).toArray) w)⟩

end Go.Proofs.Ytcemdlcimhoeeaa
