/- A list of texts in memory, bytes in new memory, and an append of bytes, in words of our own. No condition but those that each lemma names. -/
import Derived.Test.YtfaipdifkmjdeaaMem
import Derived.Laws.AppendOwnNone
namespace Go.Proofs.Ytfaipdifkmjdeaa
open Go.RowKit

theorem info_byte : (Try.prog.info? 5).map (fun i => (i.zero, i.size, i.bytes)) = some (some (.int .u8 0), 1, 1) := by kernel_rfl

theorem info_slice : (Try.prog.info? 33).map (fun i => (i.zero, i.size, i.bytes)) = some (some (.slice none 0 0), 1, 24) := by kernel_rfl

/-- A value that a call hands back: bytes in memory of its own. -/
def NewB (w w' : World) (v : Value) (x : List UInt8) : Prop := ∃ ao c, v = .slice ao x.length c ∧ Bts w' ao c x ∧ ∀ ad, ao = some ad → w.heap.size ≤ ad.block ∧ Typ w' ad.block

theorem NewB.nil (w w' : World) : NewB w w' (.slice none 0 0) [] := ⟨none, 0, rfl, Bts.nil _, fun _ e => by cases e⟩

theorem NewB.own {w w' : World} {v : Value} {x : List UInt8} (h : w'.ownsRow w.heap.size 5 1 v x.length (x.map bv)) : NewB w w' v x := by
  rcases h.2 with ⟨rfl, h2⟩ | ⟨g, cap, cur, rfl, hg, hh, _⟩
  · have := List.eq_nil_of_length_eq_zero h2
    subst this
    exact NewB.nil _ _
  · obtain ⟨_, h3, h4⟩ := Bts.own h
    exact ⟨_, _, rfl, h4, fun ad e => by cases e; exact ⟨h3, ⟨cur, _, hh⟩⟩⟩

/-- The slice value '.slice ao L.length c' holds texts, each a slice of bytes. -/
structure Lst (w : World) (ao : Option Addr) (c : Nat) (L : List (List UInt8)) : Prop where
  zip : ao = none → L.length = 0 ∧ c = 0
  fits : L.length ≤ c
  most : c ≤ maxLen
  shape : ∀ ad, ao = some ad → 0 < L.length → ad.spot = none
  cell : ∀ ad, ao = some ad → ∀ i (h : i < L.length), ∃ ai ci, w.cell? ⟨ad.block, ad.off + i, none⟩ = some (.slice ai (L[i]).length ci) ∧ Bts w ai ci L[i]

theorem Lst.below {w a : World} {ao : Option Addr} {c : Nat} {L : List (List UInt8)} (h : Lst w ao c L) (g : Below w.heap.size w a) : Lst a ao c L :=
  ⟨h.zip, h.fits, h.most, h.shape, fun ad e i hi => by
    obtain ⟨ai, ci, h1, h2⟩ := h.cell ad e i hi
    exact ⟨ai, ci, (below_gb g).cell h1 (by simp), h2.below g⟩⟩

theorem Lst.take {w : World} {ao : Option Addr} {c : Nat} {L : List (List UInt8)} (h : Lst w ao c L) (n : Nat) (hn : n ≤ L.length) : Lst w ao c (L.take n) := by
  refine ⟨(fun e => ?_), ?_, h.most, (fun ad e hp => h.shape ad e (by simp at hp; omega)), (fun ad e i hi => ?_)⟩
  · have := h.zip e
    exact ⟨by simp; omega, this.2⟩
  · have := h.fits; simp; omega
  · have hi' : i < L.length := by simp at hi; omega
    obtain ⟨ai, ci, h1, h2⟩ := h.cell ad e i hi'
    exact ⟨ai, ci, by simpa using h1, by simpa using h2⟩

theorem takeL_snoc {L : List (List UInt8)} {k : Nat} (h : k < L.length) : L.take (k + 1) = L.take k ++ [L[k]] := by
  rw [List.take_succ_eq_append_getElem h]

theorem size_slice (w : World) : (Go.sizeOf 33).run Try.prog w = .ok 1 w := by kernel_rfl

/-- 'append(own, x...)', own a row of bytes of the call's own, x bytes wherever they lie, or none. -/
theorem wpList_append_bts {w : World} {ops : Array Oper} {rest : List Oper} {o : Oper} {a : Act} {Q : Exit → Act → World → Prop} (hgd : o.guard = none) (s x : Operand)
    (ho : o.op = .call { callee := .builtin .append, args := #[s, x], argTypes := #[33, 33] })
    (base : Nat) (v : Value) (n : Nat) (xs : List Value) (hs : a.eval s = v) (hown : w.ownsRow base 5 1 v n xs)
    (ao : Option Addr) (c : Nat) (l : List UInt8) (hb : Bts w ao c l) (hx : a.eval x = .slice ao l.length c) (hn : n + l.length ≤ 140737488355328) (hbase : base ≤ w.heap.size)
    (h : ∀ v' w', w'.ownsRow base 5 1 v' (n + l.length) (xs ++ l.map bv) → w.grownBy w' v.ownBlock → wpList Try.prog ops Q rest (a.put o.dst v') w') : wpList Try.prog ops Q (o :: rest) a w := by
  obtain ⟨i0, hi, hz0, hz1, hz2⟩ := info_parts info_byte
  cases ao with
  | none =>
    have hz := hb.zip rfl
    have hx0 : l = [] := List.eq_nil_of_length_eq_zero hz.1
    have hc0 := hz.2
    subst hx0 hc0
    exact wpList_append_own_none hgd s x 33 ho base 5 i0 1 Try.underlying33 hi v n xs hs hown hx (h v w (by simpa using hown) (gb_refl _ _))
  | some ad =>
    exact wpList_append_own w hgd s x 33 ho base 5 i0 (.int .u8 0) 1 1 Try.underlying33 hi hz0 hz1 hz2 rfl (by decide) v n xs hs hown ad l.length c (l.map bv) hx (by simp) (hb.news ad rfl) (bv_one l) (by unfold maxLen; omega) (by omega) hbase (fun v' w' q1 q2 _ => h v' w' q1 q2)

end Go.Proofs.Ytfaipdifkmjdeaa
