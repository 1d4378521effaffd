/- Rows of so many cells each, in a slice: read, cut, and appended to a row of the call's own. No condition but those that each lemma names. -/
import Derived.Test.YtfaipdifkmjdeaaMBox
import Derived.Test.YtfaipdifkmjdeaaMLst
import Derived.Laws.AppendOwnNone
import Derived.Deep.AppendLies
import Derived.Deep.RegionHeld3
import Derived.Deep.DrawnRows
namespace Go.Proofs.Ytfaipdifkmjdeaa
open Go.RowKit

/-- The slice value '.slice ao L.length c' holds rows of K cells. -/
structure Rws {α : Type} (w : World) (K : Nat) (f : α → List Value) (ao : Option Addr) (c : Nat) (L : List α) : Prop where
  zip : ao = none → L.length = 0 ∧ c = 0
  fits : L.length ≤ c
  most : c ≤ maxLen
  spot : ∀ ad, ao = some ad → ad.spot = none
  row : ∀ ad, ao = some ad → ∀ i (h : i < L.length), w.rangeAt ad.block (ad.off + i * K) (f L[i])

theorem Rws.kept {α : Type} {w a : World} {K : Nat} {f : α → List Value} {ao : Option Addr} {c : Nat} {L : List α} (h : Rws w K f ao c L) (g : w.grownBy a none) : Rws a K f ao c L :=
  ⟨h.zip, h.fits, h.most, h.spot, fun ad e i hi => range_kept (h.row ad e i hi) g (by simp)⟩
theorem Rws.own {α : Type} (f : α → List Value) {w : World} {K base : Nat} {t : TypeId} {v : Value} {L : List α} (h : w.ownsRow base t K v L.length (L.flatMap f)) (hf : ∀ x ∈ L, (f x).length = K) : ∃ ao c, v = .slice ao L.length c ∧ Rws w K f ao c L ∧ ∀ ad, ao = some ad → base ≤ ad.block := by
  obtain ⟨ao, c, h1, h2, h3, h4, h5, h6⟩ := own_rows f K h hf
  exact ⟨ao, c, h1, ⟨h2, h3, h4, fun ad e => (h5 ad e).1, h6⟩, fun ad e => (h5 ad e).2⟩
theorem Rws.at {α : Type} {w : World} {K : Nat} {f : α → List Value} {ao : Option Addr} {c : Nat} {L : List α} (h : Rws w K f ao c L) (i : Nat) (hi : i < L.length) : ∃ b o, ao = some ⟨b, o, none⟩ ∧ w.rangeAt b (o + i * K) (f L[i]) := by
  cases ao with
  | none => have := (h.zip rfl).1; omega
  | some ad =>
    have hs := h.spot ad rfl
    have hc := h.row ad rfl i hi
    obtain ⟨b, o, s⟩ := ad
    simp only at hs hc
    subst hs
    exact ⟨b, o, rfl, hc⟩
theorem Rws.take {α : Type} {w : World} {K : Nat} {f : α → List Value} {ao : Option Addr} {c : Nat} {L : List α} (h : Rws w K f ao c L) (n : Nat) : Rws w K f ao c (L.take n) := by
  refine ⟨(fun e => ?_), ?_, h.most, h.spot, (fun ad e i hi => ?_)⟩
  · have := h.zip e
    exact ⟨by rw [List.length_take]; omega, this.2⟩
  · have := h.fits; rw [List.length_take]; omega
  · have hi' : i < L.length := by simp at hi; omega
    have := h.row ad e i hi'
    simpa using this
def cutK (ao : Option Addr) (c n K : Nat) : Option Addr := if c = n then ao else ao.map (·.add (n * K))
theorem Rws.drop {α : Type} {w : World} {K : Nat} {f : α → List Value} {ao : Option Addr} {c : Nat} {L : List α} (h : Rws w K f ao c L) (n : Nat) (hn : n ≤ L.length) : Rws w K f (cutK ao c n K) (c - n) (L.drop n) := by
  have hf := h.fits
  have hm := h.most
  unfold cutK
  split
  · rename_i hc
    have hl : L.drop n = [] := List.drop_of_length_le (by omega)
    rw [hl, hc]
    exact ⟨fun _ => ⟨rfl, by omega⟩, Nat.zero_le _, by omega, h.spot, fun ad e i hi => by simp at hi⟩
  · cases ao with
    | none => have := h.zip rfl; omega
    | some ad =>
      have hs := h.spot ad rfl
      have hr := h.row ad rfl
      obtain ⟨b, o, s⟩ := ad
      simp only at hs hr
      subst hs
      rw [Option.map_some, Addr.add_lit]
      refine ⟨(fun e => by cases e), by simp; omega, by omega, (fun ad e => by cases e; rfl), fun ad e i hi => ?_⟩
      cases e
      have hi' : n + i < L.length := by simp at hi; omega
      have := hr (n + i) hi'
      rw [List.getElem_drop]
      rw [Nat.add_mul, ← Nat.add_assoc] at this
      exact this

theorem slice_toK {P : Program} (W : World) (t e : TypeId) (K : Nat) (ht : P.underlying t = some (.slice e)) (hz : ∀ w, (Go.sizeOf e).run P w = .ok K w) (ao : Option Addr) (n c k : Nat) (hk : k ≤ c) (hsp : ∀ ad, ao = some ad → ad.spot = none) :
    (Instr.slice t (.slice ao n c) none (some (.int .i64 (k : Int))) none).run P W = .ok (.slice ao k c) W := by
  have ht' : P.underlying t = some (.slice (P.elem t)) := by simp [Program.elem, ht]
  have he : P.elem t = e := by simp [Program.elem, ht]
  rw [run_slice_h W t _ _ _ ht' .i64 _ (by omega) (by omega), he, hz]
  cases ao with
  | none => simp [Result.andThen, sliced]
  | some ad =>
    have := hsp ad rfl
    obtain ⟨b, o, s⟩ := ad
    simp only at this
    subst this
    simp [Result.andThen, sliced, Addr.add]
theorem slice_fromK {P : Program} (W : World) (t e : TypeId) (K : Nat) (ht : P.underlying t = some (.slice e)) (hz : ∀ w, (Go.sizeOf e).run P w = .ok K w) (ao : Option Addr) (n c k : Nat) (hk : k ≤ n) :
    (Instr.slice t (.slice ao n c) (some (.int .i64 (k : Int))) none none).run P W = .ok (.slice (cutK ao c k K) (n - k) (c - k)) W := by
  have ht' : P.underlying t = some (.slice (P.elem t)) := by simp [Program.elem, ht]
  have he : P.elem t = e := by simp [Program.elem, ht]
  rw [run_slice_l W t _ _ _ ht' .i64 _ (by omega) (by omega), he, hz]
  simp [Result.andThen, sliced, cutK]

theorem flat_oneCell {α : Type} (f : α → List Value) (hf : ∀ x, ∀ u ∈ f x, u.oneCell' = true) (L : List α) : ∀ u ∈ L.flatMap f, u.oneCell' = true := by
  intro u hu
  obtain ⟨x, _, h⟩ := List.mem_flatMap.1 hu
  exact hf x u h

/-- 'append(own, rows...)'. -/
theorem wp_append_rws {α : Type} {w : World} {o : Oper} {a : Act} {K9 : Act → World → Prop} {Q : Exit → Act → World → Prop} (s x : Operand) (t e : TypeId)
    (ho : o.op = .call { callee := .builtin .append, args := #[s, x], argTypes := #[t, t] })
    (i0 : TypeInfo) (z : Value) (K bytes : Nat) (ht : Try.prog.underlying t = some (.slice e)) (hi : Try.prog.info? e = some i0) (hz : i0.zero = some z) (hz1 : i0.size = K) (hz2 : i0.bytes = bytes) (hzs : z.cells.size = K) (hK : 0 < K)
    (f : α → List Value) (hf1 : ∀ x, ∀ u ∈ f x, u.oneCell' = true)
    (base : Nat) (v : Value) (L M : List α) (hfM : ∀ x ∈ M, (f x).length = K) (hs : a.eval s = v) (hown : w.ownsRow base e K v L.length (L.flatMap f)) (xo : Option Addr) (m c : Nat) (hx : a.eval x = .slice xo m c) (hm : m = M.length) (hM : Rws w K f xo c M)
    (hn : (L.length + M.length) * bytes ≤ 140737488355328) (hn2 : L.length + M.length ≤ 140737488355328) (hbase : base ≤ w.heap.size)
    (h : ∀ v' w', w'.ownsRow base e K v' (L ++ M).length ((L ++ M).flatMap f) → w.grownBy w' v.ownBlock → K9 (a.put o.dst v') w') : o.wp Try.prog a w K9 Q := by
  subst hm
  cases xo with
  | none =>
    obtain ⟨h1, h2⟩ := hM.zip rfl
    have h0 : M = [] := List.eq_nil_of_length_eq_zero h1
    subst h0
    subst h2
    have hrun := run_append_owned_none (P := Try.prog) (w := w) base t o.type e i0 K ht hi v L.length (L.flatMap f) hown
    have hfin := h v w (by simpa using hown) (gb_refl _ _)
    unfold Oper.wp
    simp [execOp, ho, resolve, invoke, builtin, hs, hx, hrun, Result.andThen]
    exact hfin
  | some ad =>
    have hsp := hM.spot ad rfl
    have hr := hM.row ad rfl
    obtain ⟨b, p, sp⟩ := ad
    simp only at hsp hr
    subst hsp
    refine wp_append_own w s x t ho base e i0 z K bytes ht hi hz hz1 hz2 hzs hK v L.length (L.flatMap f) hs hown ⟨b, p, none⟩ M.length c (M.flatMap f) hx (flat_len2 f K M hfM) ?_ (flat_oneCell f hf1 M) (by unfold maxLen; omega) hn hbase (fun v' w' q1 q2 _ => h v' w' (by simpa using q1) q2)
    intro j u hu
    have hjl : j < M.length * K := by
      have := (List.getElem?_eq_some_iff.1 hu).1
      rwa [flat_len2 f K M hfM] at this
    have hq : j / K < M.length := Nat.div_lt_of_lt_mul (by rwa [Nat.mul_comm] at hjl)
    have hmod := Nat.mod_lt j hK
    have hj : j = j / K * K + j % K := by have := Nat.div_add_mod j K; rw [Nat.mul_comm] at this; omega
    rw [hj, flat_at f K M hfM (j / K) (j % K) hq hmod] at hu
    have := hr (j / K) hq (j % K) u hu
    rw [Addr.add_lit, show p + j = p + j / K * K + j % K by omega]
    exact this

theorem sizeOf_of {e : TypeId} {K : Nat} (h : (Try.prog.info? e).map (·.size) = some K) (w : World) : (Go.sizeOf e).run Try.prog w = .ok K w := by
  obtain ⟨i, hi, rfl⟩ := Option.map_eq_some_iff.1 h
  simp [Go.sizeOf, typeInfo, hi, go_sem]

end Go.Proofs.Ytfaipdifkmjdeaa
