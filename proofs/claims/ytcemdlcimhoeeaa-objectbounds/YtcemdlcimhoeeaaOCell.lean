/- Entries, commits and notes in memory, in words of our own; and that such words outlast what a call adds to memory. No condition but those that each lemma names. -/
import Derived.Test.YtcemdlcimhoeeaaOMath
import Derived.Deep.MidRow
namespace Go.Proofs.Ytcemdlcimhoeeaa
open Go.RowKit

/-- The cells of an entry. -/
def enC (e : EntL) : List Value := .string (str e.name) :: .bool e.dir :: e.id.map bv
/-- The cells of a commit whose parents lie at po. -/
def chC (c : ChgL) (po : Option Addr) (pc : Nat) : List Value := c.tree.map bv ++ [.slice po c.pars.length pc, .int .u64 (c.time : Int), .string (str c.author), .string (str c.text)]
/-- The cells of a note. -/
def mkC (m : MrkL) : List Value := m.target.map bv ++ [.string (str m.name), .string (str m.text)]

theorem enC_len (e : EntL) (h : e.id.length = 32) : (enC e).length = 34 := by simp [enC, h]
theorem chC_len (c : ChgL) (po : Option Addr) (pc : Nat) (h : c.tree.length = 32) : (chC c po pc).length = 36 := by simp [chC, h]
theorem mkC_len (m : MrkL) (h : m.target.length = 32) : (mkC m).length = 34 := by simp [mkC, h]
theorem enC_one (e : EntL) : ∀ u ∈ enC e, u.oneCell' = true := by
  intro u hu
  simp only [enC, List.mem_cons] at hu
  rcases hu with rfl | rfl | hu
  · rfl
  · rfl
  · exact bv_one _ u hu
theorem chC_one (c : ChgL) (po : Option Addr) (pc : Nat) : ∀ u ∈ chC c po pc, u.oneCell' = true := by
  intro u hu
  simp only [chC, List.mem_append, List.mem_cons, List.not_mem_nil, or_false] at hu
  rcases hu with hu | rfl | rfl | rfl | rfl
  · exact bv_one _ u hu
  all_goals rfl
theorem mkC_one (m : MrkL) : ∀ u ∈ mkC m, u.oneCell' = true := by
  intro u hu
  simp only [mkC, List.mem_append, List.mem_cons, List.not_mem_nil, or_false] at hu
  rcases hu with hu | rfl | rfl
  · exact bv_one _ u hu
  all_goals rfl
theorem chC_at (c : ChgL) (po : Option Addr) (pc : Nat) (h : c.tree.length = 32) : (chC c po pc)[32]? = some (.slice po c.pars.length pc) ∧ (chC c po pc)[33]? = some (.int .u64 (c.time : Int)) ∧ (chC c po pc)[34]? = some (.string (str c.author)) ∧ (chC c po pc)[35]? = some (.string (str c.text)) := by
  have hl : (c.tree.map bv).length = 32 := by simp [h]
  unfold chC
  refine ⟨?_, ?_, ?_, ?_⟩ <;> rw [List.getElem?_append_right (by omega), hl] <;> rfl
theorem mkC_at (m : MrkL) (h : m.target.length = 32) : (mkC m)[32]? = some (.string (str m.name)) ∧ (mkC m)[33]? = some (.string (str m.text)) := by
  have hl : (m.target.map bv).length = 32 := by simp [h]
  unfold mkC
  refine ⟨?_, ?_⟩ <;> rw [List.getElem?_append_right (by omega), hl] <;> rfl

theorem info_ent : (Try.prog.info? 32).map (·.size) = some 34 := by kernel_rfl
theorem info_obj : (Try.prog.info? 35).map (·.size) = some 2 := by kernel_rfl
theorem info_chg : (Try.prog.info? 28).map (·.size) = some 36 := by kernel_rfl
theorem info_mrk : (Try.prog.info? 30).map (·.size) = some 34 := by kernel_rfl
theorem info_id : (Try.prog.info? 24).map (·.size) = some 32 := by kernel_rfl

/-- The slice value '.slice ao es.length c' holds the entries es. -/
structure Ens (w : World) (ao : Option Addr) (c : Nat) (es : List EntL) : Prop where
  zip : ao = none → es.length = 0 ∧ c = 0
  fits : es.length ≤ c
  most : c ≤ maxLen
  shape : ∀ ad, ao = some ad → 0 < es.length → ad.spot = none
  row : ∀ ad, ao = some ad → ∀ i (h : i < es.length), w.rangeAt ad.block (ad.off + i * 34) (enC es[i])
  ids : ∀ e ∈ es, e.id.length = 32

/-- The slice value '.slice ao ps.length c' holds the names ps of objects. -/
structure Ids (w : World) (ao : Option Addr) (c : Nat) (ps : List (List UInt8)) : Prop where
  zip : ao = none → ps.length = 0 ∧ c = 0
  fits : ps.length ≤ c
  most : c ≤ maxLen
  shape : ∀ ad, ao = some ad → 0 < ps.length → ad.spot = none
  row : ∀ ad, ao = some ad → ∀ i (h : i < ps.length), w.rangeAt ad.block (ad.off + i * 32) (ps[i].map bv)
  ids : ∀ x ∈ ps, x.length = 32

theorem Ens.nil (w : World) : Ens w none 0 [] := ⟨fun _ => ⟨rfl, rfl⟩, Nat.le_refl _, Nat.zero_le _, (fun _ e => by cases e), (fun _ e => by cases e), (fun _ h => by simp at h)⟩
theorem Ids.nil (w : World) : Ids w none 0 [] := ⟨fun _ => ⟨rfl, rfl⟩, Nat.le_refl _, Nat.zero_le _, (fun _ e => by cases e), (fun _ e => by cases e), (fun _ h => by simp at h)⟩
theorem Ens.kept {w a : World} {ao : Option Addr} {c : Nat} {es : List EntL} {r : Option Nat} (h : Ens w ao c es) (g : w.grownBy a r) (hr : ∀ x, r = some x → Off ao x) : Ens a ao c es :=
  ⟨h.zip, h.fits, h.most, h.shape, fun ad e i hi => range_kept (h.row ad e i hi) g (fun e2 => hr _ e2.symm ad e rfl), h.ids⟩
theorem Ids.kept {w a : World} {ao : Option Addr} {c : Nat} {ps : List (List UInt8)} {r : Option Nat} (h : Ids w ao c ps) (g : w.grownBy a r) (hr : ∀ x, r = some x → Off ao x) : Ids a ao c ps :=
  ⟨h.zip, h.fits, h.most, h.shape, fun ad e i hi => range_kept (h.row ad e i hi) g (fun e2 => hr _ e2.symm ad e rfl), h.ids⟩
theorem Ens.none {w a : World} {ao : Option Addr} {c : Nat} {es : List EntL} (h : Ens w ao c es) (g : w.grownBy a Option.none) : Ens a ao c es := h.kept g (fun _ e => by cases e)
theorem Ids.none {w a : World} {ao : Option Addr} {c : Nat} {ps : List (List UInt8)} (h : Ids w ao c ps) (g : w.grownBy a Option.none) : Ids a ao c ps := h.kept g (fun _ e => by cases e)

theorem Ens.at {w : World} {ao : Option Addr} {c : Nat} {es : List EntL} (h : Ens w ao c es) (i : Nat) (hi : i < es.length) : ∃ b o, ao = some ⟨b, o, Option.none⟩ ∧ ∀ k (hk : k < es.length), w.rangeAt b (o + k * 34) (enC es[k]) := by
  obtain ⟨ad, had⟩ : ∃ ad, ao = some ad := by
    cases ao with
    | none => have := (h.zip rfl).1; omega
    | some ad => exact ⟨ad, rfl⟩
  have hs := h.shape ad had (by omega)
  have h0 := h.row ad had
  obtain ⟨b, o, s⟩ := ad
  simp only at hs h0
  subst hs
  exact ⟨b, o, had, h0⟩
theorem Ids.at {w : World} {ao : Option Addr} {c : Nat} {ps : List (List UInt8)} (h : Ids w ao c ps) (i : Nat) (hi : i < ps.length) : ∃ b o, ao = some ⟨b, o, Option.none⟩ ∧ ∀ k (hk : k < ps.length), w.rangeAt b (o + k * 32) (ps[k].map bv) := by
  obtain ⟨ad, had⟩ : ∃ ad, ao = some ad := by
    cases ao with
    | none => have := (h.zip rfl).1; omega
    | some ad => exact ⟨ad, rfl⟩
  have hs := h.shape ad had (by omega)
  have h0 := h.row ad had
  obtain ⟨b, o, s⟩ := ad
  simp only at hs h0
  subst hs
  exact ⟨b, o, had, h0⟩
theorem Ids.take {w : World} {ao : Option Addr} {c : Nat} {ps : List (List UInt8)} (h : Ids w ao c ps) (n : Nat) (hn : n ≤ ps.length) : Ids w ao c (ps.take n) := by
  refine ⟨(fun e => ?_), ?_, h.most, (fun ad e hp => h.shape ad e (by simp at hp; omega)), (fun ad e i hi => ?_), (fun x hx => h.ids x (List.mem_of_mem_take hx))⟩
  · have := h.zip e
    exact ⟨by simp; omega, this.2⟩
  · have := h.fits; simp; omega
  · have hi' : i < ps.length := by simp at hi; omega
    have := h.row ad e i hi'
    simpa using this

theorem flat_at {α : Type} (f : α → List Value) (k : Nat) (L : List α) (h : ∀ x ∈ L, (f x).length = k) (i j : Nat) (hi : i < L.length) (hj : j < k) : (L.flatMap f)[i * k + j]? = (f L[i])[j]? := by
  induction L generalizing i with
  | nil => simp at hi
  | cons x L ih =>
    have hx := h x (by simp)
    rw [List.flatMap_cons]
    cases i with
    | zero => rw [Nat.zero_mul, Nat.zero_add, List.getElem?_append_left (by omega)]; rfl
    | succ i =>
      rw [List.getElem?_append_right (by rw [hx, Nat.succ_mul]; omega), hx, show (i + 1) * k + j - k = i * k + j by rw [Nat.succ_mul]; omega]
      exact ih (fun y hy => h y (List.mem_cons_of_mem _ hy)) i (by simpa using hi)
theorem flat_len2 {α : Type} (f : α → List Value) (k : Nat) (L : List α) (h : ∀ x ∈ L, (f x).length = k) : (L.flatMap f).length = L.length * k := by
  induction L with
  | nil => simp
  | cons x L ih =>
    have hx := h x (by simp)
    rw [List.flatMap_cons, List.length_append, hx, ih (fun y hy => h y (List.mem_cons_of_mem _ hy)), List.length_cons, Nat.succ_mul]
    omega

/-- What the call itself has laid. -/
theorem own_rows {α : Type} (f : α → List Value) (k : Nat) {w : World} {base : Nat} {t : TypeId} {v : Value} {L : List α} (h : w.ownsRow base t k v L.length (L.flatMap f)) (hf : ∀ x ∈ L, (f x).length = k) :
    ∃ ao c, v = .slice ao L.length c ∧ (ao = none → L.length = 0 ∧ c = 0) ∧ L.length ≤ c ∧ c ≤ maxLen ∧ (∀ ad, ao = some ad → ad.spot = none ∧ base ≤ ad.block) ∧ ∀ ad, ao = some ad → ∀ i (h : i < L.length), w.rangeAt ad.block (ad.off + i * k) (f L[i]) := by
  rcases h.2 with ⟨rfl, h2⟩ | ⟨g, cap, cur, rfl, hg, hh, h3, h4, h5, h6⟩
  · have := List.eq_nil_of_length_eq_zero h2
    subst this
    exact ⟨none, 0, rfl, fun _ => ⟨rfl, rfl⟩, Nat.le_refl _, Nat.zero_le _, (fun _ e => by cases e), fun _ e => by cases e⟩
  · refine ⟨_, _, rfl, (fun e => by cases e), h3, h4, (fun ad e => by cases e; exact ⟨rfl, hg⟩), fun ad e i hi j v hv => ?_⟩
    cases e
    have hj : j < k := by rw [← hf L[i] (List.getElem_mem _)]; exact (List.getElem?_eq_some_iff.1 hv).1
    have h7 : (cur.toList.take (L.length * k))[i * k + j]? = (L.flatMap f)[i * k + j]? := by rw [h6]
    have h8 : (i + 1) * k ≤ L.length * k := Nat.mul_le_mul_right k hi
    rw [Nat.succ_mul] at h8
    rw [List.getElem?_take_of_lt (by omega), flat_at f k L hf i j hi hj, hv] at h7
    simp only [World.cell?, hh, Nat.zero_add]
    simpa using h7

theorem Ens.own {w : World} {base : Nat} {v : Value} {es : List EntL} (h : w.ownsRow base 32 34 v es.length (es.flatMap enC)) (hi : ∀ e ∈ es, e.id.length = 32) : ∃ ao c, v = .slice ao es.length c ∧ Ens w ao c es := by
  obtain ⟨ao, c, h1, h2, h3, h4, h5, h6⟩ := own_rows enC 34 h (fun x hx => enC_len x (hi x hx))
  exact ⟨ao, c, h1, h2, h3, h4, fun ad e _ => (h5 ad e).1, h6, hi⟩
theorem Ids.own {w : World} {base : Nat} {v : Value} {ps : List (List UInt8)} (h : w.ownsRow base 24 32 v ps.length (ps.flatMap (·.map bv))) (hi : ∀ x ∈ ps, x.length = 32) : ∃ ao c, v = .slice ao ps.length c ∧ Ids w ao c ps := by
  obtain ⟨ao, c, h1, h2, h3, h4, h5, h6⟩ := own_rows (fun x : List UInt8 => x.map bv) 32 h (fun x hx => by simp [hi x hx])
  exact ⟨ao, c, h1, h2, h3, h4, fun ad e _ => (h5 ad e).1, h6, hi⟩

end Go.Proofs.Ytcemdlcimhoeeaa
