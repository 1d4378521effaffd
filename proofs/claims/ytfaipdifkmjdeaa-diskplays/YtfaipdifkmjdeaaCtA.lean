/- Slices of one-cell values, cloned and cut: what slices.Clone and chunk.Cut answer, at whatever element type; in words of our own. -/
import Derived.Test.YtfaipdifkmjdeaaMRwG
import Derived.Test.YtfaipdifkmjdeaaMApp
namespace Go.Proofs.Ytfaipdifkmjdeaa
open Go.RowKit

/-- A value as a row of one cell. -/
def cl1 (v : Value) : List Value := [v]
theorem cl1_flat (L : List Value) : L.flatMap cl1 = L := by induction L <;> simp_all [cl1]

/-- The slice value '.slice ao L.length c' holds these values, one cell each. -/
def Cel (w : World) (ao : Option Addr) (c : Nat) (L : List Value) : Prop := Rws w 1 cl1 ao c L ∧ ∀ v ∈ L, v.oneCell' = true

/-- .. read alone: of a slice that came in. -/
structure Cel0 (w : World) (ao : Option Addr) (c : Nat) (L : List Value) : Prop where
  zip : ao = none → L.length = 0 ∧ c = 0
  news : ∀ ad, ao = some ad → ∀ j u, L[j]? = some u → w.cell? (ad.add j) = some u
  one : ∀ v ∈ L, v.oneCell' = true

theorem Cel.kept {w a : World} {ao : Option Addr} {c : Nat} {L : List Value} (h : Cel w ao c L) (g : w.grownBy a none) : Cel a ao c L := ⟨h.1.kept g, h.2⟩
theorem Cel.at {w : World} {ao : Option Addr} {c : Nat} {L : List Value} (h : Cel w ao c L) (i : Nat) (hi : i < L.length) : ∃ b o, ao = some ⟨b, o, none⟩ ∧ w.cell? ⟨b, o + i, none⟩ = some L[i] := by
  obtain ⟨b, o, e, hr⟩ := h.1.at i hi
  refine ⟨b, o, e, ?_⟩
  have := hr 0 L[i] rfl
  simpa using this
theorem Cel.own {w : World} {base : Nat} {t : TypeId} {v : Value} {L : List Value} (h : w.ownsRow base t 1 v L.length L) (ho : ∀ v ∈ L, v.oneCell' = true) : ∃ ao c, v = .slice ao L.length c ∧ Cel w ao c L ∧ ∀ ad, ao = some ad → base ≤ ad.block := by
  have h2 : w.ownsRow base t 1 v L.length (L.flatMap cl1) := by rw [cl1_flat]; exact h
  obtain ⟨ao, c, h1, h3, h4⟩ := Rws.own cl1 h2 (fun _ _ => rfl)
  exact ⟨ao, c, h1, ⟨h3, ho⟩, h4⟩
theorem Cel.take {w : World} {ao : Option Addr} {c : Nat} {L : List Value} (h : Cel w ao c L) (n : Nat) : Cel w ao c (L.take n) := ⟨h.1.take n, fun v hv => h.2 v (List.mem_of_mem_take hv)⟩
/-- .. without spare room. -/
theorem Cel.shut {w : World} {ao : Option Addr} {c : Nat} {L : List Value} (h : Cel w ao c L) (n : Nat) (h0 : 0 < n) (hn : n ≤ L.length) : Cel w ao n (L.take n) := by
  have hc := h.1.fits
  have hm := h.1.most
  refine ⟨⟨fun e => ?_, by simp; omega, by omega, h.1.spot, fun ad e i hi => ?_⟩, fun v hv => h.2 v (List.mem_of_mem_take hv)⟩
  · have := h.1.zip e; omega
  · have := (h.take n).1.row ad e i hi; exact this
theorem Cel.drop {w : World} {ao : Option Addr} {c : Nat} {L : List Value} (h : Cel w ao c L) (n : Nat) (hn : n ≤ L.length) : Cel w (cutK ao c n 1) (c - n) (L.drop n) := ⟨h.1.drop n hn, fun v hv => h.2 v (List.mem_of_mem_drop hv)⟩
theorem Cel.nil (w : World) : Cel w none 0 [] := ⟨⟨fun _ => ⟨rfl, rfl⟩, Nat.le_refl _, Nat.zero_le _, (fun _ e => by cases e), (fun _ e => by cases e)⟩, fun _ h => by cases h⟩

theorem slice_hmK {P : Program} (W : World) (t e : TypeId) (ht : P.underlying t = some (.slice e)) (hz : ∀ w, (Go.sizeOf e).run P w = .ok 1 w) (ao : Option Addr) (n c k : Nat) (hk : k ≤ c) (hsp : ∀ ad, ao = some ad → ad.spot = none) :
    (Instr.slice t (.slice ao n c) none (some (.int .i64 (k : Int))) (some (.int .i64 (k : Int)))).run P W = .ok (.slice ao k k) W := by
  have ht' : P.underlying t = some (.slice (P.elem t)) := by simp [Program.elem, ht]
  have he : P.elem t = e := by simp [Program.elem, ht]
  rw [run_slice_hm W t _ _ _ ht' .i64 .i64 _ _ (by omega) (by omega) (by omega), he, hz]
  cases ao with
  | none => simp [Result.andThen, sliced]
  | some ad =>
    have := hsp ad rfl
    obtain ⟨b, o, s⟩ := ad
    simp only at this
    subst this
    simp [Result.andThen, sliced, Addr.add]

theorem Cel0.kept {w a : World} {ao : Option Addr} {c : Nat} {L : List Value} (h : Cel0 w ao c L) (g : w.grownBy a none) : Cel0 a ao c L :=
  ⟨h.zip, fun ad e j u hu => g.cell (h.news ad e j u hu) (by simp), h.one⟩
theorem Cel.zero {w : World} {ao : Option Addr} {c : Nat} {L : List Value} (h : Cel w ao c L) : Cel0 w ao c L := by
  refine ⟨h.1.zip, fun ad e j u hu => ?_, h.2⟩
  obtain ⟨hj, rfl⟩ := List.getElem?_eq_some_iff.1 hu
  obtain ⟨b', o', e', hc'⟩ := h.at j hj
  rw [e] at e'
  cases e'
  rw [Addr.add_lit]
  exact hc'

/-- 'append(own, values...)', one cell each. -/
theorem wpList_append_cel {w : World} {ops : Array Oper} {rest : List Oper} {o : Oper} {a : Act} {Q : Exit → Act → World → Prop} (hgd : o.guard = none) (s x : Operand) (t e : TypeId) (z : Value) (bytes : Nat) (ht : Try.prog.underlying t = some (.slice e)) (hi : (Try.prog.info? e).map (fun i => (i.zero, i.size, i.bytes)) = some (some z, 1, bytes)) (hzc : z.cells.size = 1)
    (ho : o.op = .call { callee := .builtin .append, args := #[s, x], argTypes := #[t, t] })
    (base : Nat) (v : Value) (n : Nat) (xs : List Value) (hs : a.eval s = v) (hown : w.ownsRow base e 1 v n xs)
    (ao : Option Addr) (c : Nat) (L : List Value) (hb : Cel0 w ao c L) (m : Nat) (hm : m = L.length) (hx : a.eval x = .slice ao m c) (hn : (n + m) * bytes ≤ 140737488355328) (hn2 : n + m ≤ maxLen) (hbase : base ≤ w.heap.size)
    (h : ∀ v' w', w'.ownsRow base e 1 v' (n + m) (xs ++ L) → w.grownBy w' v.ownBlock → wpList Try.prog ops Q rest (a.put o.dst v') w') : wpList Try.prog ops Q (o :: rest) a w := by
  subst hm
  obtain ⟨i0, hi, hz0, hz1, hz2⟩ := info_parts hi
  cases ao with
  | none =>
    have hz := hb.zip rfl
    have hx0 : L = [] := List.eq_nil_of_length_eq_zero hz.1
    have hc0 := hz.2
    subst hx0 hc0
    exact wpList_append_own_none hgd s x t ho base e i0 1 ht hi v n xs hs hown hx (h v w (by simpa using hown) (gb_refl _ _))
  | some ad =>
    exact wpList_append_own w hgd s x t ho base e i0 z 1 bytes ht hi hz0 hz1 hz2 hzc (by decide) v n xs hs hown ad L.length c L hx (by simp) (hb.news ad rfl) hb.one hn2 hn hbase (fun v' w' q1 q2 _ => h v' w' q1 q2)

theorem own_keepT {V V' : World} {base n : Nat} {t : TypeId} {v : Value} {xs : List Value} (h : V.ownsRow base t 1 v n xs) (g : V.grownBy V' none) : V'.ownsRow base t 1 v n xs :=
  h.kept g (by
    by_cases e : v.ownBlock = none
    · exact Or.inl e
    · exact Or.inr e)

/-- Parts, each a slice: the values, and what each holds. -/
inductive Prts (w : World) : List Value → List (List Value) → Prop
  | nil : Prts w [] []
  | snoc {PS : List Value} {CS : List (List Value)} {C : List Value} {ao : Option Addr} {c : Nat} (h : Prts w PS CS) (hc : Cel w ao c C) : Prts w (PS ++ [.slice ao C.length c]) (CS ++ [C])

theorem Prts.len {w : World} {PS : List Value} {CS : List (List Value)} (h : Prts w PS CS) : PS.length = CS.length := by
  induction h with
  | nil => rfl
  | snoc _ _ ih => simp [ih]
theorem Prts.kept {w a : World} {PS : List Value} {CS : List (List Value)} (h : Prts w PS CS) (g : w.grownBy a none) : Prts a PS CS := by
  induction h with
  | nil => exact .nil
  | snoc _ hc ih => exact .snoc ih (hc.kept g)
theorem Prts.one {w : World} {PS : List Value} {CS : List (List Value)} (h : Prts w PS CS) : ∀ v ∈ PS, v.oneCell' = true := by
  induction h with
  | nil => intro v hv; cases hv
  | snoc _ _ ih =>
    intro v hv
    rcases List.mem_append.1 hv with hv | hv
    · exact ih v hv
    · rw [List.mem_singleton.1 hv]; rfl
theorem Prts.at {w : World} {PS : List Value} {CS : List (List Value)} (h : Prts w PS CS) : ∀ i (hi : i < PS.length) (hj : i < CS.length), ∃ ao c, PS[i] = .slice ao CS[i].length c ∧ Cel w ao c CS[i] := by
  induction h with
  | nil => intro i hi; cases hi
  | @snoc PS CS C ao c h hc ih =>
    intro i hi hj
    by_cases hl : i < PS.length
    · have hl2 : i < CS.length := by rw [← h.len]; exact hl
      obtain ⟨a1, c1, e1, q1⟩ := ih i hl hl2
      refine ⟨a1, c1, ?_, ?_⟩
      · rw [List.getElem_append_left hl, List.getElem_append_left hl2]; exact e1
      · rw [List.getElem_append_left hl2]; exact q1
    · have hi2 : i = PS.length := by simp at hi; omega
      have hi3 : i = CS.length := by rw [← h.len]; exact hi2
      refine ⟨ao, c, ?_, ?_⟩
      · rw [List.getElem_append_right (by omega), List.getElem_append_right (by omega)]
        simp [hi2, h.len]
      · rw [List.getElem_append_right (by omega)]
        simp [hi3]
        exact hc

/-- Parts of s items each, but the last one, of the first k of N. -/
structure Cuts (VS : List Value) (s k : Nat) (CS : List (List Value)) : Prop where
  flat : CS.flatten = VS.take k
  k : k = min VS.length (CS.length * s)
  le : CS.length * s < VS.length + s
  each : ∀ i (h : i < CS.length), 0 < CS[i].length ∧ CS[i].length ≤ s ∧ (i + 1 < CS.length → CS[i].length = s)

theorem Cuts.start (VS : List Value) (s : Nat) (hs : 0 < s) : Cuts VS s 0 [] := ⟨by simp, by simp, by simp; omega, fun i h => by cases h⟩
theorem Cuts.step {VS : List Value} {s k : Nat} {CS : List (List Value)} (h : Cuts VS s k CS) (hs : 0 < s) (hk : k < VS.length) : Cuts VS s (k + min s (VS.length - k)) (CS ++ [(VS.drop k).take (min s (VS.length - k))]) := by
  have h1 := h.k
  have h2 : k = CS.length * s := by omega
  refine ⟨?_, ?_, ?_, ?_⟩
  · rw [List.flatten_append, h.flat, List.take_add]
    simp
  · rw [List.length_append, List.length_singleton, Nat.add_mul]
    omega
  · rw [List.length_append, List.length_singleton, Nat.add_mul]
    omega
  · intro i hi
    by_cases hl : i < CS.length
    · rw [List.getElem_append_left hl]
      obtain ⟨q1, q2, q3⟩ := h.each i hl
      refine ⟨q1, q2, fun _ => ?_⟩
      by_cases hl2 : i + 1 < CS.length
      · exact q3 hl2
      · have hlen : CS.flatten.length = k := by rw [h.flat]; simp; omega
        have hi2 : i + 1 = CS.length := by omega
        have : ∀ (D : List (List Value)), (∀ C ∈ D, C.length ≤ s) → D.flatten.length ≤ D.length * s := by
          intro D
          induction D with
          | nil => intro _; simp
          | cons C D ih =>
            intro hD
            rw [List.flatten_cons, List.length_append, List.length_cons, Nat.add_mul]
            have := ih (fun C hC => hD C (List.mem_cons_of_mem _ hC))
            have := hD C (by simp)
            omega
        have hd : CS.take i ++ [CS[i]] = CS := by rw [← List.take_succ_eq_append_getElem hl, hi2, List.take_length]
        have h5 := this (CS.take i) (fun C hC => by
          obtain ⟨j, hj, rfl⟩ := List.getElem_of_mem (List.mem_of_mem_take hC)
          exact (h.each j hj).2.1)
        have h6 : CS.flatten.length = (CS.take i).flatten.length + CS[i].length := by
          conv => lhs; rw [← hd]
          rw [List.flatten_append, List.length_append]
          simp
        have h7 : (CS.take i).length = i := by simp; omega
        rw [h7] at h5
        have h8 : CS.length * s = i * s + s := by rw [← hi2, Nat.add_mul]; omega
        omega
    · have hi3 : i = CS.length := by simp at hi; omega
      subst hi3
      rw [List.getElem_append_right (by omega)]
      simp
      omega

end Go.Proofs.Ytfaipdifkmjdeaa
