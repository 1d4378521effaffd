/- Two boxes side by side, and what the law of the mode Ideal lets them do: bounds, and a text that is turned in its place. No condition but those that each lemma names. -/
import Derived.Test.YtjckdgapefaokaaDoorBLaw
import Derived.Test.YtjckdgapefaokaaDoorBActs
namespace Go.Proofs.YtjckdgapefaokaaDoor
open Go.RowKit

/-- At most 200. -/
def sh200 (n : Nat) : Nat := min n 200
theorem sh200_le (n : Nat) : sh200 n ≤ 200 := Nat.min_le_right _ _
theorem take200_length (l : List UInt8) : (l.take 200).length = sh200 l.length := by rw [List.length_take, Nat.min_comm]; rfl

theorem short8_min (w : World) (ao : Option Addr) (n c : Nat) (h : n ≤ c) : Calls Tryd.prog 11 #[.slice ao n c] w fun e w' => e = .returned (.slice ao (sh200 n) c) ∧ w' = w := by
  have := short8_any w ao c (List.replicate n 0) (by simpa using h)
  rw [take200_length, List.length_replicate] at this
  exact this

/-- New of one text. -/
theorem dnew_one (u V : World) (ao : Option Addr) (c : Nat) (F : List UInt8) (gV : u.grownBy V none) (hF : Bts u ao c F) (hT : Tabs u) (hl : F.length ≤ 1000) : ∃ W, W = V.alloc (.cells #[.slice ao F.length c] 22) ∧ u.grownBy W none ∧ V.grownBy W none ∧
    Calls Tryd.prog 9 #[.slice (some ⟨V.heap.size, 0, none⟩) 1 1] W fun e w' => ∃ b, e = .returned (.pointer (some ⟨b, 0, none⟩)) ∧ V.heap.size ≤ b ∧ SrcAt w' b F 0 ∧ V.grownBy w' none := by
  obtain ⟨W, hW, hB, g⟩ := alloc_one V (.slice ao F.length c)
  refine ⟨W, hW, tn gV g, g, ?_⟩
  have hL := lst_single hB ((hF.old gV).kept g (fun _ e => by cases e))
  have := dnew_any W _ 1 [F] hL (hT.kept0 (tn gV g)) (by simp; omega)
  rw [show ([F] : List (List UInt8)).flatten = F by simp, show ([F] : List (List UInt8)).length = 1 from rfl] at this
  exact this.mono fun e w' ⟨b, he, hb, hS, gg⟩ => ⟨b, he, Nat.le_trans g.size hb, hS, tn g gg⟩

theorem dnew_nil (u V : World) (gV : u.grownBy V none) (hT : Tabs u) : Calls Tryd.prog 9 #[.slice none 0 0] V fun e w' => ∃ b, e = .returned (.pointer (some ⟨b, 0, none⟩)) ∧ V.heap.size ≤ b ∧ SrcAt w' b [] 0 ∧ V.grownBy w' none :=
  dnew_any V none 0 [] ⟨(fun _ => ⟨rfl, rfl⟩), Nat.le_refl _, Nat.zero_le _, (fun _ e => by cases e), (fun _ e => by cases e)⟩ (hT.kept0 gV) (by simp)

theorem tries_bound (k be tx : List UInt8) : ∀ (n : Nat) (b : BoxS), (b.tries k be tx n).1.u ≤ b.u + n * (tx.length + 28) ∧ (b.tries k be tx n).1.L.length ≤ b.L.length + 1
  | 0, b => ⟨by simp [BoxS.tries], by simp [BoxS.tries]⟩
  | n + 1, b => by
    unfold BoxS.tries
    have e : (n + 1) * (tx.length + 28) = n * (tx.length + 28) + (tx.length + 28) := Nat.succ_mul _ _
    split
    · have := tries_bound k be tx n { b with u := b.u + (tx.length + 28) }
      simp only at this
      exact ⟨by omega, this.2⟩
    · simp only [List.length_append, List.length_cons, List.length_nil]
      exact ⟨by omega, by omega⟩

theorem seal_bound (b : BoxS) (k be tx : List UInt8) (ht : tx.length ≤ 200) : (b.seal k be tx).1.u ≤ b.u + 2000 ∧ (b.seal k be tx).1.L.length ≤ b.L.length + 1 ∧ (b.seal k be tx).1.mode = b.mode ∧ (b.seal k be tx).1.T = b.T := by
  unfold BoxS.seal
  split
  · simp only [List.length_append, List.length_cons, List.length_nil]
    exact ⟨by omega, by omega, trivial, trivial⟩
  · have h1 := tries_bound k be tx 8 b
    have h2 := BoxS.tries_kept k be tx 8 b
    exact ⟨by omega, h1.2, h2.1, h2.2⟩

theorem tries_tx (k be tx : List UInt8) (P : Ent → Prop) (hP : ∀ s, P ⟨s, k, be, tx⟩) : ∀ (n : Nat) (b : BoxS), (∀ x ∈ b.L, P x) → ∀ x ∈ (b.tries k be tx n).1.L, P x
  | 0, _, h => h
  | n + 1, b, h => by
    unfold BoxS.tries
    split
    · exact tries_tx k be tx P hP n _ h
    · intro x hx
      rcases List.mem_append.1 hx with hx | hx
      · exact h x hx
      · rw [List.mem_singleton.1 hx]; exact hP _

theorem seal_tx (b : BoxS) (k be tx : List UInt8) (ht : tx.length ≤ 2000) (h : ∀ x ∈ b.L, x.tx.length ≤ 2000) : ∀ x ∈ (b.seal k be tx).1.L, x.tx.length ≤ 2000 := by
  unfold BoxS.seal
  split
  · intro x hx
    rcases List.mem_append.1 hx with hx | hx
    · exact h x hx
    · rw [List.mem_singleton.1 hx]; exact Nat.zero_le _
  · exact tries_tx k be tx _ (fun _ => ht) 8 b h

/-- The first k bytes are turned. -/
def mixL (t : UInt8) (l : List UInt8) (k : Nat) : List UInt8 := (l.take k).map (· + t) ++ l.drop k
theorem mixL_zero (t : UInt8) (l : List UInt8) : mixL t l 0 = l := by simp [mixL]
theorem mixL_length (t : UInt8) (l : List UInt8) (k : Nat) : (mixL t l k).length = l.length := by simp [mixL]; omega
theorem mixL_at (t : UInt8) (l : List UInt8) (k : Nat) (h : k < l.length) : (mixL t l k)[k]? = some l[k] := by
  unfold mixL
  rw [List.getElem?_append_right (by simp; omega)]
  simp [h, Nat.min_eq_left (Nat.le_of_lt h)]
theorem mixL_succ (t : UInt8) (l : List UInt8) (k : Nat) (h : k < l.length) : (mixL t l k).set k (l[k] + t) = mixL t l (k + 1) := by
  unfold mixL
  have hl : ((l.take k).map (· + t)).length = k := by simp; omega
  rw [List.set_append_right _ _ (by omega), hl, Nat.sub_self, List.drop_eq_getElem_cons h, List.set_cons_zero, List.take_succ_eq_append_getElem h]
  simp only [List.map_append, List.map_cons, List.map_nil, List.append_assoc, List.cons_append, List.nil_append]

/-- A byte of a row of one's own, written. -/
theorem own_set {w : World} {base n cap g : Nat} {xs : List Value} (h : w.ownsRow base 5 1 (.slice (some ⟨g, 0, none⟩) n cap) n xs) (k : Nat) (v : Value) :
    (w.setCell ⟨g, k, none⟩ v).ownsRow base 5 1 (.slice (some ⟨g, 0, none⟩) n cap) n (xs.set k v) := by
  obtain ⟨h1, h2⟩ := h
  refine ⟨by rw [List.length_set]; exact h1, ?_⟩
  rcases h2 with ⟨h2, _⟩ | ⟨g', cap', cur, hv, hg, hh, h3, h4, h5, h6⟩
  · cases h2
  · cases hv
    refine Or.inr ⟨g, cap, cur.setIfInBounds k v, rfl, hg, ?_, h3, h4, by simpa using h5, ?_⟩
    · simp [World.setCell, Array.getElem?_modify, hh]
    · rw [← h6, Array.toList_setIfInBounds, List.take_set]

theorem own_there {w : World} {base n cap g : Nat} {xs : List Value} (h : w.ownsRow base 5 1 (.slice (some ⟨g, 0, none⟩) n cap) n xs) (k : Nat) (v : Value) (hk : xs[k]? = some v) : w.cell? ⟨g, k, none⟩ = some v ∧ w.frozen? ⟨g, k, none⟩ = false := by
  obtain ⟨h1, h2⟩ := h
  rcases h2 with ⟨h2, _⟩ | ⟨g', cap', cur, hv, hg, hh, h3, h4, h5, h6⟩
  · cases h2
  · cases hv
    refine ⟨?_, by simp [World.frozen?, hh]⟩
    rw [cell_of_row w g k _ _ _ hh]
    rw [← h6] at hk
    rw [List.getElem?_take] at hk
    split at hk
    · simpa using hk
    · cases hk

theorem u8_add (x y : UInt8) : IntKind.u8.wrap (((x.toNat : Nat) : Int) + ((y.toNat : Nat) : Int)) = (((x + y).toNat : Nat) : Int) := by
  show ((((x.toNat : Nat) : Int) + ((y.toNat : Nat) : Int)) % 256) = _
  rw [UInt8.toNat_add]
  omega

end Go.Proofs.YtjckdgapefaokaaDoor
