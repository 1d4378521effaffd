/- A disk as a list, and what its calls make of it. Pure. -/
import Derived.Test.YtfaipdifkmjdeaaMBlk
namespace Go.Proofs.Ytfaipdifkmjdeaa
open Go.RowKit

/-- What is safe, the writes under way in their order, how many calls are left (below 0: it is not armed), whether it is down. -/
structure Dsk where
  safe : List (List UInt8)
  U : List (Nat × List UInt8)
  left : Int
  down : Bool
deriving Inhabited

structure Dsk.Ok (D : Dsk) : Prop where
  pos : 0 < D.safe.length
  most : D.safe.length ≤ 2048
  wide : ∀ s ∈ D.safe, s.length = 256
  inn : ∀ x ∈ D.U, x.1 < D.safe.length ∧ x.2.length = 256
  lim : D.left < 9223372036854775808

/-- The writes under way of a sector. -/
def rowsU (U : List (Nat × List UInt8)) (i : Nat) : List (List UInt8) := (U.filter fun x => x.1 == i).map (·.2)
def keptD (D : Dsk) (i : Nat) : List UInt8 := (D.safe[i]?).getD []
def lastD (D : Dsk) (i : Nat) : List UInt8 := ((rowsU D.U i).getLast?).getD (keptD D i)
def zsec : List UInt8 := List.replicate 256 0
def padS (b : List UInt8) : List UInt8 := b ++ List.replicate (256 - b.length) 0
/-- A call that tells no other error. -/
def cntD (D : Dsk) : Dsk × Int := if D.left = 0 then ({ D with down := true }, 17) else if 0 < D.left then ({ D with left := D.left - 1 }, 0) else (D, 0)
def clampN (f : Int) : Nat := (min (max f 0) 256).toNat
/-- Of a write so many bytes are safe. -/
def lay1 (S : List (List UInt8)) (x : Nat × List UInt8) (n : Nat) : List (List UInt8) := S.set x.1 (x.2.take n ++ ((S[x.1]?).getD []).drop n)
def layAll (f : Nat → Int) : Nat → List (Nat × List UInt8) → List (List UInt8) → List (List UInt8)
  | _, [], S => S
  | k, x :: U, S => layAll f (k + 1) U (lay1 S x (clampN (f k)))
def settleD (f : Nat → Int) (D : Dsk) : Dsk := { D with safe := layAll f 0 D.U D.safe, U := [] }
def hasD (D : Dsk) (i : Int) : Bool := decide (0 ≤ i ∧ i < (D.safe.length : Int))
def wrD (D : Dsk) (i : Int) (b : List UInt8) : Dsk × Int :=
  if D.down = true then (D, 17) else if hasD D i = true ∧ b.length ≤ 256 then cntD { D with U := D.U ++ [(i.toNat, padS b)] } else (D, 2)
def syD (D : Dsk) : Dsk × Int := if D.down = true then (D, 17) else if (cntD D).2 = 0 then (settleD (fun _ => 256) (cntD D).1, 0) else (cntD D)
def fateL (F : List Int) (k : Nat) : Int := (F[k]?).getD (-1)
def faD (D : Dsk) (F : List Int) : Dsk := { settleD (fateL F) D with left := -1, down := false }
def rdD (D : Dsk) (i : Int) : List UInt8 × Int := if D.down = true then ([], 17) else if hasD D i = true then (lastD D i.toNat, 0) else ([], 2)
def sfD (D : Dsk) (i : Int) : List UInt8 × Int := if hasD D i = true then (keptD D i.toNat, 0) else ([], 2)
def arD (D : Dsk) (n : Int) : Dsk := { D with left := n }
def newD (n : Nat) : Dsk := ⟨List.replicate n zsec, [], -1, false⟩

theorem rowsU_nil (i : Nat) : rowsU [] i = [] := rfl
theorem rowsU_cons (x : Nat × List UInt8) (U : List (Nat × List UInt8)) (i : Nat) : rowsU (x :: U) i = if x.1 = i then x.2 :: rowsU U i else rowsU U i := by
  unfold rowsU
  rw [List.filter_cons]
  by_cases h : x.1 = i <;> simp [h]
theorem rowsU_snoc (U : List (Nat × List UInt8)) (x : Nat × List UInt8) (i : Nat) : rowsU (U ++ [x]) i = if x.1 = i then rowsU U i ++ [x.2] else rowsU U i := by
  unfold rowsU
  rw [List.filter_append, List.map_append]
  by_cases h : x.1 = i <;> simp [h]
theorem rowsU_mem {U : List (Nat × List UInt8)} {i : Nat} {r : List UInt8} (h : r ∈ rowsU U i) : (i, r) ∈ U := by
  unfold rowsU at h
  obtain ⟨x, hx, rfl⟩ := List.mem_map.1 h
  have := List.mem_filter.1 hx
  have h2 : x.1 = i := by simpa using this.2
  rw [← h2]
  exact this.1
theorem rowsU_ne {U : List (Nat × List UInt8)} {i : Nat} : rowsU U i ≠ [] ↔ i ∈ U.map (·.1) := by
  constructor
  · intro h
    obtain ⟨r, hr⟩ := List.exists_mem_of_ne_nil _ h
    exact List.mem_map.2 ⟨_, rowsU_mem hr, rfl⟩
  · intro h e
    obtain ⟨x, hx, rfl⟩ := List.mem_map.1 h
    have : x.2 ∈ rowsU U x.1 := List.mem_map.2 ⟨x, List.mem_filter.2 ⟨hx, by simp⟩, rfl⟩
    rw [e] at this
    cases this
theorem rowsU_len (U : List (Nat × List UInt8)) (i : Nat) : (rowsU U i).length ≤ U.length := by
  unfold rowsU
  rw [List.length_map]
  exact List.length_filter_le _ _

theorem zsec_len : zsec.length = 256 := List.length_replicate ..
theorem padS_len {b : List UInt8} (h : b.length ≤ 256) : (padS b).length = 256 := by
  unfold padS
  rw [List.length_append, List.length_replicate]
  omega

theorem clampN_le (f : Int) : clampN f ≤ 256 := by unfold clampN; omega
theorem clampN_int (f : Int) : min (max f 0) 256 = (clampN f : Int) := by unfold clampN; omega

theorem lay1_len (S : List (List UInt8)) (x : Nat × List UInt8) (n : Nat) : (lay1 S x n).length = S.length := by simp [lay1]
theorem lay1_wide {S : List (List UInt8)} {x : Nat × List UInt8} {n : Nat} (hS : ∀ s ∈ S, s.length = 256) (hx : x.2.length = 256) (hn : n ≤ 256) (hi : x.1 < S.length) : ∀ s ∈ lay1 S x n, s.length = 256 := by
  intro s hs
  unfold lay1 at hs
  rcases List.mem_or_eq_of_mem_set hs with h | h
  · exact hS s h
  · subst h
    rw [List.getElem?_eq_getElem hi]
    have := hS _ (List.getElem_mem hi)
    simp only [Option.getD_some, List.length_append, List.length_take, List.length_drop, this, hx]
    omega
theorem layAll_len (f : Nat → Int) : ∀ (U : List (Nat × List UInt8)) (k : Nat) (S : List (List UInt8)), (layAll f k U S).length = S.length
  | [], _, _ => rfl
  | x :: U, k, S => by rw [layAll, layAll_len f U, lay1_len]
theorem layAll_wide (f : Nat → Int) : ∀ (U : List (Nat × List UInt8)) (k : Nat) (S : List (List UInt8)), (∀ s ∈ S, s.length = 256) → (∀ x ∈ U, x.1 < S.length ∧ x.2.length = 256) → ∀ s ∈ layAll f k U S, s.length = 256
  | [], _, _, hS, _ => hS
  | x :: U, k, S, hS, hU => by
    rw [layAll]
    have hx := hU x (by simp)
    refine layAll_wide f U (k + 1) _ (lay1_wide hS hx.2 (clampN_le _) hx.1) (fun y hy => ?_)
    rw [lay1_len]
    exact hU y (by simp [hy])
theorem layAll_snoc (f : Nat → Int) (x : Nat × List UInt8) : ∀ (U : List (Nat × List UInt8)) (k : Nat) (S : List (List UInt8)), layAll f k (U ++ [x]) S = lay1 (layAll f k U S) x (clampN (f (k + U.length)))
  | [], k, S => by simp [layAll]
  | y :: U, k, S => by
    rw [List.cons_append, layAll, layAll, layAll_snoc f x U (k + 1), List.length_cons]
    rw [show k + 1 + U.length = k + (U.length + 1) by omega]

theorem Dsk.Ok.settle {D : Dsk} (h : D.Ok) (f : Nat → Int) : (settleD f D).Ok :=
  ⟨by simp only [settleD, layAll_len]; exact h.pos, by simp only [settleD, layAll_len]; exact h.most, layAll_wide f _ _ _ h.wide h.inn, (fun x hx => by simp [settleD] at hx), h.lim⟩
theorem Dsk.Ok.cnt {D : Dsk} (h : D.Ok) : (cntD D).1.Ok := by
  unfold cntD
  split
  · exact ⟨h.pos, h.most, h.wide, h.inn, h.lim⟩
  · split
    · exact ⟨h.pos, h.most, h.wide, h.inn, by have := h.lim; show D.left - 1 < _; omega⟩
    · exact h
theorem cntD_safe (D : Dsk) : (cntD D).1.safe = D.safe ∧ (cntD D).1.U = D.U := by
  unfold cntD
  split
  · exact ⟨rfl, rfl⟩
  · split <;> exact ⟨rfl, rfl⟩
theorem cntD_err (D : Dsk) : (cntD D).2 = 0 ∨ (cntD D).2 = 17 := by
  unfold cntD
  split
  · exact Or.inr rfl
  · split <;> exact Or.inl rfl
theorem Dsk.Ok.fall {D : Dsk} (h : D.Ok) (F : List Int) : (faD D F).Ok :=
  have := h.settle (fateL F)
  ⟨this.pos, this.most, this.wide, this.inn, by show (-1 : Int) < _; decide⟩
theorem Dsk.Ok.arm {D : Dsk} (h : D.Ok) {n : Int} (hn : n < 9223372036854775808) : (arD D n).Ok := ⟨h.pos, h.most, h.wide, h.inn, hn⟩
theorem Dsk.Ok.add {D : Dsk} (h : D.Ok) {i : Nat} {b : List UInt8} (hi : i < D.safe.length) (hb : b.length ≤ 256) : Dsk.Ok { D with U := D.U ++ [(i, padS b)] } :=
  ⟨h.pos, h.most, h.wide, fun x hx => by
    rcases List.mem_append.1 hx with hx | hx
    · exact h.inn x hx
    · rw [List.mem_singleton.1 hx]; exact ⟨hi, padS_len hb⟩, h.lim⟩
theorem hasD_iff (D : Dsk) (i : Int) : hasD D i = true ↔ 0 ≤ i ∧ i < (D.safe.length : Int) := by unfold hasD; simp
theorem hasD_nat {D : Dsk} {i : Int} (h : hasD D i = true) : i.toNat < D.safe.length ∧ i = (i.toNat : Int) := by
  rw [hasD_iff] at h
  omega
theorem Dsk.Ok.write {D : Dsk} (h : D.Ok) (i : Int) (b : List UInt8) : (wrD D i b).1.Ok := by
  unfold wrD
  split
  · exact h
  · split
    · rename_i h1
      exact (h.add (hasD_nat h1.1).1 h1.2).cnt
    · exact h
theorem Dsk.Ok.sync {D : Dsk} (h : D.Ok) : (syD D).1.Ok := by
  unfold syD
  split
  · exact h
  · split
    · exact h.cnt.settle _
    · exact h.cnt
theorem newD_ok {n : Nat} (h1 : 0 < n) (h2 : n ≤ 2048) : (newD n).Ok :=
  ⟨by simpa [newD] using h1, by simpa [newD] using h2, (fun s hs => by simp only [newD] at hs; rw [List.eq_of_mem_replicate hs]; exact zsec_len), (fun x hx => by simp [newD] at hx), by show (-1 : Int) < _; decide⟩
theorem keptD_len {D : Dsk} (h : D.Ok) {i : Nat} (hi : i < D.safe.length) : (keptD D i).length = 256 := by
  unfold keptD
  rw [List.getElem?_eq_getElem hi]
  exact h.wide _ (List.getElem_mem hi)
theorem lastD_len {D : Dsk} (h : D.Ok) {i : Nat} (hi : i < D.safe.length) : (lastD D i).length = 256 := by
  unfold lastD
  cases hg : (rowsU D.U i).getLast? with
  | none => exact keptD_len h hi
  | some r => exact (h.inn _ (rowsU_mem (List.mem_of_getLast? hg))).2

end Go.Proofs.Ytfaipdifkmjdeaa
