/- What object's linked answers: what is wrong with an object, and the objects that it names. Of any object. -/
import Derived.Test.YtcemdlcimhoeeaaOTell2
import Derived.Laws.AppendOwnNone
namespace Go.Proofs.Ytcemdlcimhoeeaa
open Go.RowKit

/-- What linked tells. -/
def Linked (w w' : World) (k : Int) (d : List UInt8) (e : Ending) : Prop := ∃ v y, e = .returned (.tuple #[v, .int .i64 y]) ∧ y = checkL k d ∧ w'.ownsRow w.heap.size 24 32 v (linksL k d).length ((linksL k d).flatMap (·.map bv)) ∧ w.grownBy w' none

theorem Linked.bad {w w' : World} {k : Int} {d : List UInt8} {y : Int} (hy : checkL k d = y) (h0 : y ≠ 0) (g : w.grownBy w' none) : Linked w w' k d (.returned (.tuple #[.slice none 0 0, .int .i64 y])) := by
  have hl : linksL k d = [] := by unfold linksL; rw [hy, if_pos h0]
  exact ⟨_, y, rfl, hy.symm, by rw [hl]; exact World.ownsRow_nil _ _ _ _, g⟩

theorem check2 (d : List UInt8) (h : d.length ≤ 16384) : checkL 2 d = (telT 2 d).1 ∧ ((telT 2 d).1 = 0 → linksL 2 d = (telT 2 d).2.map (·.id)) ∧ ((telT 2 d).1 = 0 ∨ (telT 2 d).1 = 11 ∧ (telT 2 d).2 = []) := by
  have h1 : ¬ 16384 < d.length := by omega
  have hc : checkL 2 d = errO (treeOf d) := by simp [checkL, h1]
  by_cases hq : ofTree (readT d) = (0, d)
  · have e1 : treeOf d = some (readT d) := by simp [treeOf, hq]
    have e2 : telT 2 d = (0, readT d) := by simp [telT, hq]
    refine ⟨by rw [hc, e1, e2]; rfl, fun _ => ?_, by rw [e2]; exact Or.inl rfl⟩
    unfold linksL
    rw [hc, e1, e2]
    simp [errO]
  · have e1 : treeOf d = none := by simp [treeOf, hq]
    have e2 : telT 2 d = (11, []) := by simp [telT, hq]
    refine ⟨by rw [hc, e1, e2]; rfl, fun h => ?_, by rw [e2]; exact Or.inr ⟨rfl, rfl⟩⟩
    rw [e2] at h
    exact absurd h (by decide)
theorem check3 (d : List UInt8) (h : d.length ≤ 16384) : checkL 3 d = (telC 3 d).1 ∧ ((telC 3 d).1 = 0 → linksL 3 d = (telC 3 d).2.tree :: (telC 3 d).2.pars) ∧ ((telC 3 d).1 = 0 ∨ (telC 3 d).1 = 11) ∧ (telC 3 d).2.tree.length = 32 ∧ (∀ x ∈ (telC 3 d).2.pars, x.length = 32) ∧ (telC 3 d).2.pars.length ≤ 4 := by
  have h1 : ¬ 16384 < d.length := by omega
  have hc : checkL 3 d = errO (chgOf d) := by simp [checkL, h1]
  by_cases hq : ofChg (readC d) = (0, d)
  · have e1 : chgOf d = some (readC d) := by simp [chgOf, hq]
    have e2 : telC 3 d = (0, readC d) := by simp [telC, hq]
    have hok := readC_ok d
    refine ⟨by rw [hc, e1, e2]; rfl, fun _ => ?_, by rw [e2]; exact Or.inl rfl, by rw [e2]; exact hok.1, by rw [e2]; exact hok.2.1, by rw [e2]; exact hok.2.2.1⟩
    unfold linksL
    rw [hc, e1, e2]
    simp [errO]
  · have e1 : chgOf d = none := by simp [chgOf, hq]
    have e2 : telC 3 d = (11, zeroCh) := by simp [telC, hq]
    refine ⟨by rw [hc, e1, e2]; rfl, fun h => ?_, by rw [e2]; exact Or.inr rfl, by rw [e2]; rfl, by rw [e2]; intro x hx; simp [zeroCh] at hx, by rw [e2]; exact Nat.zero_le _⟩
    rw [e2] at h
    exact absurd h (by decide)
theorem check4 (d : List UInt8) (h : d.length ≤ 16384) : checkL 4 d = (telM 4 d).1 ∧ ((telM 4 d).1 = 0 → linksL 4 d = [(telM 4 d).2.target]) ∧ ((telM 4 d).1 = 0 ∨ (telM 4 d).1 = 11) ∧ (telM 4 d).2.target.length = 32 := by
  have h1 : ¬ 16384 < d.length := by omega
  have hc : checkL 4 d = errO (mrkOf d) := by simp [checkL, h1]
  by_cases hq : ofMrk (readM d) = (0, d)
  · have e1 : mrkOf d = some (readM d) := by simp [mrkOf, hq]
    have e2 : telM 4 d = (0, readM d) := by simp [telM, hq]
    refine ⟨by rw [hc, e1, e2]; rfl, fun _ => ?_, by rw [e2]; exact Or.inl rfl, by rw [e2]; exact (readM_ok d).1⟩
    unfold linksL
    rw [hc, e1, e2]
    simp [errO]
  · have e1 : mrkOf d = none := by simp [mrkOf, hq]
    have e2 : telM 4 d = (11, zeroMk) := by simp [telM, hq]
    refine ⟨by rw [hc, e1, e2]; rfl, fun h => ?_, by rw [e2]; exact Or.inr rfl, by rw [e2]; rfl⟩
    rw [e2] at h
    exact absurd h (by decide)

theorem linked_arg (w : World) (k : Int) (hk : k < 1 ∨ 4 < k) (ao : Option Addr) (c : Nat) (d : List UInt8) : Calls Try.prog 65 #[.agg #[.int .i64 k, .slice ao d.length c]] w fun e w' => Linked w w' k d e := by
  have hc : checkL k d = 2 := by unfold checkL; rw [if_pos hk]
  have HC := hide hc
  obtain ⟨n, hn⟩ : ∃ n, n = d.length := ⟨_, rfl⟩
  rw [← hn]
  clear hc hn
  by_cases h1 : k < 1
  · have g0 : w.grownBy (w.alloc (.cells #[.int .i64 k, .slice ao n c] 35)) none := gb_alloc (gb_refl _ _) _
    clear hk
    go_enter Try.func65, Try.ntmps65
    go_wp2
    refine bodyPost_ret (v := .tuple #[.slice none 0 0, .int .i64 2]) (by simp [results, Try.results65, go_sem]) rfl ?_
    exact Linked.bad (unhide HC) (by decide) g0
  · have h2 : 4 < k := by omega
    have g0 : w.grownBy (w.alloc (.cells #[.int .i64 k, .slice ao n c] 35)) none := gb_alloc (gb_refl _ _) _
    clear hk
    go_enter Try.func65, Try.ntmps65
    go_wp2
    refine bodyPost_ret (v := .tuple #[.slice none 0 0, .int .i64 2]) (by simp [results, Try.results65, go_sem]) rfl ?_
    exact Linked.bad (unhide HC) (by decide) g0

theorem linked_big (w : World) (k : Int) (h1 : ¬ k < 1) (h4 : ¬ 4 < k) (ao : Option Addr) (c : Nat) (d : List UInt8) (hd : 16384 < d.length) : Calls Try.prog 65 #[.agg #[.int .i64 k, .slice ao d.length c]] w fun e w' => Linked w w' k d e := by
  have hc : checkL k d = 3 := by unfold checkL; rw [if_neg (by omega), if_pos hd]
  have HC := hide hc
  obtain ⟨n, hn⟩ : ∃ n, n = d.length := ⟨_, rfl⟩
  have hd2 : (16384 : Int) < (n : Int) := by omega
  rw [← hn]
  clear hc hn hd
  have g0 : w.grownBy (w.alloc (.cells #[.int .i64 k, .slice ao n c] 35)) none := gb_alloc (gb_refl _ _) _
  go_enter Try.func65, Try.ntmps65
  go_wp2
  refine bodyPost_ret (v := .tuple #[.slice none 0 0, .int .i64 3]) (by simp [results, Try.results65, go_sem]) rfl ?_
  exact Linked.bad (unhide HC) (by decide) g0

theorem linked_blob (w : World) (ao : Option Addr) (c : Nat) (d : List UInt8) (hd : d.length ≤ 16384) : Calls Try.prog 65 #[.agg #[.int .i64 1, .slice ao d.length c]] w fun e w' => Linked w w' 1 d e := by
  have hc : checkL 1 d = 0 := by unfold checkL; rw [if_neg (by omega), if_neg (by omega)]; rfl
  have hl : linksL 1 d = [] := by unfold linksL; rw [hc]; rfl
  have HC := hide hc
  have HL := hide hl
  obtain ⟨n, hn⟩ : ∃ n, n = d.length := ⟨_, rfl⟩
  have hd2 : ¬ (16384 : Int) < (n : Int) := by omega
  rw [← hn]
  clear hc hn hd hl
  have g0 : w.grownBy (w.alloc (.cells #[.int .i64 1, .slice ao n c] 35)) none := gb_alloc (gb_refl _ _) _
  go_enter Try.func65, Try.ntmps65
  go_wp2
  refine bodyPost_ret (v := .tuple #[.slice none 0 0, .int .i64 0]) (by simp [results, Try.results65, go_sem]) rfl ?_
  exact ⟨_, 0, rfl, (unhide HC).symm, by rw [unhide HL]; exact World.ownsRow_nil _ _ _ _, g0⟩

/-- 'append(own, x...)', x names of objects that lie in memory. -/
theorem wpList_append_idl {w : World} {ops : Array Oper} {rest : List Oper} {o : Oper} {a : Act} {Q : Exit → Act → World → Prop} (hgd : o.guard = none) (s x : Operand)
    (ho : o.op = .call { callee := .builtin .append, args := #[s, x], argTypes := #[25, 25] })
    (base : Nat) (v : Value) (n : Nat) (xs : List Value) (hs : a.eval s = v) (hown : w.ownsRow base 24 32 v n xs)
    (ao : Option Addr) (c : Nat) (ps : List (List UInt8)) (hP : Ids w ao c ps) (hx : a.eval x = .slice ao ps.length c) (hn : n + ps.length ≤ 100000) (hbase : base ≤ w.heap.size)
    (h : ∀ v' w', w'.ownsRow base 24 32 v' (n + ps.length) (xs ++ ps.flatMap (·.map bv)) → w.grownBy w' v.ownBlock → wpList Try.prog ops Q rest (a.put o.dst v') w') : wpList Try.prog ops Q (o :: rest) a w := by
  obtain ⟨i0, hi, hz0, hz1, hz2⟩ := info_parts info_idp
  cases ao with
  | none =>
    have hz := hP.zip rfl
    have hx0 : ps = [] := List.eq_nil_of_length_eq_zero hz.1
    have hc0 := hz.2
    subst hx0 hc0
    exact wpList_append_own_none hgd s x 25 ho base 24 i0 32 Try.underlying25 hi v n xs hs hown hx (h v w (by simpa using hown) (gb_refl _ _))
  | some ad =>
    refine wpList_append_own w hgd s x 25 ho base 24 i0 _ 32 32 Try.underlying25 hi hz0 hz1 hz2 rfl (by decide) v n xs hs hown ad ps.length c (ps.flatMap (·.map bv)) hx (flat_len2 _ 32 ps (fun x hx => by simp [hP.ids x hx])) ?_ ?_ (by unfold maxLen; omega) (by omega) hbase (fun v' w' q1 q2 _ => h v' w' q1 q2)
    · intro j u hu
      have hl := flat_len2 (fun x : List UInt8 => x.map bv) 32 ps (fun x hx => by simp [hP.ids x hx])
      have hj := (List.getElem?_eq_some_iff.1 hu).1
      rw [hl] at hj
      have hq : j / 32 < ps.length := by omega
      have hs2 := hP.shape ad rfl (by omega)
      have hr := hP.row ad rfl (j / 32) hq
      rw [show j = j / 32 * 32 + j % 32 by omega, flat_at (fun x : List UInt8 => x.map bv) 32 ps (fun x hx => by simp [hP.ids x hx]) (j / 32) (j % 32) hq (by omega)] at hu
      have h5 := hr (j % 32) u hu
      obtain ⟨b, o, sp⟩ := ad
      simp only at hs2 h5
      subst hs2
      rw [Addr.add_lit]
      rw [show o + j = o + j / 32 * 32 + j % 32 by omega]
      exact h5
    · intro u hu
      obtain ⟨x, _, hx⟩ := List.mem_flatMap.1 hu
      exact bv_one _ u hx

end Go.Proofs.Ytcemdlcimhoeeaa
