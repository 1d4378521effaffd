/- WireNobody answers true of any step, and nothing that was in memory has changed. -/
import Derived.Test.YtgedgjcdeajgiaaOne
namespace Go.Proofs.Ytgedgjcdeajgiaa
open Go.RowKit

/-- A reader with no bytes left, whatever is wrong. -/
def Emp (w : World) (rb : Nat) : Prop := ∃ e, Rd w rb [] e

theorem num_emp (w : World) (rb : Nat) (n : Int) (h : Emp w rb) : Calls Try.prog 19 #[.pointer (some ⟨rb, 0, none⟩), .int .i64 n] w fun e w' => e = .returned (.int .u64 0) ∧ Emp w' rb ∧ w.grownBy w' (some rb) := by
  obtain ⟨k, h⟩ := h
  refine (num_at w rb [] k n h).mono ?_
  rintro e w' ⟨rfl, h1, h2⟩
  have e1 : (numS [] k n).1 = 0 ∧ (numS [] k n).2.1 = [] := by
    unfold numS
    repeat' split
    all_goals simp [be]
  rw [e1.2] at h1
  rw [e1.1]
  exact ⟨rfl, ⟨_, h1⟩, h2⟩

theorem raw_emp (w : World) (rb : Nat) (n : Int) (h : Emp w rb) : Calls Try.prog 21 #[.pointer (some ⟨rb, 0, none⟩), .int .i64 n] w fun e w' => (∃ ao c, e = .returned (.slice ao 0 c)) ∧ Emp w' rb ∧ w.grownBy w' (some rb) := by
  obtain ⟨k, h⟩ := h
  refine (raw_at w rb [] k n (by simp) h).mono ?_
  rintro e w' ⟨v, rfl, h0, h1, h2⟩
  have e1 : (rawS [] k n).1 = [] ∧ (rawS [] k n).2.1 = [] := by
    unfold rawS
    repeat' split
    all_goals simp
  rw [e1.2] at h1
  rw [e1.1] at h0
  obtain ⟨ao, c, rfl, _⟩ := h0
  exact ⟨⟨ao, c, rfl⟩, ⟨_, h1⟩, h2⟩

theorem sized_emp (w : World) (rb : Nat) (h : Emp w rb) : Calls Try.prog 23 #[.pointer (some ⟨rb, 0, none⟩)] w fun e w' => (∃ ao c, e = .returned (.slice ao 0 c)) ∧ Emp w' rb ∧ w.grownBy w' (some rb) := by
  obtain ⟨k, h⟩ := h
  refine (sized_at w rb [] k (by simp) h).mono ?_
  rintro e w' ⟨v, rfl, h0, h1, h2⟩
  have e1 : (sizedS [] k).1 = [] ∧ (sizedS [] k).2.1 = [] := by
    unfold sizedS
    by_cases hk : k = 0
    · simp [hk]
    · simp [hk]
  rw [e1.2] at h1
  rw [e1.1] at h0
  obtain ⟨ao, c, rfl, _⟩ := h0
  exact ⟨⟨ao, c, rfl⟩, ⟨_, h1⟩, h2⟩

theorem rlist_emp (w : World) (rb : Nat) (n : Int) (h : Emp w rb) : Calls Try.prog 25 #[.pointer (some ⟨rb, 0, none⟩), .int .i64 n] w fun e w' => (∃ ao c, e = .returned (.slice ao 0 c)) ∧ Emp w' rb ∧ w.grownBy w' (some rb) := by
  obtain ⟨k, h⟩ := h
  refine (rlist_at w rb [] k n (by simp) h).mono ?_
  rintro e w' ⟨v, rfl, h0, h1, h2⟩
  have hnb : nb 2 = 2 := by decide
  have e0 : numS [] k 2 = (0, [], if k = 0 then 10 else k) := by
    unfold numS
    rw [hnb]
    by_cases hk : k = 0
    · simp [hk]
    · simp [hk]
  have e1 : (listS [] k n).1 = [] ∧ (listS [] k n).2.1 = [] := by
    unfold listS
    rw [e0]
    repeat' split
    all_goals simp_all
  rw [e1.2] at h1
  rw [e1.1] at h0
  obtain ⟨vs, h3, _⟩ := h0
  rcases h3.2 with ⟨rfl, _⟩ | ⟨g, cap, cur, rfl, _⟩
  · exact ⟨⟨none, 0, rfl⟩, ⟨_, h1⟩, h2⟩
  · exact ⟨⟨_, _, rfl⟩, ⟨_, h1⟩, h2⟩

theorem left_emp (w : World) (rb : Nat) (h : Emp w rb) : Calls Try.prog 26 #[.pointer (some ⟨rb, 0, none⟩)] w fun e w' => e = .returned (.int .i64 0) ∧ w' = w := by
  obtain ⟨k, ao, c, h1, _⟩ := h
  exact left_at w rb ao 0 c h1.c0

set_option maxRecDepth 100000 in
set_option maxHeartbeats 1000000 in
theorem nobody_any (w : World) (k n : Int) : Calls Try.prog 6 #[.agg #[.int .i64 k, .int .i64 n]] w fun e w' => e = .returned (.bool true) ∧ w.grownBy w' none := by
  obtain ⟨B, hB⟩ : ∃ B : Obj, B = .cells #[.int .i64 k, .int .i64 n] 42 := ⟨_, rfl⟩
  obtain ⟨R, hR⟩ : ∃ R : Obj, R = .cells #[.slice none 0 0, .int .i64 0] 60 := ⟨_, rfl⟩
  have E0 : Emp ((w.alloc B).alloc R) (w.heap.size + 1) := by
    refine ⟨0, none, 0, ?_, Bts.nil _, fun _ e => by cases e⟩
    have := heap_alloc_new (w.alloc B) R
    rw [World.size_alloc] at this
    unfold RdAt
    rw [this, hR]
    rfl
  have c0 : ((w.alloc B).alloc R).cell? ⟨w.heap.size, 1, none⟩ = some (.int .i64 n) := by
    have h1 := heap_alloc_new w B
    have h2 : (w.alloc B).cell? ⟨w.heap.size, 1, none⟩ = some (.int .i64 n) := by
      rw [hB] at h1 ⊢
      simp only [World.cell?, h1]
      rfl
    exact (World.grownBy_alloc (w.alloc B) R none).cell h2 (by simp)
  have G0 : w.grownBy ((w.alloc B).alloc R) none := gb_alloc (gb_alloc (gb_refl w none) B) R
  subst hB hR
  go_enter Try.func6, Try.ntmps6
  go_wp2
  refine wp_loop_rounds 3 ?_
  rw [rounds_succ]
  go_wp2_with fail
  refine (num_emp _ _ _ E0).mono ?_
  rintro e w1 ⟨rfl, E1, g1⟩
  have c1 := g1.cell c0 (by simp)
  have G1 : w.grownBy w1 none := gb_trans G0 g1 (fun x e => by cases e; exact Or.inl (by omega))
  clear E0 c0 G0 g1
  go_wp2_with fail
  refine (raw_emp _ _ _ E1).mono ?_
  rintro e w2 ⟨⟨a2, k2, rfl⟩, E2, g2⟩
  have c2 := g2.cell c1 (by simp)
  have G2 : w.grownBy w2 none := gb_trans G1 g2 (fun x e => by cases e; exact Or.inl (by omega))
  clear E1 c1 G1 g2
  go_wp2_with fail
  refine (sized_emp _ _ E2).mono ?_
  rintro e w3 ⟨⟨a3, k3, rfl⟩, E3, g3⟩
  have c3 := g3.cell c2 (by simp)
  have G3 : w.grownBy w3 none := gb_trans G2 g3 (fun x e => by cases e; exact Or.inl (by omega))
  clear E2 c2 G2 g3
  go_wp2_with fail
  refine (rlist_emp _ _ _ E3).mono ?_
  rintro e w4 ⟨⟨a4, k4, rfl⟩, E4, g4⟩
  have c4 := g4.cell c3 (by simp)
  have G4 : w.grownBy w4 none := gb_trans G3 g4 (fun x e => by cases e; exact Or.inl (by omega))
  clear E3 c3 G3 g4
  go_wp2_with fail
  refine (left_emp _ _ E4).mono ?_
  rintro e w5 ⟨rfl, rfl⟩
  clear E4
  have hs4 := G4.size
  have c5 := (World.grownBy_alloc w5 (.cells #[.slice none 0 0, .int .i64 0] 60) none).cell c4 (by simp)
  have G5 := gb_alloc G4 (.cells #[.slice none 0 0, .int .i64 0] 60)
  go_wp2
  rw [rounds_succ]
  go_wp2_with fail
  refine (num_nil _ _).mono ?_
  rintro e w6 ⟨rfl, g6⟩
  have c6 := g6.cell c5 (by simp)
  have G6 : w.grownBy w6 none := gb_trans G5 g6 (fun x e => by cases e)
  clear c4 G4 c5 G5 g6 hs4
  go_wp2_with fail
  refine (raw_nil _ _).mono ?_
  rintro e w7 ⟨rfl, g7⟩
  have c7 := g7.cell c6 (by simp)
  have G7 : w.grownBy w7 none := gb_trans G6 g7 (fun x e => by cases e)
  clear c6 G6 g7
  go_wp2_with fail
  refine (sized_nil _).mono ?_
  rintro e w8 ⟨rfl, g8⟩
  have c8 := g8.cell c7 (by simp)
  have G8 : w.grownBy w8 none := gb_trans G7 g8 (fun x e => by cases e)
  clear c7 G7 g8
  go_wp2_with fail
  refine (rlist_nil _ _).mono ?_
  rintro e w9 ⟨rfl, g9⟩
  have G9 : w.grownBy w9 none := gb_trans G8 g9 (fun x e => by cases e)
  clear c8 G8 g9
  go_wp2_with fail
  refine (left_nil _).mono ?_
  rintro e w10 ⟨rfl, rfl⟩
  go_wp2
  rw [rounds_succ]
  go_wp2_with fail
  refine (one_any _).mono ?_
  rintro e w11 ⟨rfl, g11⟩
  have G11 : w.grownBy w11 none := gb_trans G9 g11 (fun x e => by cases e)
  clear G9 g11
  go_wp2
  go_ret
  exact ⟨rfl, G11⟩

end Go.Proofs.Ytgedgjcdeajgiaa
