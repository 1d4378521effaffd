/- ShaOf's walk: whatever the three texts hold, the call returns true and nothing that was in memory has changed; where the tables hold what they are laid with. -/
import Derived.Test.YtlonnnainkbegaaDoorSOne
namespace Go.Proofs.YtlonnnainkbegaaDoor
open Go.RowKit

theorem of_none (w : World) (hT : Tabs w) : Calls Tryd.prog 14 #[.slice none 0 0] w fun e w' => e = .returned (.agg ((shaL []).map bv).toArray) ∧ w.grownBy w' none := by
  have hL : Lst w none 0 [] := ⟨fun _ => ⟨rfl, rfl⟩, Nat.le_refl _, Nat.zero_le _, (fun _ h => by cases h), (fun _ h => by cases h)⟩
  exact of_any w none 0 [] hL hT (by simp)
theorem sumf_none (w : World) (hT : Tabs w) : Calls Tryd.prog 7 #[.slice none 0 0] w fun e w' => e = .returned (.agg ((shaL []).map bv).toArray) ∧ w.grownBy w' none :=
  sumf_any w none 0 [] (Bts.nil w) hT (by simp)

theorem lst_three {W1 : World} {ao bo co : Option Addr} {ca cb cc : Nat} {a b c : List UInt8} (ha : Bts W1 ao ca a) (hb : Bts W1 bo cb b) (hc : Bts W1 co cc c) (N : Nat) {t : TypeId} (hB : Blk W1 N t [.slice ao a.length ca, .slice bo b.length cb, .slice co c.length cc]) :
    Lst W1 (some ⟨N, 0, none⟩) 3 [a, b, c] := by
  refine ⟨(fun e => by cases e), by simp, by unfold maxLen; omega, (fun ad e _ => by cases e; rfl), (fun ad e i hi => ?_)⟩
  cases e
  match i, hi with
  | 0, _ => exact ⟨ao, ca, hB.cell 0, ha⟩
  | 1, _ => exact ⟨bo, cb, hB.cell 1, hb⟩
  | 2, _ => exact ⟨co, cc, hB.cell 2, hc⟩

theorem shaOf_big (w : World) (ao bo co : Option Addr) (la lb lc ca cb cc : Nat) (hla : la ≤ 140737488355328) (hlb : lb ≤ 140737488355328) (h : 4000 < la + lb ∨ 2000 < lc) :
    Calls Tryd.prog 5 #[.slice ao la ca, .slice bo lb cb, .slice co lc cc] w fun e w' => e = .returned (.bool true) ∧ w.grownBy w' none := by
  by_cases h1 : 4000 < la + lb
  · have h2 : (4000 : Int) < (la : Int) + (lb : Int) := by omega
    go_enter Tryd.func5, Tryd.ntmps5
    go_wp2
    go_ret
    exact ⟨rfl, gb_refl _ _⟩
  · have h2 : ¬ (4000 : Int) < (la : Int) + (lb : Int) := by omega
    have h3 : (2000 : Int) < (lc : Int) := by omega
    go_enter Tryd.func5, Tryd.ntmps5
    go_wp2
    go_ret
    exact ⟨rfl, gb_refl _ _⟩

set_option maxRecDepth 100000 in
set_option maxHeartbeats 1000000 in
theorem shaOf_small (w : World) (ao bo co : Option Addr) (ca cb cc : Nat) (a b c : List UInt8) (ha : Bts w ao ca a) (hb : Bts w bo cb b) (hc : Bts w co cc c) (hT : Tabs w) (h1 : a.length + b.length ≤ 4000) (h2 : c.length ≤ 2000) :
    Calls Tryd.prog 5 #[.slice ao a.length ca, .slice bo b.length cb, .slice co c.length cc] w fun e w' => e = .returned (.bool true) ∧ w.grownBy w' none := by
  have q1 : ¬ (4000 : Int) < (a.length : Int) + (b.length : Int) := by omega
  have q2 : ¬ (2000 : Int) < (c.length : Int) := by omega
  obtain ⟨W1, hW1⟩ : ∃ W1, W1 = w.alloc (.cells #[.slice ao a.length ca, .slice bo b.length cb, .slice co c.length cc] 22) := ⟨_, rfl⟩
  have hg1 : w.grownBy W1 none := by rw [hW1]; exact gb_alloc (gb_refl _ _) _
  have hB1 : Blk W1 w.heap.size 22 [.slice ao a.length ca, .slice bo b.length cb, .slice co c.length cc] := by rw [hW1]; exact Blk.new w _ _
  have hK : ∀ {V : World} {x : List UInt8} {xo : Option Addr} {xc : Nat}, Bts w xo xc x → w.grownBy V none → Bts V xo xc x := fun h g => h.kept g (fun _ e => by cases e)
  have hof := of_any W1 _ 3 [a, b, c] (lst_three (hK ha hg1) (hK hb hg1) (hK hc hg1) w.heap.size hB1) (hT.kept0 hg1) (by simp; omega)
  rw [show [a, b, c].flatten = a ++ b ++ c by simp, show [a, b, c].length = 3 from rfl] at hof
  obtain ⟨sl, hsl⟩ : ∃ sl, sl = shaL (a ++ b ++ c) := ⟨_, rfl⟩
  rw [← hsl] at hof
  have hl32 : sl.length = 32 := by rw [hsl]; exact shaL_length _
  have heq : ∀ V, (binOp .eql 23 (.agg (sl.map bv).toArray) (.agg (sl.map bv).toArray)).run Tryd.prog V = .ok (.bool true) V := fun V => by rw [eql_sums V sl sl hl32 hl32]; simp
  obtain ⟨s0, hs0⟩ : ∃ s0, s0 = shaL [] := ⟨_, rfl⟩
  have h032 : s0.length = 32 := by rw [hs0]; exact shaL_length _
  have heq0 : ∀ V, (binOp .eql 23 (.agg (s0.map bv).toArray) (.agg (s0.map bv).toArray)).run Tryd.prog V = .ok (.bool true) V := fun V => by rw [eql_sums V s0 s0 h032 h032]; simp
  have HW1 := hide hW1
  have HSL := hide hsl
  have HS0 := hide hs0
  have HA := hide ha
  have HB := hide hb
  have HC := hide hc
  have HT := hide hT
  clear hW1 hsl hs0 hl32 h032 hB1 ha hb hc hT
  go_enter Tryd.func5, Tryd.ntmps5
  go_wp2_with fail
  rw [← unhide HW1]
  refine hof.mono ?_
  rintro e w2 ⟨rfl, g2⟩
  have G2 : w.grownBy w2 none := gb_trans hg1 g2 (fun _ e => by cases e)
  have hba : Bts (w2.alloc (.cells #[] 5)) ao ca a := hK (unhide HA) (gb_alloc G2 _)
  have o1 : (w2.alloc (.cells #[] 5)).ownsRow w2.heap.size 5 1 (.slice (some ⟨w2.heap.size, 0, none⟩) 0 0) 0 [] := World.ownsRow_made w2 #[] 0 (Nat.le_refl _) (by unfold maxLen; omega) rfl
  clear hof g2 hg1
  go_wp2_with (at_builtin; refine wpList_append_bts rfl _ _ rfl w2.heap.size _ 0 [] rfl o1 ao ca a hba rfl ?n1 ?s1 ?_)
  case n1 => omega
  case s1 => simp
  intro v3 w3 o3 q3
  have hsz2 := G2.size
  have G3 : w.grownBy w3 none := gb_trans (gb_alloc G2 _) q3 (fun x e => Or.inl (by have := (o1.lt x e).1; omega))
  have hs3 : w2.heap.size ≤ w3.heap.size := Nat.le_trans (by simp) q3.size
  have hb3 : Bts w3 bo cb b := hK (unhide HB) G3
  clear o1 hba q3 G2
  go_wp2_with (at_builtin; refine wpList_append_bts rfl _ _ rfl w2.heap.size _ _ _ rfl o3 bo cb b hb3 rfl ?n1 ?s1 ?_)
  case n1 => omega
  case s1 => exact hs3
  intro v4 w4 o4 q4
  have G4 : w.grownBy w4 none := gb_trans G3 q4 (fun x e => Or.inl (by have := (o3.lt x e).1; omega))
  have hs4 : w2.heap.size ≤ w4.heap.size := Nat.le_trans hs3 q4.size
  have hb4 : Bts w4 co cc c := hK (unhide HC) G4
  clear o3 hb3 q4 G3 hs3
  go_wp2_with (at_builtin; refine wpList_append_bts rfl _ _ rfl w2.heap.size _ _ _ rfl o4 co cc c hb4 rfl ?n1 ?s1 ?_)
  case n1 => omega
  case s1 => exact hs4
  intro v5 w5 o5 q5
  have G5 : w.grownBy w5 none := gb_trans G4 q5 (fun x e => Or.inl (by have := (o4.lt x e).1; omega))
  clear o4 hb4 q5 G4 hs4
  obtain ⟨l, hl⟩ : ∃ l, l = a ++ b ++ c := ⟨_, rfl⟩
  have hll : l.length ≤ 6000 := by rw [hl]; simp; omega
  have o6 : w5.ownsRow w2.heap.size 5 1 v5 l.length (l.map bv) := by rw [hl]; simpa [Nat.add_assoc] using o5
  obtain ⟨lo, c5, rfl, hb5, _⟩ := NewB.own o6
  have hsum := sumf_any w5 lo c5 l hb5 ((unhide HT).kept0 G5) (by omega)
  rw [hl, ← unhide HSL, ← hl] at hsum
  clear o5 o6 hb5 hl hll
  go_wp2_with fail
  refine hsum.mono ?_
  rintro e w6 ⟨rfl, g6⟩
  have G6 : w.grownBy w6 none := gb_trans G5 g6 (fun _ e => by cases e)
  clear hsum g6 G5
  have h7 := of_none w6 ((unhide HT).kept0 G6)
  rw [← unhide HS0] at h7
  go_wp2_with fail
  refine h7.mono ?_
  rintro e w7 ⟨rfl, g7⟩
  have G7 : w.grownBy w7 none := gb_trans G6 g7 (fun _ e => by cases e)
  clear h7 g7 G6
  have h8 := sumf_none w7 ((unhide HT).kept0 G7)
  rw [← unhide HS0] at h8
  go_wp2_with fail
  refine h8.mono ?_
  rintro e w8 ⟨rfl, g8⟩
  have G8 : w.grownBy w8 none := gb_trans G7 g8 (fun _ e => by cases e)
  clear h8 g8 G7
  have h9 := one_any w8 ((unhide HT).kept0 G8)
  go_wp2_with fail
  refine h9.mono ?_
  rintro e w9 ⟨rfl, g9⟩
  have G9 : w.grownBy w9 none := gb_trans G8 g9 (fun _ e => by cases e)
  clear h9 g9 G8
  go_wp2
  go_ret
  exact ⟨rfl, G9⟩

theorem shaOf_any (w : World) (ao bo co : Option Addr) (ca cb cc : Nat) (a b c : List UInt8) (ha : Bts w ao ca a) (hb : Bts w bo cb b) (hc : Bts w co cc c) (hT : Tabs w) (hla : a.length ≤ 140737488355328) (hlb : b.length ≤ 140737488355328) :
    Calls Tryd.prog 5 #[.slice ao a.length ca, .slice bo b.length cb, .slice co c.length cc] w fun e w' => e = .returned (.bool true) ∧ w.grownBy w' none := by
  by_cases h : a.length + b.length ≤ 4000 ∧ c.length ≤ 2000
  · exact shaOf_small w ao bo co ca cb cc a b c ha hb hc hT h.1 h.2
  · exact shaOf_big w ao bo co _ _ _ ca cb cc hla hlb (by omega)

end Go.Proofs.YtlonnnainkbegaaDoor
