/- KdfEquals' walk: whatever the two texts hold, the call returns true and nothing that was in memory has changed; where the tables hold what they are laid with. -/
import Derived.Test.YtfkcggfffbpbnaaDoorKLaw
import Derived.Deep.DrawnRows
namespace Go.Proofs.YtfkcggfffbpbnaaDoor
open Go.RowKit
attribute [local go_sem ↓] Go.wp_at_zero Go.wp_at_succ

theorem kdfEquals_big (w : World) (ao bo : Option Addr) (la lb ca cb : Nat) (h : 5000 < la ∨ 5000 < lb) :
    Calls Tryd.prog 7 #[.slice ao la ca, .slice bo lb cb] w fun e w' => e = .returned (.bool true) ∧ w.grownBy w' none := by
  by_cases h1 : 5000 < la
  · have h2 : (5000 : Int) < (la : Int) := by omega
    go_enter Tryd.func7, Tryd.ntmps7
    go_wp2
    go_ret
    exact ⟨rfl, gb_refl _ _⟩
  · have h2 : ¬ (5000 : Int) < (la : Int) := by omega
    have h3 : (5000 : Int) < (lb : Int) := by omega
    go_enter Tryd.func7, Tryd.ntmps7
    go_wp2
    go_ret
    exact ⟨rfl, gb_refl _ _⟩

set_option maxRecDepth 100000 in
set_option maxHeartbeats 2000000 in
theorem kdfEquals_small (w : World) (ao bo : Option Addr) (ca cb : Nat) (a b : List UInt8) (ha : Bts w ao ca a) (hb : Bts w bo cb b) (hT : Tabs w) (h0 : a.length ≤ 5000) (h2 : b.length ≤ 5000) :
    Calls Tryd.prog 7 #[.slice ao a.length ca, .slice bo b.length cb] w fun e w' => e = .returned (.bool true) ∧ w.grownBy w' none := by
  have h1 : a.length ≤ 1000000 := by omega
  have q1 : ¬ (5000 : Int) < (a.length : Int) := by omega
  have q2 : ¬ (5000 : Int) < (b.length : Int) := by omega
  obtain ⟨dd, hdd⟩ : ∃ dd : List UInt8 → Bool, ∀ y, dd y = decide (a = y) := ⟨_, fun _ => rfl⟩
  obtain ⟨l2, hl2⟩ : ∃ l2, l2 = a ++ [0] := ⟨_, rfl⟩
  have d1 : dd a = true := by rw [hdd]; simp
  have d2 : dd l2 = false := by
    rw [hdd, hl2]
    have : ¬ a = a ++ [0] := fun e => by have := congrArg List.length e; simp at this
    simp [this]
  have dB : ((str a).toList == (str b).toList) = dd b := by rw [str_beq, hdd]
  have ce : ∀ V y yo cy, w.grownBy V none → Bts V yo cy y → Calls Tryd.prog 21 #[.slice ao a.length ca, .slice yo y.length cy] V fun e w' => e = .returned (.bool (dd y)) ∧ w' = V := by
    intro V y yo cy gV hy
    have h := equal_any V ao yo ca cy a y (ha.kept gV (fun _ e => by cases e)) hy
    rw [← hdd] at h
    exact h
  have c1 : ∀ V, w.grownBy V none → Calls Tryd.prog 15 #[] V fun e w' => e = .returned (.bool true) ∧ w.grownBy w' none := by
    intro V gV
    exact (kone_any V (hT.kept0 gV)).mono fun e w' ⟨he, hg⟩ => ⟨he, gb_trans gV hg (fun _ e => by cases e)⟩
  have cva : ∀ V, w.grownBy V none → (convert 22 9 (.slice ao a.length ca)).run Tryd.prog V = .ok (.string (str a)) V := fun V gV => conv_str (ha.kept gV (fun _ e => by cases e))
  have cvb : ∀ V, w.grownBy V none → (convert 22 9 (.slice bo b.length cb)).run Tryd.prog V = .ok (.string (str b)) V := fun V gV => conv_str (hb.kept gV (fun _ e => by cases e))
  have HA := hide ha
  have HB := hide hb
  have HL2 := hide hl2
  have hgr := gb_refl w none
  clear ha hb hT hl2 hdd
  go_enter Tryd.func7, Tryd.ntmps7
  go_wp2
  go_region_held3 (fun V => w.grownBy V none)
    ((with_reducible first | assumption | exact gb_drew (by assumption) | exact gb_alloc (by assumption) _ | exact gb_drew (gb_alloc (by assumption) _) | exact gb_alloc (gb_drew (by assumption)) _ | exact gb_drew (gb_alloc (gb_drew (by assumption)) _) | exact gb_alloc (gb_drew (gb_alloc (by assumption) _)) _ | exact gb_drew (gb_alloc (gb_drew (gb_alloc (by assumption) _)) _) | exact gb_alloc (gb_alloc (by assumption) _) _ | exact gb_drew (gb_alloc (gb_alloc (by assumption) _) _)))
    (first
      | (go_at_call 21; refine (ce _ _ _ _ ?_ ?_).mono ?_; (with_reducible first | assumption | exact gb_drew (by assumption) | exact gb_alloc (by assumption) _ | exact gb_drew (gb_alloc (by assumption) _) | exact gb_alloc (gb_drew (by assumption)) _ | exact gb_drew (gb_alloc (gb_drew (by assumption)) _) | exact gb_alloc (gb_drew (gb_alloc (by assumption) _)) _ | exact gb_drew (gb_alloc (gb_drew (gb_alloc (by assumption) _)) _) | exact gb_alloc (gb_alloc (by assumption) _) _ | exact gb_drew (gb_alloc (gb_alloc (by assumption) _) _)); (first | assumption | (exact (unhide HB).kept (by with_reducible first | assumption | exact gb_drew (by assumption) | exact gb_alloc (by assumption) _ | exact gb_drew (gb_alloc (by assumption) _) | exact gb_alloc (gb_drew (by assumption)) _ | exact gb_drew (gb_alloc (gb_drew (by assumption)) _) | exact gb_alloc (gb_drew (gb_alloc (by assumption) _)) _ | exact gb_drew (gb_alloc (gb_drew (gb_alloc (by assumption) _)) _) | exact gb_alloc (gb_alloc (by assumption) _) _ | exact gb_drew (gb_alloc (gb_alloc (by assumption) _) _)) (fun _ e => by cases e))); rintro e w' ⟨rfl, rfl⟩)
      | (go_at_call 15; refine (c1 _ ?_).mono ?_; (with_reducible first | assumption | exact gb_drew (by assumption) | exact gb_alloc (by assumption) _ | exact gb_drew (gb_alloc (by assumption) _) | exact gb_alloc (gb_drew (by assumption)) _ | exact gb_drew (gb_alloc (gb_drew (by assumption)) _) | exact gb_alloc (gb_drew (gb_alloc (by assumption) _)) _ | exact gb_drew (gb_alloc (gb_drew (gb_alloc (by assumption) _)) _) | exact gb_alloc (gb_alloc (by assumption) _) _ | exact gb_drew (gb_alloc (gb_alloc (by assumption) _) _)); rintro e w' ⟨rfl, gg⟩)
      | (refine step_app_a ?_ ?_ ?_ rfl _ _ rfl rfl ao ca a (unhide HA) rfl h1 ?_; (with_reducible first | assumption | exact gb_drew (by assumption) | exact gb_alloc (by assumption) _ | exact gb_drew (gb_alloc (by assumption) _) | exact gb_alloc (gb_drew (by assumption)) _ | exact gb_drew (gb_alloc (gb_drew (by assumption)) _) | exact gb_alloc (gb_drew (gb_alloc (by assumption) _)) _ | exact gb_drew (gb_alloc (gb_drew (gb_alloc (by assumption) _)) _) | exact gb_alloc (gb_alloc (by assumption) _) _ | exact gb_drew (gb_alloc (gb_alloc (by assumption) _) _)); (focus (repeat (first | (with_reducible exact Blk.new _ _ _) | (with_reducible apply Blk.drew) | ((with_reducible refine Blk.newAt ?_); (simp; done)) | (with_reducible apply Blk.alloc) | ((with_reducible apply Kp.use'); (assumption); (focus (first | trivial | (simp; done) | (simp; omega) | decide)))))); (first | omega | (simp; omega)); intro lo c5 w1 hb1 o1 k1 g1 z1)
      | (refine step_app_b (w := w) ?_ ?_ ?_ rfl _ _ rfl rfl rfl h1 l2 (unhide HL2) ?_; (with_reducible first | assumption | exact gb_drew (by assumption) | exact gb_alloc (by assumption) _ | exact gb_drew (gb_alloc (by assumption) _) | exact gb_alloc (gb_drew (by assumption)) _ | exact gb_drew (gb_alloc (gb_drew (by assumption)) _) | exact gb_alloc (gb_drew (gb_alloc (by assumption) _)) _ | exact gb_drew (gb_alloc (gb_drew (gb_alloc (by assumption) _)) _) | exact gb_alloc (gb_alloc (by assumption) _) _ | exact gb_drew (gb_alloc (gb_alloc (by assumption) _) _)); (focus (repeat (with_reducible first | assumption | apply World.ownsRow.drew | apply World.ownsRow.alloc))); (focus (repeat (first | (with_reducible exact Blk.new _ _ _) | (with_reducible apply Blk.drew) | ((with_reducible refine Blk.newAt ?_); (simp; done)) | (with_reducible apply Blk.alloc) | ((with_reducible apply Kp.use'); (assumption); (focus (first | trivial | (simp; done) | (simp; omega) | decide)))))); intro lo2 c2 w1 hb2 k2 g2 z2))
  all_goals go_wp2
  all_goals go_ret
  all_goals exact ⟨rfl, by assumption⟩

theorem kdfEquals_any (w : World) (ao : Option Addr) (ca : Nat) (a : List UInt8) (ha : Bts w ao ca a) (bo : Option Addr) (cb : Nat) (b : List UInt8) (hb : Bts w bo cb b) (hT : Tabs w) :
    Calls Tryd.prog 7 #[.slice ao a.length ca, .slice bo b.length cb] w fun e w' => e = .returned (.bool true) ∧ w.grownBy w' none := by
  by_cases h : a.length ≤ 5000 ∧ b.length ≤ 5000
  · exact kdfEquals_small w ao bo ca cb a b ha hb hT h.1 h.2
  · exact kdfEquals_big w ao bo _ _ ca cb (by omega)

end Go.Proofs.YtfkcggfffbpbnaaDoor
