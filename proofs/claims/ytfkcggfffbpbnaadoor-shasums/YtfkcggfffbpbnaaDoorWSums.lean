/- ShaSums' walk: whatever the text holds, the call returns true and nothing that was in memory has changed; where the tables hold what they are laid with. -/
import Derived.Test.YtfkcggfffbpbnaaDoorRSum
import Derived.Test.YtfkcggfffbpbnaaDoorSOne
import Derived.Deep.DrawnRows
namespace Go.Proofs.YtfkcggfffbpbnaaDoor
open Go.RowKit
attribute [local go_sem ↓] Go.wp_at_zero Go.wp_at_succ

set_option maxRecDepth 100000 in
set_option maxHeartbeats 2000000 in
theorem sums_short (w : World) (ao : Option Addr) (c : Nat) (b : List UInt8) (hb : Bts w ao c b) (hT : Tabs w) (hb3 : b.length ≤ 3000) :
    Calls Tryd.prog 3 #[.slice ao b.length c] w fun e w' => e = .returned (.bool true) ∧ w.grownBy w' none := by
  obtain ⟨x, hx⟩ : ∃ x, x = b.take 3000 := ⟨_, rfl⟩
  have hxb : Bts w ao c x := by rw [hx]; exact (by rw [List.take_of_length_le hb3]; exact hb)
  have hxl : x.length = b.length := by rw [hx, List.take_of_length_le hb3]
  have q1 : ¬ (3000 : Int) < (b.length : Int) := by omega
  have hx3 : x.length ≤ 3000 := by rw [hx, List.length_take]; omega
  obtain ⟨sl, hsl⟩ : ∃ sl, sl = shaL x := ⟨_, rfl⟩
  have hsl32 : sl.length = 32 := by rw [hsl]; exact shaL_length _
  have heql : ∀ V, (binOp .eql 23 (.agg (sl.map bv).toArray) (.agg (sl.map bv).toArray)).run Tryd.prog V = .ok (.bool true) V := fun V => by rw [eql_sums V sl sl hsl32 hsl32]; simp
  have cs : ∀ V, w.grownBy V none → Calls Tryd.prog 9 #[.slice ao b.length c] V fun e w' => e = .returned (.agg (sl.map bv).toArray) ∧ w.grownBy w' none := by
    intro V gV
    have h := sumf_any V ao c x (hxb.kept gV (fun _ e => by cases e)) (hT.kept0 gV) (by omega)
    rw [← hsl, hxl] at h
    exact h.mono fun e w' ⟨he, hg⟩ => ⟨he, gb_trans gV hg (fun _ e => by cases e)⟩
  have cr : ∀ V, w.grownBy V none → Calls Tryd.prog 10 #[.string (str x)] V fun e w' => e = .returned (.agg (sl.map bv).toArray) ∧ w.grownBy w' none := by
    intro V gV
    have h := rsum_any V x (by omega)
    rw [← hsl] at h
    exact h.mono fun e w' ⟨he, hg⟩ => ⟨he, gb_trans gV hg (fun _ e => by cases e)⟩
  have c1 : ∀ V, w.grownBy V none → Calls Tryd.prog 11 #[] V fun e w' => e = .returned (.bool true) ∧ w.grownBy w' none := by
    intro V gV
    exact (one_any V (hT.kept0 gV)).mono fun e w' ⟨he, hg⟩ => ⟨he, gb_trans gV hg (fun _ e => by cases e)⟩
  have cv : ∀ V, w.grownBy V none → (convert 22 9 (.slice ao b.length c)).run Tryd.prog V = .ok (.string (str x)) V := fun V gV => by
    have := conv_str (hxb.kept gV (fun _ e => by cases e))
    rw [hxl] at this
    exact this
  have hgr := gb_refl w none
  clear hb hT hx hxb hxl hsl hsl32 hx3
  go_enter Tryd.func3, Tryd.ntmps3
  go_wp2
  go_region_held3 (fun V => w.grownBy V none)
    ((with_reducible first | assumption | exact gb_drew (by assumption) | exact gb_alloc (by assumption) _ | exact gb_drew (gb_alloc (by assumption) _) | exact gb_alloc (gb_drew (by assumption)) _))
    (first
      | (go_at_call 9; refine (cs _ ?_).mono ?_; (with_reducible first | assumption | exact gb_drew (by assumption) | exact gb_alloc (by assumption) _ | exact gb_drew (gb_alloc (by assumption) _) | exact gb_alloc (gb_drew (by assumption)) _); rintro e w' ⟨rfl, gg⟩)
      | (go_at_call 10; refine (cr _ ?_).mono ?_; (with_reducible first | assumption | exact gb_drew (by assumption) | exact gb_alloc (by assumption) _ | exact gb_drew (gb_alloc (by assumption) _) | exact gb_alloc (gb_drew (by assumption)) _); rintro e w' ⟨rfl, gg⟩)
      | (go_at_call 11; refine (c1 _ ?_).mono ?_; (with_reducible first | assumption | exact gb_drew (by assumption) | exact gb_alloc (by assumption) _ | exact gb_drew (gb_alloc (by assumption) _) | exact gb_alloc (gb_drew (by assumption)) _); rintro e w' ⟨rfl, gg⟩))
  all_goals go_wp2
  all_goals go_ret
  all_goals exact ⟨rfl, by assumption⟩

set_option maxRecDepth 100000 in
set_option maxHeartbeats 2000000 in
theorem sums_long (w : World) (ao : Option Addr) (c : Nat) (b : List UInt8) (hb : Bts w ao c b) (hT : Tabs w) (hb3 : 3000 < b.length) :
    Calls Tryd.prog 3 #[.slice ao b.length c] w fun e w' => e = .returned (.bool true) ∧ w.grownBy w' none := by
  obtain ⟨x, hx⟩ : ∃ x, x = b.take 3000 := ⟨_, rfl⟩
  have hxb : Bts w ao c x := by rw [hx]; exact hb.take 3000 (by omega)
  have hxl : x.length = 3000 := by rw [hx, List.length_take]; omega
  have hf := hb.fits
  have hto := fun W => slice_to (P := Tryd.prog) W 22 5 Tryd.underlying22 size_byte ao b.length c 3000 (by omega)
  rw [show ((3000 : Nat) : Int) = 3000 from rfl] at hto
  have q1 : (3000 : Int) < (b.length : Int) := by omega
  have hx3 : x.length ≤ 3000 := by rw [hx, List.length_take]; omega
  obtain ⟨sl, hsl⟩ : ∃ sl, sl = shaL x := ⟨_, rfl⟩
  have hsl32 : sl.length = 32 := by rw [hsl]; exact shaL_length _
  have heql : ∀ V, (binOp .eql 23 (.agg (sl.map bv).toArray) (.agg (sl.map bv).toArray)).run Tryd.prog V = .ok (.bool true) V := fun V => by rw [eql_sums V sl sl hsl32 hsl32]; simp
  have cs : ∀ V, w.grownBy V none → Calls Tryd.prog 9 #[.slice ao 3000 c] V fun e w' => e = .returned (.agg (sl.map bv).toArray) ∧ w.grownBy w' none := by
    intro V gV
    have h := sumf_any V ao c x (hxb.kept gV (fun _ e => by cases e)) (hT.kept0 gV) (by omega)
    rw [← hsl, hxl] at h
    exact h.mono fun e w' ⟨he, hg⟩ => ⟨he, gb_trans gV hg (fun _ e => by cases e)⟩
  have cr : ∀ V, w.grownBy V none → Calls Tryd.prog 10 #[.string (str x)] V fun e w' => e = .returned (.agg (sl.map bv).toArray) ∧ w.grownBy w' none := by
    intro V gV
    have h := rsum_any V x (by omega)
    rw [← hsl] at h
    exact h.mono fun e w' ⟨he, hg⟩ => ⟨he, gb_trans gV hg (fun _ e => by cases e)⟩
  have c1 : ∀ V, w.grownBy V none → Calls Tryd.prog 11 #[] V fun e w' => e = .returned (.bool true) ∧ w.grownBy w' none := by
    intro V gV
    exact (one_any V (hT.kept0 gV)).mono fun e w' ⟨he, hg⟩ => ⟨he, gb_trans gV hg (fun _ e => by cases e)⟩
  have cv : ∀ V, w.grownBy V none → (convert 22 9 (.slice ao 3000 c)).run Tryd.prog V = .ok (.string (str x)) V := fun V gV => by
    have := conv_str (hxb.kept gV (fun _ e => by cases e))
    rw [hxl] at this
    exact this
  have hgr := gb_refl w none
  clear hb hT hx hxb hxl hsl hsl32 hx3
  go_enter Tryd.func3, Tryd.ntmps3
  go_wp2
  go_region_held3 (fun V => w.grownBy V none)
    ((with_reducible first | assumption | exact gb_drew (by assumption) | exact gb_alloc (by assumption) _ | exact gb_drew (gb_alloc (by assumption) _) | exact gb_alloc (gb_drew (by assumption)) _))
    (first
      | (go_at_call 9; refine (cs _ ?_).mono ?_; (with_reducible first | assumption | exact gb_drew (by assumption) | exact gb_alloc (by assumption) _ | exact gb_drew (gb_alloc (by assumption) _) | exact gb_alloc (gb_drew (by assumption)) _); rintro e w' ⟨rfl, gg⟩)
      | (go_at_call 10; refine (cr _ ?_).mono ?_; (with_reducible first | assumption | exact gb_drew (by assumption) | exact gb_alloc (by assumption) _ | exact gb_drew (gb_alloc (by assumption) _) | exact gb_alloc (gb_drew (by assumption)) _); rintro e w' ⟨rfl, gg⟩)
      | (go_at_call 11; refine (c1 _ ?_).mono ?_; (with_reducible first | assumption | exact gb_drew (by assumption) | exact gb_alloc (by assumption) _ | exact gb_drew (gb_alloc (by assumption) _) | exact gb_alloc (gb_drew (by assumption)) _); rintro e w' ⟨rfl, gg⟩))
  all_goals go_wp2
  all_goals go_ret
  all_goals exact ⟨rfl, by assumption⟩

theorem shaSums_any (w : World) (ao : Option Addr) (c : Nat) (b : List UInt8) (hb : Bts w ao c b) (hT : Tabs w) :
    Calls Tryd.prog 3 #[.slice ao b.length c] w fun e w' => e = .returned (.bool true) ∧ w.grownBy w' none := by
  by_cases h : b.length ≤ 3000
  · exact sums_short w ao c b hb hT h
  · exact sums_long w ao c b hb hT (by omega)

end Go.Proofs.YtfkcggfffbpbnaaDoor
