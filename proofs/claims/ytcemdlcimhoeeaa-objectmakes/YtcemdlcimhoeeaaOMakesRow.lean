/- ObjectMakes answers true of every entries, commit and note, and never panics: they make the document's objects, or tell its errors. No condition. -/
import Derived.Test.YtcemdlcimhoeeaaWOMakes
import Derived.Test.YtcemdlcimhoeeaaMArb
import Derived.Test.YtcemdlcimhoeeaaMEnto
import Derived.ProofKit
import Derived.OpenShut
import Derived.ChangeMaps5
import Derived.SizedLaws
import Derived.Lib.Strings
namespace Go.Proofs.Ytcemdlcimhoeeaa
open Go.ChangeShapes Go.WideShapes Go.ChangeAt Go.RowKit

set_option maxRecDepth 100000 in
theorem objectMakes_lifted (os : Os) (started : os.Started) (H : Type) (enc : TypeId × Value → H) :
    ReturnsInHanded {} Try.checked os 3 .any (Rows.objectMakesSpec.pre6 enc Try.prog Try.f3 Rows.objectMakesRow.domain false) (Rows.objectMakesSpec.post enc Try.prog Try.f3 false true false false) := by
  refine returnsInHanded_of_change_sized (C := Try.checked) own_knob started (by kernel_rfl) Try.func3
    (ChangeSpec.witness6 (enc := enc) (C := Try.checked) false ⟨#[], #[.slice none 0 0, .agg #[.int .u8 0, .int .u8 0, .int .u8 0, .int .u8 0, .int .u8 0, .int .u8 0, .int .u8 0, .int .u8 0, .int .u8 0, .int .u8 0, .int .u8 0, .int .u8 0, .int .u8 0, .int .u8 0, .int .u8 0, .int .u8 0, .int .u8 0, .int .u8 0, .int .u8 0, .int .u8 0, .int .u8 0, .int .u8 0, .int .u8 0, .int .u8 0, .int .u8 0, .int .u8 0, .int .u8 0, .int .u8 0, .int .u8 0, .int .u8 0, .int .u8 0, .int .u8 0, .slice none 0 0, .int .u64 0, .string ⟨#[]⟩, .string ⟨#[]⟩], .agg #[.int .u8 0, .int .u8 0, .int .u8 0, .int .u8 0, .int .u8 0, .int .u8 0, .int .u8 0, .int .u8 0, .int .u8 0, .int .u8 0, .int .u8 0, .int .u8 0, .int .u8 0, .int .u8 0, .int .u8 0, .int .u8 0, .int .u8 0, .int .u8 0, .int .u8 0, .int .u8 0, .int .u8 0, .int .u8 0, .int .u8 0, .int .u8 0, .int .u8 0, .int .u8 0, .int .u8 0, .int .u8 0, .int .u8 0, .int .u8 0, .int .u8 0, .int .u8 0, .string ⟨#[]⟩, .string ⟨#[]⟩]], []⟩ 8 (by kernel_rfl) (by kernel_rfl) (by kernel_rfl) (by kernel_rfl)) ?_
  intro W base args ds gs before hval0 hW _ hz _
  have hval : ∀ (j : Nat) t v, Try.f3.params[j]? = some t → args[j]? = some v → Value.okWide Try.prog W .any base t v := hval0
  have hW' := hW
  obtain ⟨p, q, hA0, hV, rfl, hfz, hnd⟩ := hW
  have hA : DataW.TrodAll enc Try.prog W 0 (fun _ => true) true Try.f3.params.toList args.toList ds p := hA0
  rw [Try.params3] at hA hval hz
  obtain ⟨v0, vs0, d0, ds0, p0, q0, hargs, rfl, rfl, h0, r0⟩ := trodAll_cons hA
  obtain ⟨v1, vs1, d1, ds1, p1, q1, rfl, rfl, rfl, h1, r1⟩ := trodAll_cons r0
  obtain ⟨v2, vs2, d2, ds2, p2, q2, rfl, rfl, rfl, h2, r2⟩ := trodAll_cons r1
  obtain ⟨rfl, rfl, rfl⟩ := trodAll_nil r2
  obtain rfl : args = #[v0, v1, v2] := by cases args; simp_all
  obtain ⟨rfl, rfl⟩ := trodVars_none hV
  obtain ⟨a0, len0, cap0, rfl⟩ := okWide_slice Try.underlying22 (hval 0 22 v0 rfl rfl)
  have k0 := h0
  have lt0 : ∀ x ∈ p0, x.block < W.heap.size := by obtain ⟨m, hm⟩ := k0; exact DataW.trod_lt m _ _ _ hm
  have k1 := h1
  have lt1 : ∀ x ∈ p1, x.block < W.heap.size := by obtain ⟨m, hm⟩ := k1; exact DataW.trod_lt m _ _ _ hm
  have k2 := h2
  have lt2 : ∀ x ∈ p2, x.block < W.heap.size := by obtain ⟨m, hm⟩ := k2; exact DataW.trod_lt m _ _ _ hm
  obtain ⟨l0, hl0, hb0, hn0⟩ := ents_open h0
  obtain ⟨l1, a1, c1, rfl, hb1, ht1, hu1, hn1, hm1⟩ := chg_open (hval 1 28 v1 rfl rfl) h1
  obtain ⟨l2, rfl, ht2, hn2, hm2⟩ := mrk_open (hval 2 30 v2 rfl rfl) h2
  have z0 : ∀ e ∈ l0, e.name.length ≤ 140737488355328 := fun e he => Nat.le_of_lt (Nat.lt_of_le_of_lt (of_decide_eq_true (List.all_eq_true.1 hz _ (DataW.weights_mem_each (j := 0) rfl rfl _ (hn0 e he)))) reachBytes_lt)
  have z1 : l1.author.length ≤ 140737488355328 := Nat.le_of_lt (Nat.lt_of_le_of_lt (of_decide_eq_true (List.all_eq_true.1 hz _ (DataW.weights_mem_each (j := 1) rfl rfl _ (hn1)))) reachBytes_lt)
  have y1 : l1.text.length ≤ 140737488355328 := Nat.le_of_lt (Nat.lt_of_le_of_lt (of_decide_eq_true (List.all_eq_true.1 hz _ (DataW.weights_mem_each (j := 1) rfl rfl _ (hm1)))) reachBytes_lt)
  have z2 : l2.name.length ≤ 140737488355328 := Nat.le_of_lt (Nat.lt_of_le_of_lt (of_decide_eq_true (List.all_eq_true.1 hz _ (DataW.weights_mem_each (j := 2) rfl rfl _ (hn2)))) reachBytes_lt)
  have y2 : l2.text.length ≤ 140737488355328 := Nat.le_of_lt (Nat.lt_of_le_of_lt (of_decide_eq_true (List.all_eq_true.1 hz _ (DataW.weights_mem_each (j := 2) rfl rfl _ (hm2)))) reachBytes_lt)
  clear hA0 hval0
  have walk := makes_law W a0 cap0 l0 hb0 z0 l1 a1 c1 hb1 ht1 hu1 z1 y1 l2 ht2 z2 y2
  rw [hl0] at walk
  refine walk.mono fun e W' ⟨he, hg⟩ => ?_
  subst he
  have bel := gb_below hg
  exact ⟨_, rfl, _, _, _, [], _, [], hW', trodAll_mk1 (shut_bool Try.underlying4 _), (trodAll_cons_mk (Below.trod laid_out (by kernel_rfl) (of_decide_eq_true (by kernel_rfl)) k0 bel lt0) (trodAll_cons_mk (Below.trod laid_out (by kernel_rfl) (of_decide_eq_true (by kernel_rfl)) k1 bel lt1) (trodAll_cons_mk (Below.trod laid_out (by kernel_rfl) (of_decide_eq_true (by kernel_rfl)) k2 bel lt2) trodAll_mk0))), rfl, bel.frame _, fun h => by cases h⟩

theorem objectMakes_holds : Rows.ObjectMakesSaid :=
  OpenClaim.holds_of_wide 3 Try.f3 rfl rfl rfl rfl rfl rfl rfl ⟨rfl, rfl, rfl, rfl, rfl⟩ rfl rfl rfl rfl rfl (by kernel_rfl) Try.func3 (by kernel_rfl)
    (of_decide_eq_true (by kernel_rfl)) (by unfold Func.isWrapper; first | (rw [if_pos (by decide +kernel)]; kernel_rfl) | (rw [if_neg (by decide +kernel)]; exact ⟨rfl, rfl⟩))
    (fun os started H enc _ => objectMakes_lifted os started H enc)

end Go.Proofs.Ytcemdlcimhoeeaa
