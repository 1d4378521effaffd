/- What the document's answer for layer 5 reckons with digits: less, Times (package coffretref05). Of numbers of at most 400 digits, and of 100. -/
import Derived.Test.YtagdileacidnjaaPRefB
import Derived.Deep.DrawnRows
namespace Go.Proofs.Ytagdileacidnjaa
open Go.RowKit

attribute [local go_sem ↓] Go.wp_at_zero Go.wp_at_succ

set_option maxRecDepth 100000 in
set_option maxHeartbeats 1000000 in
theorem less_any (w : World) (ao : Option Addr) (ca : Nat) (a : List Nat) (ha : Ints w ao ca a) (da : ∀ d ∈ a, d < 256) (bo : Option Addr) (cb : Nat) (b : List Nat) (hb : Ints w bo cb b) (db : ∀ d ∈ b, d < 256) (la : a.length ≤ 400) (hle : valN b ≤ valN a) (hbl : b.length ≤ a.length) :
    Calls Try.prog 27 #[.slice ao a.length ca, .slice bo b.length cb] w fun e w' => ∃ v, e = .returned v ∧ NumV w w' v (valN a - valN b) a.length ∧ w.grownBy w' none := by
  obtain ⟨i0, hi, hz0, hz1, hz2⟩ := info_parts info_int
  obtain ⟨p, hp⟩ : ∃ p, p = a.length := ⟨_, rfl⟩
  obtain ⟨q, hq⟩ : ∃ q, q = b.length := ⟨_, rfl⟩
  have hdg := fun V (g : w.grownBy V none) i => digit_any V ao ca a (ha.kept g) i
  have hdh := fun V (g : w.grownBy V none) i => digit_any V bo cb b (hb.kept g) i
  have hpa := preN_all a p (by omega)
  have hpb := preN_all b p (by omega)
  rw [← hp] at hdg la
  rw [← hq] at hdh
  rw [← hp, ← hq]
  have HDA := hide da
  have HDB := hide db
  have HLE := hide hle
  have HPA := hide hpa
  have HPB := hide hpb
  clear hp hq ha hb da db hle hbl hpa hpb
  go_enter Try.func27, Try.ntmps27
  go_wp2
  go_loopw [5, 6, 7] (fun ov cv iv' wr => ∃ (i c : Nat) (o : List Nat), i ≤ p ∧ iv' = .int .i64 i ∧ cv = .int .i64 c ∧ o.length = i ∧ wr.ownsRow w.heap.size 3 1 ov i (o.map iv) ∧ valN o + preN b i = preN a i + 256 ^ i * c ∧ (∀ d ∈ o, d < 256) ∧ c ≤ 1 ∧ w.grownBy wr none) (fun _ _ iv' _ => p - (intOf iv').toNat)
  case atStart => exact ⟨0, 0, [], Nat.zero_le _, rfl, rfl, rfl, World.ownsRow_nil _ _ _ _, by simp [valN, preN_zero], (fun _ h => by cases h), by omega, gb_refl _ _⟩
  case round =>
    obtain ⟨i, c, o, him, rfl, rfl, ho, hown, hval, hlt, hc, hg⟩ := hrel
    have hgs := hg.size
    by_cases hgo : i < p
    · have c1 : (i : Int) < (p : Int) := by omega
      have hda := hdg wr hg i
      have hdb := hdh wr hg i
      have l1 := getD_lt (unhide HDA) i
      have l2 := getD_lt (unhide HDB) i
      obtain ⟨x, hx⟩ : ∃ x, x = a.getD i 0 := ⟨_, rfl⟩
      obtain ⟨y, hy⟩ : ∃ y, y = b.getD i 0 := ⟨_, rfl⟩
      rw [← hx] at hda l1
      rw [← hy] at hdb l2
      by_cases hn : y + c ≤ x
      · have q1 : ¬ ((x : Int) - (y : Int)) - (c : Int) < 0 := by omega
        obtain ⟨d, hd⟩ : ∃ d : Nat, (d : Int) = (x : Int) - (y : Int) - (c : Int) := ⟨x - y - c, by omega⟩
        have q3 : (x : Int) - (y : Int) - (c : Int) = (d : Int) := hd.symm
        have hd0 : ¬ (d : Int) < 0 := by omega
        have hd2 : d < 256 := by omega
        have hstep := less_step o a b i c d 0 ho hval (by rw [← hx, ← hy]; omega)
        have HST := hide hstep
        have HOWN := hide hown
        have HO := hide ho
        have HLT := hide hlt
        clear hd hstep hown ho hval hlt hx hy q1
        go_wp2_with fail
        refine hda.mono ?_
        rintro e _ ⟨rfl, rfl⟩
        clear hda
        go_wp2_with fail
        refine hdb.mono ?_
        rintro e w3 ⟨rfl, rfl⟩
        clear hdb
        go_wp2_with (at_builtin; refine wpList_append_own _ rfl _ _ 44 rfl w.heap.size 3 i0 (.int .i64 0) 1 8 Try.underlying44 hi hz0 hz1 hz2 rfl (by decide) _ _ _ rfl ((unhide HOWN).alloc _) ⟨w3.heap.size, 0, none⟩ 1 1 [.int .i64 (d : Int)] rfl rfl (fun t0 y0 h0 => by match t0, h0 with | 0, h0 => simp at h0; subst h0; simp [Addr.add]) (fun y0 h0 => by simp at h0; subst h0; rfl) (by unfold maxLen; omega) (by omega) (by first | omega | (simp; omega)) ?_)
        intro v4 w4 o4 g4 _
        have hg4 : w.grownBy w4 none := gb_trans (gb_alloc hg _) g4 (fun y e => Or.inl ((unhide HOWN).lt y e).1)
        clear g4
        go_wp2
        go_roundw
        case rel =>
          refine ⟨i + 1, 0, o ++ [d], by omega, by go_num, rfl, by rw [List.length_append, unhide HO]; rfl, by rw [List.map_append]; exact o4, unhide HST, ?_, by omega, hg4⟩
          intro z hz
          rcases List.mem_append.1 hz with hz | hz
          · exact unhide HLT z hz
          · rw [List.mem_singleton] at hz; omega
        case measure => simp [intOf]; omega
      · have q1 : ((x : Int) - (y : Int)) - (c : Int) < 0 := by omega
        obtain ⟨d, hd⟩ : ∃ d : Nat, (d : Int) = (x : Int) - (y : Int) - (c : Int) + 256 := ⟨(x + 256) - y - c, by omega⟩
        have q2 : IntKind.i64.wrap ((x : Int) - (y : Int) - (c : Int) + 256) = (d : Int) := by rw [IntKind.wrap_i64]; omega
        have q3 : (x : Int) - (y : Int) - (c : Int) + 256 = (d : Int) := hd.symm
        have hd2 : d < 256 := by omega
        have hstep := less_step o a b i c d 1 ho hval (by rw [← hx, ← hy]; omega)
        have HST := hide hstep
        have HOWN := hide hown
        have HO := hide ho
        have HLT := hide hlt
        clear hd hstep hown ho hval hlt hx hy
        go_wp2_with fail
        refine hda.mono ?_
        rintro e _ ⟨rfl, rfl⟩
        clear hda
        go_wp2_with fail
        refine hdb.mono ?_
        rintro e w3 ⟨rfl, rfl⟩
        clear hdb
        go_wp2_with (at_builtin; refine wpList_append_own _ rfl _ _ 44 rfl w.heap.size 3 i0 (.int .i64 0) 1 8 Try.underlying44 hi hz0 hz1 hz2 rfl (by decide) _ _ _ rfl ((unhide HOWN).alloc _) ⟨w3.heap.size, 0, none⟩ 1 1 [.int .i64 (d : Int)] rfl rfl (fun t0 y0 h0 => by match t0, h0 with | 0, h0 => simp at h0; subst h0; simp [Addr.add]) (fun y0 h0 => by simp at h0; subst h0; rfl) (by unfold maxLen; omega) (by omega) (by first | omega | (simp; omega)) ?_)
        intro v4 w4 o4 g4 _
        have hg4 : w.grownBy w4 none := gb_trans (gb_alloc hg _) g4 (fun y e => Or.inl ((unhide HOWN).lt y e).1)
        clear g4
        go_wp2
        go_roundw
        case rel =>
          refine ⟨i + 1, 1, o ++ [d], by omega, by go_num, rfl, by rw [List.length_append, unhide HO]; rfl, by rw [List.map_append]; exact o4, unhide HST, ?_, by omega, hg4⟩
          intro z hz
          rcases List.mem_append.1 hz with hz | hz
          · exact unhide HLT z hz
          · rw [List.mem_singleton] at hz; omega
        case measure => simp [intOf]; omega
    · have c1 : ¬ (i : Int) < (p : Int) := by omega
      obtain rfl : i = p := by omega
      rw [unhide HPA, unhide HPB] at hval
      have h1 := valN_lt o hlt
      rw [ho] at h1
      have hle := unhide HLE
      have hc0 : c = 0 := by
        rcases Nat.lt_or_ge 0 c with h | h
        · obtain rfl : c = 1 := by omega
          omega
        · omega
      subst hc0
      have hN : NumV w wr u5 (valN a - valN b) i := ⟨o, by rw [ho]; exact hown, by omega, hlt, by omega⟩
      have HN := hide hN
      clear hown hval hlt hdg hdh hN h1 hle
      go_wp2
      go_ret
      exact ⟨_, rfl, unhide HN, hg⟩

end Go.Proofs.Ytagdileacidnjaa
