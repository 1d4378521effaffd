/- WireLays answers true of any bytes and number where there are texts, and nothing that was in memory has changed. -/
import Derived.Test.YtgedgjcdeajgiaaWLaysA
import Derived.Deep.RegionWith
import Derived.Deep.DrawnRows
namespace Go.Proofs.Ytgedgjcdeajgiaa
open Go.RowKit
attribute [local go_sem ↓] Go.wp_at_zero Go.wp_at_succ

set_option maxRecDepth 100000 in
set_option maxHeartbeats 2000000 in
theorem lays_some (w : World) (ao bo : Option Addr) (c d v : Nat) (b : List UInt8) (L : List (List UInt8)) (hv : v < 18446744073709551616) (hb : Bts w ao c b) (hL : Lst w bo d L) (hL0 : 0 < L.length) :
    Calls Try.prog 3 #[.slice ao b.length c, .slice bo L.length d, .int .u64 v] w fun e w' => e = .returned (.bool true) ∧ w.grownBy w' none := by
  have hmost := hb.most
  have hfit := hb.fits
  have hmostL := hL.most
  have hfitL := hL.fits
  unfold maxLen at hmost hmostL
  by_cases h2000 : 2000 < b.length
  · go_enter Try.func3, Try.ntmps3
    go_wp2
    go_ret
    exact ⟨rfl, gb_refl _ _⟩
  have hfew := few_any w bo d L hL
  have cv := conv_str hb
  go_enter Try.func3, Try.ntmps3
  go_wp2_with fail
  refine hfew.mono ?_
  rintro e w' ⟨⟨rfl, hf⟩ | rfl, rfl⟩
  case inr =>
    go_wp2
    go_ret
    exact ⟨rfl, gb_refl _ _⟩
  obtain ⟨hroom, hsmall⟩ := few_room L hf
  clear hfew hf
  go_wp2
  go_loopw [8] (fun i wr => ∃ k : Nat, k ≤ 11 ∧ i = .int .i64 ((k : Int) - 1) ∧ w'.grownBy wr none) (fun i _ => (10 - intOf i).toNat)
  case atStart => exact ⟨0, by omega, rfl, gb_refl _ _⟩
  case round =>
    obtain ⟨k, hk, rfl, hg⟩ := hrel
    by_cases hlt : k < 11
    · obtain ⟨n, hn⟩ : ∃ n : Int, n = (k : Int) - 1 := ⟨_, rfl⟩
      rw [← hn]
      have hn10 : n < 10 := by omega
      have hn1 : -1 ≤ n := by omega
      have HN := hide hn
      have hp := fun (W : World) (hW : Bts W ao c b) => put_any W ao c b v n hW (by omega)
      have hr := fun (W : World) => rput_any W b v n hv (by omega)
      obtain ⟨ys, hys⟩ : ∃ ys, ys = b ++ lb v (nb n) := ⟨_, rfl⟩
      simp only [← hys] at hp hr
      clear hn hys
      go_wp2
      go_region_with (first
        | (go_at_call 9; refine (hp _ ?_).mono ?_; exact hb.kept (gb_drew hg) (fun _ e => by cases e); rintro e w1 ⟨v1, rfl, ⟨eo, f, rfl, hb1, ht1⟩, g1⟩; have hcv := fun (W : World) (gW : w1.grownBy W none) => conv_str (hb1.kept gW (fun _ e => by cases e)); have gr1 := gb_refl w1 none; have G1 : w'.grownBy w1 none := gb_trans (gb_drew hg) g1 (fun _ e => by cases e))
        | (go_at_call 10; refine (hr _).mono ?_; rintro e w2 ⟨rfl, g2⟩; have G2 : w'.grownBy w2 none := gb_trans G1 g2 (fun _ e => by cases e)))
      all_goals
        clear hp hr hcv
        go_wp2
        go_roundw
        case rel => exact ⟨k + 1, by omega, by have := unhide HN; go_num, G2⟩
        case measure => simp [intOf]; omega
    · obtain ⟨ad, rfl⟩ : ∃ ad, bo = some ad := by
        cases bo with
        | none => have := hL.zip rfl; omega
        | some ad => exact ⟨ad, rfl⟩
      obtain ⟨ai, ci, hc, hbi⟩ := hL.cell ad rfl 0 hL0
      have hs := hL.shape ad rfl hL0
      obtain ⟨bb, oo, s⟩ := ad
      simp only [Nat.add_zero] at hs hc
      subst hs
      have hx9 := hsmall _ (List.getElem_mem hL0)
      obtain ⟨x, hx⟩ : ∃ x, x = L[0] := ⟨_, rfl⟩
      rw [← hx] at hc hbi hx9
      have hxB : ∀ W, w'.grownBy W none → Bts W ai ci x := fun W hW => hbi.kept hW (fun _ e => by cases e)
      have hcW := (gb_alloc hg (.cells #[] 5)).cell hc (by simp)
      have hp1 := fun (W : World) (hW : w'.grownBy W none) => sizedl_any W ao ai c ci b x (hb.kept hW (fun _ e => by cases e)) (hxB W hW) (by omega)
      have hr1 := fun (W : World) => rsized_any W b x (by omega)
      obtain ⟨ys, hys⟩ : ∃ ys, ys = b ++ layS x := ⟨_, rfl⟩
      simp only [← hys] at hp1 hr1
      have hp3 := fun (W : World) (hW : w'.grownBy W none) => listl_go W ao (some ⟨bb, oo, none⟩) c d L.length b L (hb.kept hW (fun _ e => by cases e)) (hL.below (gb_below hW)) (by omega) (by omega) hfitL
      have ht := fun (W : World) (hW : w'.grownBy W none) => texts_any W (some ⟨bb, oo, none⟩) d L (hL.below (gb_below hW)) (by omega)
      have hr3 := fun (W : World) (eo : Option Addr) (f : Nat) (h : Sts W eo f L) => rlistl_any W b eo f L h (by omega) (by omega)
      obtain ⟨zs, hzs⟩ : ∃ zs, zs = b ++ layL L := ⟨_, rfl⟩
      simp only [← hzs] at hp3 hr3
      have cvx := fun (W : World) (hW : w'.grownBy W none) => conv_str (hxB W hW)
      clear hys hzs hxB cv hsmall hx hbi hc
      have gW := gb_alloc hg (.cells #[] 5)
      have gD := gb_drew gW
      skip
      go_wp2
      go_region_with (first
        | (go_at_call 11; refine (hp1 _ ?_).mono ?_; exact gD; rintro e w1 ⟨v1, rfl, ⟨e1, f1, rfl, hb1, ht1⟩, g1⟩; have hcv1 := fun (W : World) (gW : w1.grownBy W none) => conv_str (hb1.kept gW (fun _ e => by cases e)); have gr1 := gb_refl w1 none; have G1 : w'.grownBy w1 none := gb_trans gD g1 (fun _ e => by cases e))
        | (go_at_call 12; refine (hr1 _).mono ?_; rintro e w2 ⟨rfl, g2⟩; have G2 : w'.grownBy w2 none := gb_trans G1 g2 (fun _ e => by cases e))
        | (go_at_call 13; refine (hp3 _ ?_).mono ?_; exact G2; rintro e w3 ⟨v3, rfl, ⟨e3, f3, rfl, hb3, ht3⟩, g3⟩; have hcv3 := fun (W : World) (gW : w3.grownBy W none) => conv_str (hb3.kept gW (fun _ e => by cases e)); have gr3 := gb_refl w3 none; have G3 : w'.grownBy w3 none := gb_trans G2 g3 (fun _ e => by cases e))
        | (go_at_call 15; refine (ht _ ?_).mono ?_; exact G3; rintro e w4 ⟨e4, f4, rfl, hs4, g4⟩; have G4 : w'.grownBy w4 none := gb_trans G3 g4 (fun _ e => by cases e))
        | (go_at_call 14; refine (hr3 _ _ _ ?_).mono ?_; exact hs4; rintro e w5 ⟨rfl, g5⟩; have G5 : w'.grownBy w5 none := gb_trans G4 g5 (fun _ e => by cases e); have g35 : w3.grownBy w5 none := gb_trans g4 g5 (fun _ e => by cases e))
        | (go_at_call 16; refine (one_any _).mono ?_; rintro e w6 ⟨rfl, g6⟩; have G6 : w'.grownBy w6 none := gb_trans G5 g6 (fun _ e => by cases e)))
      all_goals
        clear hp1 hr1 hp3 ht hr3 cvx
        go_wp2
        go_ret
        exact ⟨rfl, G6⟩

end Go.Proofs.Ytgedgjcdeajgiaa
