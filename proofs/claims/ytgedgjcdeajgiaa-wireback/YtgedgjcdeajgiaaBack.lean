/- WireBack answers true of any texts, number and bytes, and nothing that was in memory has changed. -/
import Derived.Test.YtgedgjcdeajgiaaMath
import Derived.Test.YtgedgjcdeajgiaaFew
import Derived.Deep.QuietTactic
import Derived.BigQuiet
namespace Go.Proofs.Ytgedgjcdeajgiaa
open Go.RowKit

/-- Texts of the call's own are texts. -/
theorem Txs.lst {w : World} {base : Nat} {v : Value} {L : List (List UInt8)} (h : Txs w base v L) : ∃ yo k, v = .slice yo L.length k ∧ Lst w yo k L := by
  obtain ⟨vs, h1, h2⟩ := h
  have hvl : vs.length = L.length := by simpa using h1.1
  rcases h1.2 with ⟨rfl, h3⟩ | ⟨g, cap, cur, rfl, hg, hh, h3, h4, h5, h6⟩
  · refine ⟨none, 0, by rw [h3], ⟨fun _ => ⟨h3, rfl⟩, by omega, Nat.zero_le _, (fun _ e => by cases e), (fun _ e => by cases e)⟩⟩
  · refine ⟨_, _, rfl, ⟨(fun e => by cases e), h3, h4, (fun ad e _ => by cases e; rfl), (fun ad e i hi => ?_)⟩⟩
    cases e
    obtain ⟨ai, ci, q1, q2, _⟩ := h2 i hi
    refine ⟨ai, ci, ?_, q2⟩
    have h7 : (cur.toList.take (L.length * 1))[i]? = vs[i]? := by rw [h6]
    rw [List.getElem?_take_of_lt (by omega), q1] at h7
    simpa [World.cell?, hh] using h7

theorem gb_drewN {w a : World} {r : Option Nat} (h : w.grownBy a r) (n : Nat) : w.grownBy (a.drewN n) r := by
  induction n with
  | zero => exact h
  | succ n ih => exact ⟨ih.os, ih.tape, ih.output, ih.size, ih.block⟩

set_option maxRecDepth 100000 in
set_option maxHeartbeats 2000000 in
theorem back_any (w : World) (bo ao : Option Addr) (d c v : Nat) (L : List (List UInt8)) (more : List UInt8) (hv : v < 18446744073709551616) (hL : Lst w bo d L) (hb : Bts w ao c more) :
    Calls Try.prog 5 #[.slice bo L.length d, .int .u64 v, .slice ao more.length c] w fun e w' => e = .returned (.bool true) ∧ w.grownBy w' none := by
  have hmost := hb.most
  have hfit := hb.fits
  have hmostL := hL.most
  have hfitL := hL.fits
  unfold maxLen at hmost hmostL
  have hfew := few_any w bo d L hL
  go_enter Try.func5, Try.ntmps5
  go_wp2_with fail
  refine hfew.mono ?_
  rintro e w' ⟨⟨rfl, hf⟩ | rfl, rfl⟩
  case inr =>
    go_wp2
    go_ret
    exact ⟨rfl, gb_refl _ _⟩
  clear hfew
  by_cases h400 : 400 < L.length
  · go_wp2
    go_ret
    exact ⟨rfl, gb_refl _ _⟩
  by_cases h2000 : 2000 < more.length
  · go_wp2
    go_ret
    exact ⟨rfl, gb_refl _ _⟩
  obtain ⟨hroom, hsmall⟩ := few_room L hf
  have hput := put_any w' none 0 [] v 8 (Bts.nil w') (by simp)
  rw [List.nil_append, show nb 8 = 8 from by decide] at hput
  have hl8 := lb_len v 8
  go_wp2_with fail
  refine hput.mono ?_
  rintro e w1 ⟨v1, rfl, ⟨co, f, rfl, hb1, ht1⟩, g1⟩
  have hlist := listl_go w1 co bo f d L.length (lb v 8) L hb1 (hL.below (gb_below g1)) (by omega) (by omega) hfitL
  clear hput
  go_wp2_with fail
  refine hlist.mono ?_
  rintro e w2 ⟨v2, rfl, ⟨eo, f2, rfl, hb2, ht2⟩, g2⟩
  have G2 : w'.grownBy w2 none := gb_trans g1 g2 (fun _ e => by cases e)
  have hs2 := G2.size
  have hrl := layL_len L
  obtain ⟨xs, hxs⟩ : ∃ xs, xs = lb v 8 ++ layL L := ⟨_, rfl⟩
  rw [← hxs] at hb2 ⊢
  have hxl : xs.length = 10 + roomL L := by rw [hxs, List.length_append, hl8, hrl]; omega
  have HX := hide hxs
  have HXL := hide hxl
  have hx1 : 10 ≤ xs.length := by omega
  have hx2 : xs.length ≤ 9010 := by omega
  clear hlist hb1 ht1 hxs hxl hl8 hrl g1 g2
  have ga1 := World.grownBy_alloc w2 (.cells #[] 5) none
  have hb1a : Bts (w2.alloc (.cells #[] 5)) eo f2 xs := hb2.kept ga1 (fun _ e => by cases e)
  have o1 : (w2.alloc (.cells #[] 5)).ownsRow w2.heap.size 5 1 (.slice (some ⟨w2.heap.size, 0, none⟩) 0 0) 0 [] := World.ownsRow_made w2 #[] 0 (Nat.le_refl _) (by unfold maxLen; omega) rfl
  go_wp2_with (at_builtin; refine wpList_append_bts rfl _ _ rfl w2.heap.size _ 0 [] rfl o1 eo f2 xs hb1a rfl ?n1 ?s1 ?_)
  case n1 => omega
  case s1 => simp
  intro v3 w3 o3 q3
  have G3 : w'.grownBy w3 none := gb_trans (gb_alloc G2 _) q3 (fun x e => by have := o1.lt x e; exact Or.inl (by omega))
  have hb3 := hb.kept G3 (fun _ e => by cases e)
  have hb3x : Bts w3 eo f2 xs := hb1a.kept q3 (fun x e ad e2 e3 => by
    have h5 := (ht2 ad e2).2.lt
    simp only [Value.ownBlock, Option.some.injEq] at e
    omega)
  have hs23 : w2.heap.size ≤ w3.heap.size := Nat.le_trans (by simp) q3.size
  clear o1 q3 hb1a ga1 hb2
  go_wp2_with (at_builtin; refine wpList_append_bts rfl _ _ rfl w2.heap.size _ _ _ rfl o3 ao c more hb3 rfl ?n2 ?s2 ?_)
  case n2 => omega
  case s2 => exact hs23
  intro v4 w4 o4 q4
  have G4 : w'.grownBy w4 none := gb_trans G3 q4 (fun x e => by have := o3.lt x e; exact Or.inl (by omega))
  have hb4 : Bts w4 eo f2 xs := hb3x.kept q4 (fun x e ad e2 e3 => by
    have h5 := (ht2 ad e2).2.lt
    have h6 := (o3.lt x e).1
    omega)
  have hs34 := q4.size
  rw [← List.map_append, ← List.length_append] at o4
  obtain ⟨ro, f3, rfl, hb5, _⟩ := NewB.own o4
  have hnew := new_any w4 ro f3 (xs ++ more) hb5 (by simp; omega)
  rw [List.length_append] at hnew
  clear o3 q4 hb3x hb3 o4 hb5
  go_wp2_with fail
  refine hnew.mono ?_
  rintro e w5 ⟨rb, rfl, hrb, r5, g5⟩
  have G5 : w'.grownBy w5 none := gb_trans G4 g5 (fun x e => by cases e)
  have hb6 := hb4.kept g5 (fun _ e => by cases e)
  have hnum := num_at w5 rb (xs ++ more) 0 8 r5
  have hns : numS (xs ++ more) 0 8 = (v, layL L ++ more, 0) := by rw [unhide HX, List.append_assoc]; exact numS8_lay v hv _
  rw [hns] at hnum
  simp only at hnum
  have hlt5 := r5.lt
  clear hnew hns hb4 G4 g5 G2 G3 r5
  go_wp2_with fail
  refine hnum.mono ?_
  rintro e w6 ⟨rfl, r6, g6⟩
  have G6 : w'.grownBy w6 none := gb_trans G5 g6 (fun x e => by cases e; exact Or.inl (by omega))
  have hb7 : Bts w6 eo f2 xs := hb6.kept g6 (fun x e ad e2 e3 => by cases e; have h5 := (ht2 ad e2).2.lt; omega)
  have hrl := rlist_at w6 rb _ 0 400 (by rw [List.length_append, layL_len]; omega) r6
  rw [listS_lay L more 400 (by omega) (by omega) (fun x hx => Nat.le_trans (hsmall x hx) (by omega))] at hrl
  simp only at hrl
  clear hnum r6 G5 g6 hb6
  go_wp2_with fail
  refine hrl.mono ?_
  rintro e w7 ⟨v7, rfl, t7, r7, g7⟩
  obtain ⟨yo, yk, rfl, hY⟩ := t7.lst
  have G7 : w'.grownBy w7 none := gb_trans G6 g7 (fun x e => by cases e; exact Or.inl (by omega))
  have hb8 : Bts w7 eo f2 xs := hb7.kept g7 (fun x e ad e2 e3 => by cases e; have h5 := (ht2 ad e2).2.lt; omega)
  have hs7 := g7.size
  have hL7 := hL.below (gb_below G7)
  obtain ⟨lo, lc, l1, _, _⟩ := r7
  clear hrl t7 G6 g7 hb7 hL hb
  go_wp2_with fail
  refine (left_at _ _ _ _ _ l1.c0).mono ?_
  rintro e w8 ⟨rfl, rfl⟩
  go_wp2_with fail
  refine (wrong_at _ _ _ l1.c1).mono ?_
  rintro e w9 ⟨rfl, rfl⟩
  clear l1
  obtain ⟨q, hq⟩ : ∃ q, q = L.length := ⟨_, rfl⟩
  rw [← hq]
  have HQ := hide hq
  have hq4 : q ≤ 400 := by omega
  clear hq
  go_wp2
  go_loopw [11] (fun i wr => ∃ k : Nat, k ≤ q ∧ i = .int .i64 k ∧ w9.grownBy wr none) (fun i _ => q - (intOf i).toNat)
  case atStart => exact ⟨0, Nat.zero_le _, rfl, gb_refl _ _⟩
  case round =>
    obtain ⟨k, hk, rfl, hg⟩ := hrel
    by_cases hlt : k < q
    · have hkL : k < L.length := by have := unhide HQ; omega
      have hYr := hY.below (gb_below hg)
      have hLr := hL7.below (gb_below hg)
      obtain ⟨ya, rfl⟩ : ∃ ad, yo = some ad := by
        cases yo with
        | none => have := hY.zip rfl; omega
        | some ad => exact ⟨ad, rfl⟩
      obtain ⟨ba, rfl⟩ : ∃ ad, bo = some ad := by
        cases bo with
        | none => have := hL7.zip rfl; omega
        | some ad => exact ⟨ad, rfl⟩
      obtain ⟨ai, ci, hc1, hd1⟩ := hYr.cell ya rfl k hkL
      obtain ⟨aj, cj, hc2, hd2⟩ := hLr.cell ba rfl k hkL
      have hs1 := hYr.shape ya rfl (by omega)
      have hs2' := hLr.shape ba rfl (by omega)
      obtain ⟨yb, yo, ys⟩ := ya
      obtain ⟨bb, bo, bs⟩ := ba
      simp only at hs1 hs2' hc1 hc2
      subst hs1 hs2'
      have cv1 := fun nq => conv_str (hd1.kept (gb_drewN (gb_refl wr none) nq) (fun _ e => by cases e))
      have cv2 := fun nq => conv_str (hd2.kept (gb_drewN (gb_refl wr none) nq) (fun _ e => by cases e))
      generalize L[k] = xk at *
      clear hYr hLr hd1 hd2
      go_wp2
      go_quiet (fail)
      go_wp2
      go_roundw
      case rel => exact ⟨k + 1, by omega, by go_num, gb_drewN hg _⟩
      case measure => simp [intOf]; omega
    · clear hY
      have G10 : w'.grownBy wr none := gb_trans G7 hg (fun x e => by cases e)
      have hb10 := hb8.kept hg (fun x e => by cases e)
      have hfd := hb10.fits
      have hnew2 := new_any wr eo f2 (xs.take (xs.length - 1)) (hb10.take _ (by omega)) (by simp; omega)
      rw [List.length_take, Nat.min_eq_left (by omega)] at hnew2
      have hs10 := hg.size
      clear hb8 hb10 G7 hg
      go_wp2_with fail
      refine hnew2.mono ?_
      rintro e w11 ⟨rb2, rfl, hrb2, r11, g11⟩
      have G11 : w'.grownBy w11 none := gb_trans G10 g11 (fun x e => by cases e)
      have hnum2 := num_at w11 rb2 _ 0 8 r11
      have hns2 : numS (xs.take (xs.length - 1)) 0 8 = (v, (layL L).dropLast, 0) := by
        rw [← List.dropLast_eq_take, unhide HX, List.dropLast_append_of_ne_nil (layL_ne L)]
        exact numS8_lay v hv _
      rw [hns2] at hnum2
      simp only at hnum2
      have hlt11 := r11.lt
      have hs11 := g11.size
      have hsG10 := G10.size
      clear hnew2 hns2 r11 G10 g11
      go_wp2_with fail
      refine hnum2.mono ?_
      rintro e w12 ⟨rfl, r12, g12⟩
      have G12 : w'.grownBy w12 none := gb_trans G11 g12 (fun x e => by cases e; exact Or.inl (by omega))
      have hrl2 := rlist_at w12 rb2 _ 0 400 (by rw [List.length_dropLast, layL_len]; omega) r12
      rw [listS_cut L 400 (by have := unhide HQ; omega) (by have := unhide HQ; omega) (fun x hx => Nat.le_trans (hsmall x hx) (by omega))] at hrl2
      simp only at hrl2
      clear hnum2 r12 G11 g12
      go_wp2_with fail
      refine hrl2.mono ?_
      rintro e w13 ⟨v13, rfl, t13, r13, g13⟩
      obtain ⟨zo, zk, rfl, _⟩ := t13.lst
      have G13 : w'.grownBy w13 none := gb_trans G12 g13 (fun x e => by cases e; exact Or.inl (by omega))
      obtain ⟨ko, kc, m1, _, _⟩ := r13
      clear hrl2 t13 G12 g13
      go_wp2_with fail
      refine (wrong_at _ _ _ m1.c1).mono ?_
      rintro e w14 ⟨rfl, rfl⟩
      clear m1
      go_wp2_with fail
      refine (one_any _).mono ?_
      rintro e w15 ⟨rfl, g15⟩
      have G15 : w'.grownBy w15 none := gb_trans G13 g15 (fun x e => by cases e)
      clear G13 g15
      go_wp2
      go_ret
      exact ⟨rfl, G15⟩

end Go.Proofs.Ytgedgjcdeajgiaa
