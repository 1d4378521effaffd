/- What wire's Put, Sized and List lay, told by plain functions of bytes; of any bytes and numbers, where all together are fewer than 2 to the 46. -/
import Derived.Test.YtgedgjcdeajgiaaPut
namespace Go.Proofs.Ytgedgjcdeajgiaa
open Go.RowKit

/-- A text as it is laid, its length ahead. -/
def layS (x : List UInt8) : List UInt8 := lb x.length 4 ++ x
/-- Texts as they are laid, their number ahead. -/
def layL (L : List (List UInt8)) : List UInt8 := lb L.length 2 ++ L.flatMap layS

theorem NewB.own {w w' : World} {v : Value} {x : List UInt8} (h : w'.ownsRow w.heap.size 5 1 v x.length (x.map bv)) : NewB w w' v x := by
  rcases h.2 with ⟨rfl, h2⟩ | ⟨g, cap, cur, rfl, hg, hh, _⟩
  · have := List.eq_nil_of_length_eq_zero h2
    subst this
    exact NewB.nil _ _
  · obtain ⟨_, h3, h4⟩ := Bts.own h
    exact ⟨_, _, rfl, h4, fun ad e => by cases e; exact ⟨h3, ⟨cur, _, hh⟩⟩⟩

set_option maxRecDepth 100000 in
set_option maxHeartbeats 400000 in
theorem put_any (w : World) (ao : Option Addr) (c : Nat) (l : List UInt8) (v : Nat) (n : Int) (hb : Bts w ao c l) (hl : l.length + 16 ≤ 70368744177664) :
    Calls Try.prog 9 #[.slice ao l.length c, .int .u64 v, .int .i64 n] w fun e w' => ∃ v', e = .returned v' ∧ NewB w w' v' (l ++ lb v (nb n)) ∧ w.grownBy w' none := by
  have hn8 : nb n ≤ 8 := by unfold nb; omega
  have H : Hid (min (max n 0) 8 = ((nb n : Nat) : Int)) := by unfold nb Hid; omega
  generalize nb n = k at *
  go_enter Try.func9, Try.ntmps9
  go_wp2_with fail
  refine (numBytes _ _).mono ?_
  rintro e w' ⟨rfl, rfl⟩
  rw [H.out]
  go_wp2_with fail
  refine (fresh_any _ _ _ _ k hb (by omega)).mono ?_
  rintro e w1 ⟨rfl, h1, h2⟩
  have hsz := h2.size
  clear hb H
  go_wp2_with fail
  refine (lay_any _ _ _ l v k hn8 h1 hsz (by omega)).mono ?_
  rintro e w2 ⟨v2, rfl, h3, h4⟩
  clear h1
  go_wp2
  go_ret
  exact ⟨_, rfl, NewB.own h3, below_gb ((gb_below h2).trans h4)⟩

set_option maxRecDepth 100000 in
set_option maxHeartbeats 400000 in
theorem sizedl_any (w : World) (ao bo : Option Addr) (c d : Nat) (l x : List UInt8) (hb : Bts w ao c l) (hx : Bts w bo d x) (hl : l.length + 16 + x.length ≤ 70368744177664) :
    Calls Try.prog 11 #[.slice ao l.length c, .slice bo x.length d] w fun e w' => ∃ v', e = .returned v' ∧ NewB w w' v' (l ++ layS x) ∧ w.grownBy w' none := by
  go_enter Try.func11, Try.ntmps11
  go_wp2_with fail
  rw [show (4 : Int) + (x.length : Int) = ((4 + x.length : Nat) : Int) from by omega]
  refine (fresh_any _ _ _ _ (4 + x.length) hb (by omega)).mono ?_
  rintro e w1 ⟨rfl, h1, h2⟩
  have hsz := h2.size
  have hx1 : ∀ a, Below w.heap.size w1 a → Bts a bo d x := fun a ha => hx.below ((gb_below h2).trans ha)
  clear hb hx
  go_wp2_with fail
  refine (layText_any _ _ _ l bo d x h1 hsz hx1 (by omega)).mono ?_
  rintro e w2 ⟨v2, rfl, h3, h4⟩
  clear h1 hx1
  go_wp2
  go_ret
  exact ⟨_, rfl, NewB.own (by unfold layS; rw [← List.append_assoc]; exact h3), below_gb ((gb_below h2).trans h4)⟩

/-- The slice value '.slice ao L.length c' holds texts, each a slice of bytes. -/
structure Lst (w : World) (ao : Option Addr) (c : Nat) (L : List (List UInt8)) : Prop where
  zip : ao = none → L.length = 0 ∧ c = 0
  fits : L.length ≤ c
  most : c ≤ maxLen
  shape : ∀ ad, ao = some ad → 0 < L.length → ad.spot = none
  cell : ∀ ad, ao = some ad → ∀ i (h : i < L.length), ∃ ai ci, w.cell? ⟨ad.block, ad.off + i, none⟩ = some (.slice ai (L[i]).length ci) ∧ Bts w ai ci L[i]

theorem Lst.below {w a : World} {ao : Option Addr} {c : Nat} {L : List (List UInt8)} (h : Lst w ao c L) (g : Below w.heap.size w a) : Lst a ao c L :=
  ⟨h.zip, h.fits, h.most, h.shape, fun ad e i hi => by
    obtain ⟨ai, ci, h1, h2⟩ := h.cell ad e i hi
    exact ⟨ai, ci, (below_gb g).cell h1 (by simp), h2.below g⟩⟩

theorem Lst.take {w : World} {ao : Option Addr} {c : Nat} {L : List (List UInt8)} (h : Lst w ao c L) (n : Nat) (hn : n ≤ L.length) : Lst w ao c (L.take n) := by
  refine ⟨(fun e => ?_), ?_, h.most, (fun ad e hp => h.shape ad e (by simp at hp; omega)), (fun ad e i hi => ?_)⟩
  · have := h.zip e
    exact ⟨by simp; omega, this.2⟩
  · have := h.fits; simp; omega
  · have hi' : i < L.length := by simp at hi; omega
    obtain ⟨ai, ci, h1, h2⟩ := h.cell ad e i hi'
    exact ⟨ai, ci, by simpa using h1, by simpa using h2⟩

/-- How many bytes texts take, laid. -/
def roomL (L : List (List UInt8)) : Nat := (L.map fun x => 4 + x.length).sum

theorem takeL_snoc {L : List (List UInt8)} {k : Nat} (h : k < L.length) : L.take (k + 1) = L.take k ++ [L[k]] := by
  rw [List.take_succ_eq_append_getElem h]

theorem roomL_snoc {L : List (List UInt8)} {k : Nat} (h : k < L.length) : roomL (L.take (k + 1)) = roomL (L.take k) + (4 + (L[k]).length) := by
  unfold roomL
  rw [takeL_snoc h, List.map_append, List.sum_append]
  simp only [List.map_cons, List.map_nil, List.sum_cons, List.sum_nil, Nat.add_zero]

theorem roomL_le (L : List (List UInt8)) (k : Nat) : roomL (L.take k) ≤ roomL L := by
  conv => rhs; rw [← List.take_append_drop k L]
  unfold roomL
  rw [List.map_append, List.sum_append]
  omega

theorem flat_len (L : List (List UInt8)) : (L.flatMap layS).length = roomL L := by
  unfold roomL
  induction L with
  | nil => rfl
  | cons x L ih => simp [layS, lb_len, ih]; omega

theorem flat_snoc {L : List (List UInt8)} {k : Nat} (h : k < L.length) : (L.take (k + 1)).flatMap layS = (L.take k).flatMap layS ++ layS L[k] := by
  rw [takeL_snoc h, List.flatMap_append]
  simp only [List.flatMap_cons, List.flatMap_nil, List.append_nil]

theorem size_slice (w : World) : (Go.sizeOf 22).run Try.prog w = .ok 1 w := by kernel_rfl

set_option maxRecDepth 100000 in
set_option maxHeartbeats 1000000 in
theorem listl_go (w : World) (ao bo : Option Addr) (c d m : Nat) (l : List UInt8) (L : List (List UInt8)) (hb : Bts w ao c l) (hL : Lst w bo d L) (hl : l.length + 16 + roomL L ≤ 70368744177664) (hm : L.length = min m 65535) (hmd : m ≤ d) :
    Calls Try.prog 13 #[.slice ao l.length c, .slice bo m d] w fun e w' => ∃ v', e = .returned v' ∧ NewB w w' v' (l ++ layL L) ∧ w.grownBy w' none := by
  have hdm := hL.most
  unfold maxLen at hdm
  have hL8 : L.length ≤ 65535 := by omega
  have s1 := fun W => slice_to (P := Try.prog) W 23 22 Try.underlying23 size_slice bo m d L.length (by omega)
  obtain ⟨q, hq⟩ : ∃ q, q = L.length := ⟨_, rfl⟩
  have hmm : (m ≤ 65535 ∧ m = q) ∨ (65535 < m ∧ q = 65535) := by omega
  rw [← hq] at s1
  have HQ := hide hq
  have hq8 : q ≤ 65535 := by omega
  clear hq hm hmd
  rcases hmm with ⟨hm1, hm2⟩ | ⟨hm1, hm2⟩
  · have hm3 := hm2.symm
    subst hm3
    go_enter Try.func13, Try.ntmps13
    go_wp2
    go_loop [5, 18] (fun r i => ∃ k : Nat, k ≤ q ∧ i = .int .i64 k ∧ r = .int .i64 ((2 + roomL (L.take k) : Nat) : Int)) (fun _ i => q - (intOf i).toNat)
    case atStart => exact ⟨0, Nat.zero_le _, rfl, rfl⟩
    case round =>
      obtain ⟨k, hk, rfl, rfl⟩ := hrel
      by_cases hlt : k < q
      · have hkL : k < L.length := by have := unhide HQ; omega
        obtain ⟨ad, rfl⟩ : ∃ ad, bo = some ad := by
          cases bo with
          | none => have := hL.zip rfl; omega
          | some ad => exact ⟨ad, rfl⟩
        obtain ⟨ai, ci, hc, _⟩ := hL.cell ad rfl k hkL
        have hs := hL.shape ad rfl (by omega)
        obtain ⟨b, o, s⟩ := ad
        simp only at hs hc
        subst hs
        have hrm := roomL_snoc hkL
        have hrm2 := roomL_le L (k + 1)
        have hrm3 : roomL (L.take k) + (4 + (L[k]).length) ≤ 70368744177664 := by omega
        have HR := hide hrm
        clear hrm hrm2
        go_wp2
        go_round
        case rel => exact ⟨k + 1, by omega, by go_num, by have := unhide HR; rw [this]; go_num⟩
        case measure => simp [intOf]; omega
      · have hkq : k = q := by omega
        subst hkq
        have htk : L.take k = L := List.take_of_length_le (by have := unhide HQ; omega)
        rw [htk]
        clear hlt hk htk
        go_wp2_with fail
        refine (fresh_any _ _ _ _ (2 + roomL L) hb (by omega)).mono ?_
        rintro e w1 ⟨rfl, h1, h2⟩
        have hsz := h2.size
        clear hb
        go_wp2_with fail
        refine (lay_any _ _ _ l k 2 (by omega) h1 hsz (by omega)).mono ?_
        rintro e w2 ⟨v2, rfl, h3, h4⟩
        have hb2 := (gb_below h2).trans h4
        clear h1 h2 h4 hsz
        go_wp2
        go_loopw [8, 37] (fun o i wr => ∃ j : Nat, j ≤ k ∧ i = .int .i64 j ∧ wr.ownsRow w.heap.size 5 1 o (l ++ lb k 2 ++ (L.take j).flatMap layS).length ((l ++ lb k 2 ++ (L.take j).flatMap layS).map bv) ∧ Below w.heap.size w wr) (fun _ i _ => k - (intOf i).toNat)
        case atStart => exact ⟨0, Nat.zero_le _, rfl, by simpa using h3, hb2⟩
        case round =>
          clear h3 hb2
          obtain ⟨j, hj, rfl, ho, hbw⟩ := hrel
          by_cases hlt : j < k
          · have hkL : j < L.length := by have := unhide HQ; omega
            obtain ⟨ad, rfl⟩ : ∃ ad, bo = some ad := by
              cases bo with
              | none => have := hL.zip rfl; omega
              | some ad => exact ⟨ad, rfl⟩
            obtain ⟨ai, ci, hc, hbi⟩ := hL.cell ad rfl j hkL
            have hcw := (below_gb hbw).cell hc (by simp)
            have hs := hL.shape ad rfl (by omega)
            obtain ⟨b, o, s⟩ := ad
            simp only at hs hcw
            subst hs
            have hxs : ∀ a, Below w.heap.size wr a → Bts a ai ci L[j] := fun a ha => hbi.below (hbw.trans ha)
            have hsz := hbw.size
            obtain ⟨ys, hys⟩ : ∃ ys, ys = l ++ lb k 2 ++ (L.take j).flatMap layS := ⟨_, rfl⟩
            rw [← hys] at ho
            have hyl : ys.length + (4 + (L[j]).length) ≤ l.length + 2 + roomL L := by
              have h5 := roomL_snoc hkL
              have h6 := roomL_le L (j + 1)
              rw [hys]
              simp only [List.length_append, lb_len, flat_len]
              omega
            have hfl : l ++ lb k 2 ++ (L.take (j + 1)).flatMap layS = ys ++ lb (L[j]).length 4 ++ L[j] := by
              rw [hys, flat_snoc hkL]
              simp only [layS, List.append_assoc]
            have HF := hide hfl
            clear hys hfl hc hbi
            obtain ⟨xj, hxj⟩ : ∃ xj, xj = L[j] := ⟨_, rfl⟩
            rw [← hxj] at hcw hxs HF hyl
            clear hxj
            go_wp2_with fail
            refine (layText_any _ _ _ ys ai ci xj ho hsz hxs (by omega)).mono ?_
            rintro e w3 ⟨v3, rfl, ho3, hb3⟩
            have hb4 := hbw.trans hb3
            rw [← unhide HF] at ho3
            clear ho hb3 hbw hxs
            go_wp2
            go_roundw
            case rel => exact ⟨j + 1, by omega, by go_num, ho3, hb4⟩
            case measure => simp [intOf]; omega
          · have hjk : j = k := by omega
            have htk : L.take j = L := List.take_of_length_le (by have := unhide HQ; omega)
            rw [htk] at ho
            have HH : Hid (l ++ layL L = l ++ lb k 2 ++ L.flatMap layS) := by
              unfold layL Hid
              rw [unhide HQ, List.append_assoc]
            clear htk hjk
            go_wp2
            go_ret
            refine ⟨_, rfl, ?_, below_gb hbw⟩
            rw [unhide HH]
            exact NewB.own ho
  · have s2 : ∀ W, (Instr.slice 23 (.slice bo m d) none (some (.int .i64 65535)) none).run Try.prog W = .ok (.slice bo q d) W := fun W => by
      have := s1 W
      rw [show ((q : Nat) : Int) = 65535 from by omega] at this
      exact this
    have HM := hide hm2
    clear s1 hm2
    go_enter Try.func13, Try.ntmps13
    go_wp2
    go_loop [5, 18] (fun r i => ∃ k : Nat, k ≤ q ∧ i = .int .i64 k ∧ r = .int .i64 ((2 + roomL (L.take k) : Nat) : Int)) (fun _ i => q - (intOf i).toNat)
    case atStart => exact ⟨0, Nat.zero_le _, rfl, rfl⟩
    case round =>
      obtain ⟨k, hk, rfl, rfl⟩ := hrel
      by_cases hlt : k < q
      · have hkL : k < L.length := by have := unhide HQ; omega
        obtain ⟨ad, rfl⟩ : ∃ ad, bo = some ad := by
          cases bo with
          | none => have := hL.zip rfl; omega
          | some ad => exact ⟨ad, rfl⟩
        obtain ⟨ai, ci, hc, _⟩ := hL.cell ad rfl k hkL
        have hs := hL.shape ad rfl (by omega)
        obtain ⟨b, o, s⟩ := ad
        simp only at hs hc
        subst hs
        have hrm := roomL_snoc hkL
        have hrm2 := roomL_le L (k + 1)
        have hrm3 : roomL (L.take k) + (4 + (L[k]).length) ≤ 70368744177664 := by omega
        have HR := hide hrm
        clear hrm hrm2
        go_wp2
        go_round
        case rel => exact ⟨k + 1, by omega, by go_num, by have := unhide HR; rw [this]; go_num⟩
        case measure => simp [intOf]; omega
      · have hkq : k = q := by omega
        subst hkq
        have htk : L.take k = L := List.take_of_length_le (by have := unhide HQ; omega)
        rw [htk]
        clear hlt hk htk
        go_wp2_with fail
        refine (fresh_any _ _ _ _ (2 + roomL L) hb (by omega)).mono ?_
        rintro e w1 ⟨rfl, h1, h2⟩
        have hsz := h2.size
        clear hb
        go_wp2_with fail
        refine (lay_any _ _ _ l k 2 (by omega) h1 hsz (by omega)).mono ?_
        rintro e w2 ⟨v2, rfl, h3, h4⟩
        have hb2 := (gb_below h2).trans h4
        clear h1 h2 h4 hsz
        go_wp2
        go_loopw [8, 37] (fun o i wr => ∃ j : Nat, j ≤ k ∧ i = .int .i64 j ∧ wr.ownsRow w.heap.size 5 1 o (l ++ lb k 2 ++ (L.take j).flatMap layS).length ((l ++ lb k 2 ++ (L.take j).flatMap layS).map bv) ∧ Below w.heap.size w wr) (fun _ i _ => k - (intOf i).toNat)
        case atStart => exact ⟨0, Nat.zero_le _, rfl, by simpa using h3, hb2⟩
        case round =>
          clear h3 hb2
          obtain ⟨j, hj, rfl, ho, hbw⟩ := hrel
          by_cases hlt : j < k
          · have hkL : j < L.length := by have := unhide HQ; omega
            obtain ⟨ad, rfl⟩ : ∃ ad, bo = some ad := by
              cases bo with
              | none => have := hL.zip rfl; omega
              | some ad => exact ⟨ad, rfl⟩
            obtain ⟨ai, ci, hc, hbi⟩ := hL.cell ad rfl j hkL
            have hcw := (below_gb hbw).cell hc (by simp)
            have hs := hL.shape ad rfl (by omega)
            obtain ⟨b, o, s⟩ := ad
            simp only at hs hcw
            subst hs
            have hxs : ∀ a, Below w.heap.size wr a → Bts a ai ci L[j] := fun a ha => hbi.below (hbw.trans ha)
            have hsz := hbw.size
            obtain ⟨ys, hys⟩ : ∃ ys, ys = l ++ lb k 2 ++ (L.take j).flatMap layS := ⟨_, rfl⟩
            rw [← hys] at ho
            have hyl : ys.length + (4 + (L[j]).length) ≤ l.length + 2 + roomL L := by
              have h5 := roomL_snoc hkL
              have h6 := roomL_le L (j + 1)
              rw [hys]
              simp only [List.length_append, lb_len, flat_len]
              omega
            have hfl : l ++ lb k 2 ++ (L.take (j + 1)).flatMap layS = ys ++ lb (L[j]).length 4 ++ L[j] := by
              rw [hys, flat_snoc hkL]
              simp only [layS, List.append_assoc]
            have HF := hide hfl
            clear hys hfl hc hbi
            obtain ⟨xj, hxj⟩ : ∃ xj, xj = L[j] := ⟨_, rfl⟩
            rw [← hxj] at hcw hxs HF hyl
            clear hxj
            go_wp2_with fail
            refine (layText_any _ _ _ ys ai ci xj ho hsz hxs (by omega)).mono ?_
            rintro e w3 ⟨v3, rfl, ho3, hb3⟩
            have hb4 := hbw.trans hb3
            rw [← unhide HF] at ho3
            clear ho hb3 hbw hxs
            go_wp2
            go_roundw
            case rel => exact ⟨j + 1, by omega, by go_num, ho3, hb4⟩
            case measure => simp [intOf]; omega
          · have hjk : j = k := by omega
            have htk : L.take j = L := List.take_of_length_le (by have := unhide HQ; omega)
            rw [htk] at ho
            have HH : Hid (l ++ layL L = l ++ lb k 2 ++ L.flatMap layS) := by
              unfold layL Hid
              rw [unhide HQ, List.append_assoc]
            clear htk hjk
            go_wp2
            go_ret
            refine ⟨_, rfl, ?_, below_gb hbw⟩
            rw [unhide HH]
            exact NewB.own ho

end Go.Proofs.Ytgedgjcdeajgiaa
