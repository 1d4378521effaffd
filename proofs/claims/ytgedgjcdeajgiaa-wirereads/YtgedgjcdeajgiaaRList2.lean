/- What the law package's 'texts' answers, and what the document's List lays (package coffretref01). -/
import Derived.Test.YtgedgjcdeajgiaaRPut
namespace Go.Proofs.Ytgedgjcdeajgiaa
open Go.RowKit

/-- The slice value '.slice ao L.length c' holds strings. -/
structure Sts (w : World) (ao : Option Addr) (c : Nat) (L : List (List UInt8)) : Prop where
  zip : ao = none → L.length = 0 ∧ c = 0
  fits : L.length ≤ c
  most : c ≤ maxLen
  shape : ∀ ad, ao = some ad → 0 < L.length → ad.spot = none
  cell : ∀ ad, ao = some ad → ∀ i (h : i < L.length), w.cell? ⟨ad.block, ad.off + i, none⟩ = some (.string (str L[i]))

theorem Sts.below {w a : World} {ao : Option Addr} {c : Nat} {L : List (List UInt8)} (h : Sts w ao c L) (g : Below w.heap.size w a) : Sts a ao c L :=
  ⟨h.zip, h.fits, h.most, h.shape, fun ad e i hi => (below_gb g).cell (h.cell ad e i hi) (by simp)⟩

def sv (x : List UInt8) : Value := .string (str x)

theorem Sts.own {w : World} {base : Nat} {v : Value} {L : List (List UInt8)} (h : w.ownsRow base 9 1 v L.length (L.map sv)) : ∃ ao c, v = .slice ao L.length c ∧ Sts w ao c L := by
  rcases h.2 with ⟨rfl, h3⟩ | ⟨g, cap, cur, rfl, hg, hh, h3, h4, h5, h6⟩
  · exact ⟨none, 0, by rw [h3], ⟨fun _ => ⟨h3, rfl⟩, by omega, Nat.zero_le _, (fun _ e => by cases e), (fun _ e => by cases e)⟩⟩
  · refine ⟨_, _, rfl, ⟨(fun e => by cases e), h3, h4, (fun ad e _ => by cases e; rfl), (fun ad e i hi => ?_)⟩⟩
    cases e
    have h7 : (cur.toList.take (L.length * 1))[i]? = (L.map sv)[i]? := by rw [h6]
    rw [List.getElem?_take_of_lt (by omega)] at h7
    simp [World.cell?, hh, hi, sv] at h7 ⊢
    exact h7

theorem info_string : (Try.prog.info? 9).map (fun i => (i.zero, i.size, i.bytes)) = some (some (.string ⟨#[]⟩), 1, 16) := by kernel_rfl

set_option maxRecDepth 100000 in
set_option maxHeartbeats 400000 in
theorem texts_any (w : World) (bo : Option Addr) (d : Nat) (L : List (List UInt8)) (hL : Lst w bo d L) (hs : L.length ≤ 65535) :
    Calls Try.prog 15 #[.slice bo L.length d] w fun e w' => ∃ ao c, e = .returned (.slice ao L.length c) ∧ Sts w' ao c L ∧ w.grownBy w' none := by
  obtain ⟨i0, hi, hz0, hz1, hz2⟩ := info_parts info_string
  obtain ⟨q, hq⟩ : ∃ q, q = L.length := ⟨_, rfl⟩
  have HQ := hide hq
  have hq8 : q ≤ 65535 := by omega
  rw [← hq]
  clear hq hs
  go_enter Try.func15, Try.ntmps15
  go_wp2
  go_loopw [3, 4] (fun o i wr => ∃ k : Nat, k ≤ q ∧ i = .int .i64 k ∧ wr.ownsRow w.heap.size 9 1 o (L.take k).length ((L.take k).map sv) ∧ Below w.heap.size w wr) (fun _ i _ => q - (intOf i).toNat)
  case atStart => exact ⟨0, Nat.zero_le _, rfl, World.ownsRow_nil _ _ _ _, Below.refl _ _⟩
  case round =>
    obtain ⟨k, hk, rfl, ho, hb⟩ := hrel
    by_cases hlt : k < q
    · have hkL : k < L.length := by have := unhide HQ; omega
      have hLr := hL.below hb
      obtain ⟨ad, rfl⟩ : ∃ ad, bo = some ad := by
        cases bo with
        | none => have := hL.zip rfl; omega
        | some ad => exact ⟨ad, rfl⟩
      obtain ⟨ai, ci, hc, hbi⟩ := hLr.cell ad rfl k hkL
      have hs := hL.shape ad rfl (by omega)
      obtain ⟨b, o, s⟩ := ad
      simp only at hs hc
      subst hs
      have cv := conv_str hbi
      have hsz := hb.size
      have hll : (L.take k).length = k := by simp; omega
      obtain ⟨ys, hys⟩ : ∃ ys, ys = L.take k := ⟨_, rfl⟩
      have hsn := takeL_snoc hkL
      rw [← hys] at ho hll hsn
      obtain ⟨xk, hxk⟩ : ∃ xk, xk = L[k] := ⟨_, rfl⟩
      rw [← hxk] at hc cv hsn
      have HL := hide hll
      have HS := hide hsn
      clear hll hys hsn hxk hbi hLr
      go_wp2_with (at_builtin; refine wpList_append_own _ rfl _ _ 32 rfl w.heap.size 9 i0 (.string ⟨#[]⟩) 1 16 Try.underlying32 hi hz0 hz1 hz2 rfl (by decide) _ _ _ rfl (ho.alloc _) ⟨wr.heap.size, 0, none⟩ 1 1 [.string (str xk)] rfl rfl ?c1 ?c2 ?c3 ?c4 ?c5 ?_)
      case c1 =>
        intro t x ht
        match t, ht with
        | 0, ht => simp at ht; subst ht; simp [Addr.add]
      case c2 => intro x hx; simp at hx; subst hx; rfl
      case c3 => have := unhide HL; unfold maxLen; omega
      case c4 => have := unhide HL; omega
      case c5 => simp; omega
      intro v' w3 hown3 hg3 _
      have hb3 : Below w.heap.size w w3 := ((hb.alloc (by omega) _).grown hg3 (by simp; omega) (fun x e => (ho.lt x e).1))
      have hown4 : w3.ownsRow w.heap.size 9 1 v' (L.take (k + 1)).length ((L.take (k + 1)).map sv) := by
        rw [unhide HS, List.map_append, List.length_append]
        exact hown3
      clear hown3 ho hb hg3 cv
      go_wp2
      go_roundw
      case rel => exact ⟨k + 1, by omega, by go_num, hown4, hb3⟩
      case measure => simp [intOf]; omega
    · have htk : L.take k = L := List.take_of_length_le (by have := unhide HQ; omega)
      rw [htk] at ho
      obtain ⟨ao, c, rfl, hst⟩ := Sts.own ho
      have hlq : L.length = q := (unhide HQ).symm
      rw [hlq]
      clear htk ho hlq
      go_wp2
      go_ret
      exact ⟨_, _, rfl, hst, below_gb hb⟩

set_option maxRecDepth 100000 in
set_option maxHeartbeats 400000 in
theorem rlistl_any (w : World) (b : List UInt8) (bo : Option Addr) (d : Nat) (L : List (List UInt8)) (hL : Sts w bo d L) (hs : L.length ≤ 65535) (hb : b.length + 16 + roomL L ≤ 70368744177664) :
    Calls Try.prog 14 #[.string (str b), .slice bo L.length d] w fun e w' => e = .returned (.string (str (b ++ layL L))) ∧ w.grownBy w' none := by
  obtain ⟨q, hq⟩ : ∃ q, q = L.length := ⟨_, rfl⟩
  have HQ := hide hq
  have hq8 : q ≤ 65535 := by omega
  rw [← hq]
  have h1 := rput_any w b q 2 (by omega) (by omega)
  rw [show nb 2 = 2 from by decide] at h1
  clear hq hs
  go_enter Try.func14, Try.ntmps14
  go_wp2_with fail
  refine h1.mono ?_
  rintro e w1 ⟨rfl, g1⟩
  clear h1
  go_wp2
  go_loopw [0, 6] (fun o i wr => ∃ k : Nat, k ≤ q ∧ i = .int .i64 k ∧ o = .string (str (b ++ lb q 2 ++ (L.take k).flatMap layS)) ∧ w.grownBy wr none) (fun _ i _ => q - (intOf i).toNat)
  case atStart => exact ⟨0, Nat.zero_le _, rfl, by simp, g1⟩
  case round =>
    obtain ⟨k, hk, rfl, rfl, hg⟩ := hrel
    by_cases hlt : k < q
    · have hkL : k < L.length := by have := unhide HQ; omega
      have hLr := hL.below (gb_below hg)
      obtain ⟨ad, rfl⟩ : ∃ ad, bo = some ad := by
        cases bo with
        | none => have := hL.zip rfl; omega
        | some ad => exact ⟨ad, rfl⟩
      have hc := hLr.cell ad rfl k hkL
      have hs := hL.shape ad rfl (by omega)
      obtain ⟨c, o, s⟩ := ad
      simp only at hs hc
      subst hs
      obtain ⟨ys, hys⟩ : ∃ ys, ys = b ++ lb q 2 ++ (L.take k).flatMap layS := ⟨_, rfl⟩
      have hyl : ys.length + (4 + (L[k]).length) ≤ b.length + 2 + roomL L := by
        have h5 := roomL_snoc hkL
        have h6 := roomL_le L (k + 1)
        rw [hys]
        simp only [List.length_append, lb_len, flat_len]
        omega
      have hsn : b ++ lb q 2 ++ (L.take (k + 1)).flatMap layS = ys ++ layS L[k] := by
        rw [hys, flat_snoc hkL, List.append_assoc (b ++ lb q 2)]
      rw [← hys]
      have HS := hide hsn
      obtain ⟨xk, hxk⟩ : ∃ xk, xk = L[k] := ⟨_, rfl⟩
      rw [← hxk] at hc HS hyl
      have h2 := fun W => rsized_any W ys xk (by omega)
      clear hys hsn hxk hLr
      go_wp2_with fail
      refine (h2 _).mono ?_
      rintro e w2 ⟨rfl, g2⟩
      have G2 : w.grownBy w2 none := gb_trans hg g2 (fun x e => by cases e)
      clear hg g2 hc h2
      go_wp2
      go_roundw
      case rel => exact ⟨k + 1, by omega, by go_num, by rw [unhide HS], G2⟩
      case measure => simp [intOf]; omega
    · have htk : L.take k = L := List.take_of_length_le (by have := unhide HQ; omega)
      have HF : Hid (b ++ layL L = b ++ lb q 2 ++ (L.take k).flatMap layS) := by
        rw [htk, unhide HQ, List.append_assoc]; exact rfl
      clear htk
      go_wp2
      go_ret
      exact ⟨(by rw [unhide HF]; rfl), hg⟩

end Go.Proofs.Ytgedgjcdeajgiaa
