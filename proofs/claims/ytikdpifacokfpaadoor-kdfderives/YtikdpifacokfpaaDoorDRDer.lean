/- What the document's answer for layer 3 reckons: Derive (package coffretref03). Of a word of at most 1000 bytes and at most 1000 texts of at most 100000 bytes together. -/
import Derived.Test.YtikdpifacokfpaaDoorDDer
import Derived.Test.YtikdpifacokfpaaDoorRExp
namespace Go.Proofs.YtikdpifacokfpaaDoor
open Go.RowKit

/-- A list of strings in memory. -/
structure Sts (w : World) (ao : Option Addr) (L : List (List UInt8)) : Prop where
  zip : ao = none → L.length = 0
  shape : ∀ ad, ao = some ad → ad.spot = none
  cell : ∀ ad, ao = some ad → ∀ i (h : i < L.length), w.cell? ⟨ad.block, ad.off + i, none⟩ = some (.string (str L[i]))

theorem Sts.kept {w a : World} {ao : Option Addr} {L : List (List UInt8)} (h : Sts w ao L) (g : w.grownBy a none) : Sts a ao L :=
  ⟨h.zip, h.shape, fun ad e i hi => g.cell (h.cell ad e i hi) (by simp)⟩

set_option maxRecDepth 100000 in
set_option maxHeartbeats 2000000 in
theorem rderive_any (w : World) (K : List UInt8) (hK : K.length = 32) (word : List UInt8) (hwl : word.length ≤ 1000) (ao : Option Addr) (c : Nat) (L : List (List UInt8)) (hL : Sts w ao L) (hLl : L.flatten.length ≤ 100000) (hLn : L.length ≤ 1000) :
    Calls Tryd.prog 21 #[.string (str K), .string (str word), .slice ao L.length c] w fun e w' => e = .returned (.string (str (expL K (infoL word L) 32))) ∧ w.grownBy w' none := by
  have tr : ∀ {x y z : World}, x.grownBy y none → y.grownBy z none → x.grownBy z none := fun h k => gb_trans h k (fun _ e => by cases e)
  obtain ⟨q, hq⟩ : ∃ q, q = L.length := ⟨_, rfl⟩
  obtain ⟨A, hA⟩ : ∃ A : Nat → List UInt8, ∀ k, A k = infoL word (L.take k) := ⟨_, fun _ => rfl⟩
  have hAl : ∀ k, (A k).length < 110000 := fun k => by rw [hA]; have := infoL_le word L k; omega
  have hA0 : [] ++ layS word = A 0 := by rw [hA]; simp [infoL]
  have hs0 := rsized_any w [] word (by simp; omega)
  rw [hA0] at hs0
  rw [← hq]
  have HQ := hide hq
  have HA := hide hA
  have HAL := hide hAl
  have HL := hide hL
  have HLL := hide hLl
  have HK := hide hK
  clear hq hA hAl hL hLl hA0 hK
  go_enter Tryd.func21, Tryd.ntmps21
  go_wp2_with fail
  refine hs0.mono ?_
  rintro e w2 ⟨rfl, g2⟩
  clear hs0
  go_wp2
  go_loopw [7, 8] (fun iv i wr => ∃ k : Nat, k ≤ q ∧ i = .int .i64 k ∧ iv = .string (str (A k)) ∧ w.grownBy wr none) (fun _ i _ => q - (intOf i).toNat)
  case atStart => exact ⟨0, Nat.zero_le _, rfl, rfl, g2⟩
  case round =>
    clear g2
    obtain ⟨k, hk, rfl, rfl, hg⟩ := hrel
    by_cases hlt : k < q
    · have hkL : k < L.length := by rw [← unhide HQ]; exact hlt
      have hkqi : (k : Int) < (q : Int) := by omega
      have hq0 : (0 : Int) ≤ (k : Int) := by omega
      obtain ⟨ad, rfl⟩ : ∃ ad, ao = some ad := by
        cases ao with
        | none => have := (unhide HL).zip rfl; omega
        | some ad => exact ⟨ad, rfl⟩
      have hs := (unhide HL).shape ad rfl
      obtain ⟨b, of, s⟩ := ad
      simp only at hs
      subst hs
      have hc := ((unhide HL).kept hg).cell _ rfl k hkL
      simp only at hc
      have hxe := elem_le L k hkL
      obtain ⟨x, hx⟩ : ∃ x, x = L[k] := ⟨_, rfl⟩
      rw [← hx] at hc hxe
      have hLL := unhide HLL
      have hAk := unhide HAL k
      have hA1 : A k ++ layS x = A (k + 1) := by rw [unhide HA, unhide HA, infoL_snoc word L k hkL, hx]
      have hct := rsized_any wr (A k) x (by omega)
      rw [hA1] at hct
      have HHX := hide hx
      clear hx hA1
      go_wp2_with fail
      refine hct.mono ?_
      rintro e w3 ⟨rfl, g3⟩
      clear hct hc
      go_wp2
      go_roundw
      case rel => exact ⟨k + 1, by omega, by go_num, rfl, tr hg g3⟩
      case measure => simp [intOf]; omega
    · obtain rfl : k = q := by omega
      have hkqi : ¬ (k : Int) < (k : Int) := by omega
      have hIe : A k = infoL word L := by rw [unhide HA, unhide HQ, List.take_of_length_le (Nat.le_refl _)]
      have hex := rexp_any wr K (A k) 32 (by omega) (by rw [unhide HK]; omega) (by have := unhide HAL k; omega)
      rw [hIe] at hex
      rw [hIe]
      clear hIe
      go_wp2_with fail
      refine hex.mono ?_
      rintro e w3 ⟨rfl, g3⟩
      clear hex
      go_wp2
      go_ret
      exact ⟨rfl, tr hg g3⟩

end Go.Proofs.YtikdpifacokfpaaDoor
