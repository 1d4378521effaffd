/- What chunk's toldLength, Pad and Unpad answer, of texts of at most 4194304 bytes. -/
import Derived.Test.YtadkpkdojbhigaaCkA
import Derived.Test.YtadkpkdojbhigaaWNew
import Derived.Test.YtadkpkdojbhigaaBClo
import Derived.Test.YtadkpkdojbhigaaMOwn
import Derived.Test.YtadkpkdojbhigaaMCpy
import Derived.Test.YtadkpkdojbhigaaMMake
namespace Go.Proofs.Ytadkpkdojbhigaa
open Go.RowKit

theorem bts_blk {w : World} {b : Nat} {l : List UInt8} (h : Blk w b 5 (l.map bv)) (hl : l.length ≤ maxLen) : Bts w (some ⟨b, 0, none⟩) l.length l :=
  ⟨fun e => by (cases e), Nat.le_refl _, hl, fun ad e _ => by (cases e; rfl), fun ad e i hi => by
    cases e
    rw [show (⟨b, 0 + i, none⟩ : Addr) = ⟨b, i, none⟩ from by rw [Nat.zero_add], h.cell i]
    simp [hi, bv]⟩

theorem num4 (w : World) (rb : Nat) (l : List UInt8) (h : Rd w rb l 0) :
    Calls Try.prog 33 #[.pointer (some ⟨rb, 0, none⟩), .int .i64 4] w fun e w' => e = .returned (.int .u64 (tolN l : Int)) ∧ w.grownBy w' (some rb) := by
  by_cases h4 : l.length < 4
  · have ht : tolN l = 0 := by unfold tolN; rw [if_pos h4]
    rw [ht]
    refine (num_end w rb l 4 (by omega) h).mono ?_
    rintro e w2 ⟨rfl, _, g2⟩
    exact ⟨rfl, g2⟩
  · have ht : tolN l = be (l.take 4) := by unfold tolN; rw [if_neg h4]
    rw [ht]
    refine (num_yes w rb l 4 4 (by decide) (by omega) h).mono ?_
    rintro e w2 ⟨rfl, _, g2⟩
    exact ⟨rfl, g2⟩

theorem tolN_take (b : List UInt8) : tolN (b.take 4) = tolN b := by
  unfold tolN
  by_cases h : b.length < 4
  · rw [if_pos h, if_pos (by simp; omega)]
  · rw [if_neg h, if_neg (by simp; omega), List.take_take, Nat.min_self]

set_option maxRecDepth 100000 in
theorem told_any (w : World) (ao : Option Addr) (c : Nat) (b : List UInt8) (hb : Bts w ao c b) :
    Calls Try.prog 21 #[.slice ao b.length c] w fun e w' => e = .returned (.int .i64 (tolN b : Int)) ∧ w.grownBy w' none := by
  obtain ⟨n, hn⟩ : ∃ n, n = b.length := ⟨_, rfl⟩
  have hfit := hb.fits
  have hlt32 := tolN_lt b
  have cu := fun W rb => num4 W rb (b.take 4)
  rw [tolN_take b] at cu
  have hb4 : Bts w ao c (b.take 4) := by
    by_cases h : 4 ≤ b.length
    · exact hb.take 4 h
    · rw [List.take_of_length_le (by omega)]; exact hb
  have cn := new_any w ao c (b.take 4) hb4 (by simp; omega)
  obtain ⟨k, hk⟩ : ∃ k, k = (b.take 4).length := ⟨_, rfl⟩
  rw [← hk] at cn
  rw [← hn] at hfit ⊢
  have hk2 : k = min 4 n := by rw [hk, List.length_take, hn]
  have s1 := fun W => slice_to (P := Try.prog) W 22 5 Try.underlying22 size_byte ao n c k (by omega)
  obtain ⟨t, htt⟩ : ∃ t, t = tolN b := ⟨_, rfl⟩
  rw [← htt] at hlt32 cu ⊢
  have hw : IntKind.i64.wrap (t : Int) = (t : Int) := by rw [IntKind.wrap_i64]; omega
  by_cases h4 : 4 < n
  · have hk4 : k = 4 := by omega
    have hlt : (4 : Int) < (n : Int) := by omega
    rw [hk4] at cn s1
    have s2 : ∀ W, (Instr.slice 22 (.slice ao n c) none (some (.int .i64 4)) none).run Try.prog W = .ok (.slice ao 4 c) W := s1
    clear s1 hk4 hk2 hk hn htt hb hb4
    go_enter Try.func21, Try.ntmps21
    go_wp2_with fail
    refine cn.mono ?_
    rintro e w1 ⟨rb, rfl, hrb, hR, g1⟩
    go_wp2_with fail
    refine (cu w1 rb hR).mono ?_
    rintro e w2 ⟨rfl, g2⟩
    go_wp2
    go_ret
    exact ⟨rfl, gb_trans g1 g2 (fun x e => by cases e; exact Or.inl hrb)⟩
  · have hkn : k = n := by omega
    have hlt : ¬ (4 : Int) < (n : Int) := by omega
    rw [hkn] at cn s1
    clear hkn hk2 hk hn htt hb hb4
    go_enter Try.func21, Try.ntmps21
    go_wp2_with fail
    refine cn.mono ?_
    rintro e w1 ⟨rb, rfl, hrb, hR, g1⟩
    go_wp2_with fail
    refine (cu w1 rb hR).mono ?_
    rintro e w2 ⟨rfl, g2⟩
    go_wp2
    go_ret
    exact ⟨rfl, gb_trans g1 g2 (fun x e => by cases e; exact Or.inl hrb)⟩

set_option maxRecDepth 100000 in
theorem pad_any (w : World) (ao : Option Addr) (c : Nat) (l : List UInt8) (hb : Bts w ao c l) (hl : l.length ≤ 4194304) :
    Calls Try.prog 7 #[.slice ao l.length c] w fun e w' => ∃ b, e = .returned (.tuple #[.slice (some ⟨b, 0, none⟩) (pdN l.length) (pdN l.length), .int .i64 0]) ∧ w.heap.size ≤ b ∧ Blk w' b 5 ((padL l).map bv) ∧ w.grownBy w' none := by
  obtain ⟨n, hn⟩ : ∃ n, n = l.length := ⟨_, rfl⟩
  have cp := padded_any w (n : Int)
  rw [← hn] at hl ⊢
  rw [pdI_nat n hl] at cp
  obtain ⟨m, hm⟩ : ∃ m, m = pdN n := ⟨_, rfl⟩
  have hnm : n + 4 ≤ m ∧ m < n + 260 := by rw [hm]; exact ⟨pdN_le n, pdN_lt n⟩
  rw [← hm] at cp ⊢
  have hmk := make_bytes w m (by omega)
  obtain ⟨W1, hW1⟩ : ∃ W1, W1 = w.alloc (.cells ((List.replicate m (0 : UInt8)).map bv).toArray 5) := ⟨_, rfl⟩
  have hB1 : Blk W1 w.heap.size 5 ((List.replicate m (0 : UInt8)).map bv) := by rw [hW1]; exact Blk.new _ _ _
  have g1 : w.grownBy W1 none := by rw [hW1]; exact gb_alloc (gb_refl _ _) _
  have cs := sizedl_any W1 none ao 0 c [] l (Bts.nil _) (hb.kept g1 (fun _ e => by cases e)) (by simp; omega)
  rw [List.nil_append, List.length_nil, ← hn] at cs
  have hlay : (layS l).length = 4 + n := by rw [layS_length, hn]
  have hle : (layS l).length ≤ m := by omega
  have hpad : padL l = layS l ++ List.replicate (m - (layS l).length) 0 := by rw [hlay, hm, hn]; rfl
  rw [← hW1] at hmk
  have HP := hide hpad
  have HL := hide hlay
  have hnb : ¬ 4194304 < n := by omega
  clear hn hm hW1 hpad hlay
  go_enter Try.func7, Try.ntmps7
  go_wp2_with fail
  refine cp.mono ?_
  rintro e w0 ⟨rfl, hw0⟩
  subst w0
  go_wp2_with fail
  refine cs.mono ?_
  rintro e w2 ⟨v2, rfl, ⟨ya, yc, rfl, hY, _⟩, g2⟩
  have hB2 := hB1.kept g2 (by simp)
  have hcp := copy_bts w2 w.heap.size 0 m m ya yc (layS l) hY (hB2.there 0 (min (layS l).length m) (by simp; omega))
  rw [Nat.min_eq_left hle, List.take_length] at hcp
  obtain ⟨W3, hW3⟩ : ∃ W3, W3 = w2.setCells w.heap.size 0 ((layS l).map bv) := ⟨_, rfl⟩
  have hB3 := hB2.filled (layS l) hle
  have g3 : w.grownBy W3 none := by rw [hW3]; exact gb_setCells (Or.inl (Nat.le_refl _)) _ _ (tn g1 g2)
  rw [← hW3] at hcp hB3
  rw [← unhide HP] at hB3
  rw [unhide HL] at hcp ⊢
  clear hW3
  go_wp2
  go_ret2
  exact ⟨w.heap.size, rfl, Nat.le_refl _, hB3, g3⟩

/-- What Unpad answers. -/
def unpO (w w' : World) (e : Ending) (r : Option (List UInt8)) : Prop :=
  match r with
  | none => e = .returned (.tuple #[.slice none 0 0, .int .i64 11])
  | some l => ∃ v, e = .returned (.tuple #[v, .int .i64 0]) ∧ w'.ownsRow w.heap.size 5 1 v l.length (l.map bv)

set_option maxRecDepth 100000 in
theorem unpad_any (w : World) (ao : Option Addr) (c : Nat) (b : List UInt8) (hb : Bts w ao c b) (hl : b.length ≤ 100000) :
    Calls Try.prog 9 #[.slice ao b.length c] w fun e w' => unpO w w' e (unpL b) ∧ w.grownBy w' none := by
  have ct := told_any w ao c b hb
  have htl := tolN_lt b
  obtain ⟨n, hn⟩ : ∃ n, n = b.length := ⟨_, rfl⟩
  obtain ⟨t, ht⟩ : ∃ t, t = tolN b := ⟨_, rfl⟩
  rw [← ht] at ct htl
  rw [← hn] at ct hl ⊢
  have hfit := hb.fits
  by_cases hc : (n : Int) = pdI t
  · have ht4 : t ≤ 4194304 := by
      apply Decidable.byContradiction
      intro hh
      unfold pdI at hc
      rw [if_pos (Or.inr (by omega))] at hc
      rw [ht] at hh
      unfold tolN at hh
      rw [if_pos (by omega)] at hh
      omega
    have hpn := pdI_nat t ht4
    have h3 := pdN_le t
    have hcN : n = pdN t := by omega
    have hnt : t + 4 ≤ n := by omega
    obtain ⟨ad, had⟩ : ∃ ad, ao = some ad := by
      cases ao with
      | none => have := (hb.zip rfl).1; omega
      | some ad => exact ⟨ad, rfl⟩
    have hsp := hb.shape ad had (by omega)
    obtain ⟨bb, oo, sp⟩ := ad
    simp only at hsp
    subst hsp had
    have s1 := fun W => slice_from (P := Try.prog) W 22 5 Try.underlying22 size_byte (some ⟨bb, oo, none⟩) n c 4 (by omega)
    have ecut : cutA (some ⟨bb, oo, none⟩) c 4 = some ⟨bb, oo + 4, none⟩ := by
      unfold cutA
      have := pdN_mod t
      rw [if_neg (by omega)]
      rfl
    rw [ecut] at s1
    have s1' : ∀ W, (Instr.slice 22 (.slice (some ⟨bb, oo, none⟩) n c) (some (.int .i64 4)) none none).run Try.prog W = .ok (.slice (some ⟨bb, oo + 4, none⟩) (n - 4) (c - 4)) W := s1
    have s2 := fun W => slice_from (P := Try.prog) W 22 5 Try.underlying22 size_byte (some ⟨bb, oo + 4, none⟩) (n - 4) (c - 4) t (by omega)
    have s3 := fun W => slice_to (P := Try.prog) W 22 5 Try.underlying22 size_byte (some ⟨bb, oo + 4, none⟩) (n - 4) (c - 4) t (by omega)
    have hb4 := hb.drop 4 (by omega)
    rw [ecut] at hb4
    have hbt := hb4.drop t (by simp; omega)
    have hbk := hb4.take t (by simp; omega)
    have hlen1 : ((b.drop 4).drop t).length = n - 4 - t := by simp; omega
    have hlen2 : ((b.drop 4).take t).length = t := by simp; omega
    obtain ⟨az, haz⟩ : ∃ az, az = ((b.drop 4).drop t).all (· == 0) := ⟨_, rfl⟩
    have hu : unpL b = if az = true then some ((b.drop 4).take t) else none := by
      unfold unpL
      rw [← ht, ← hn, haz]
      simp only [hc, true_and]
    have cp := fun W => padded_any W (t : Int)
    rw [← hc] at cp
    obtain ⟨Z, hZ⟩ : ∃ Z, Z = (b.drop 4).drop t := ⟨_, rfl⟩
    obtain ⟨X, hX⟩ : ∃ X, X = (b.drop 4).take t := ⟨_, rfl⟩
    rw [← hZ] at hbt hlen1 haz
    rw [← hX] at hbk hlen2 hu
    rw [hu]
    obtain ⟨q, hq⟩ : ∃ q, q = n - 4 := ⟨_, rfl⟩
    obtain ⟨p, hp⟩ : ∃ p, p = q - t := ⟨_, rfl⟩
    rw [← hq] at s1' s2 s3 hlen1
    rw [← hp] at s2 hlen1
    have hw4 : ¬ (n : Int) < 4 := by omega
    have HL1 := hide hlen1
    have HL2 := hide hlen2
    have HBT := hide hbt
    have HBK := hide hbk
    have HAZ := hide haz
    have hpb : p ≤ 100000000 := by omega
    have htb : t ≤ 1000000 := by omega
    clear hu hZ hX hlen1 hlen2 hbt hbk haz hb4 hb hn ht hc hpn h3 hcN s1 ecut hq hp hfit
    cases az with
    | true =>
      rw [if_pos rfl]
      go_enter Try.func9, Try.ntmps9
      go_wp2_with fail
      refine ct.mono ?_
      rintro e w1 ⟨rfl, g1⟩
      go_wp2_with fail
      refine (cp w1).mono ?_
      rintro e w2 ⟨rfl, hw2⟩
      subst w2
      go_wp2_with fail
      have ca := allzero_any w1 _ _ Z ((unhide HBT).kept g1 (fun _ e => by cases e)) (by rw [unhide HL1]; omega)
      rw [unhide HL1, ← unhide HAZ] at ca
      refine ca.mono ?_
      rintro e w2 ⟨rfl, hw2⟩
      subst w2
      clear ca
      go_wp2_with fail
      have cc := bclone_any w1 _ _ _ X ((unhide HBK).kept g1 (fun _ e => by cases e)) (by rw [unhide HL2]; omega)
      rw [unhide HL2] at cc
      refine cc.mono ?_
      rintro e w2 ⟨v2, rfl, ho2, g2⟩
      clear cc
      go_wp2
      go_ret2
      refine ⟨⟨v2, rfl, ?_⟩, tn g1 g2⟩
      rw [unhide HL2]
      exact own_low ho2 g1.size
    | false =>
      rw [if_neg (by decide)]
      go_enter Try.func9, Try.ntmps9
      go_wp2_with fail
      refine ct.mono ?_
      rintro e w1 ⟨rfl, g1⟩
      go_wp2_with fail
      refine (cp w1).mono ?_
      rintro e w2 ⟨rfl, hw2⟩
      subst w2
      go_wp2_with fail
      have ca := allzero_any w1 _ _ Z ((unhide HBT).kept g1 (fun _ e => by cases e)) (by rw [unhide HL1]; omega)
      rw [unhide HL1, ← unhide HAZ] at ca
      refine ca.mono ?_
      rintro e w2 ⟨rfl, hw2⟩
      subst w2
      clear ca
      go_wp2
      go_ret2
      exact ⟨rfl, g1⟩
  · have hu : unpL b = none := by
      unfold unpL
      rw [if_neg (fun h => hc (by rw [hn, ht]; exact h.1))]
    rw [hu]
    obtain ⟨k, hk⟩ := Int.eq_ofNat_of_zero_le (pdI_ge t)
    have cp := fun W => padded_any W (t : Int)
    rw [hk] at hc cp
    have hne : ¬ n = k := by omega
    have hneb : ((n : Int) != (k : Int)) = true := by simp; omega
    clear hu hn ht hk
    go_enter Try.func9, Try.ntmps9
    go_wp2_with fail
    refine ct.mono ?_
    rintro e w1 ⟨rfl, g1⟩
    go_wp2_with fail
    refine (cp w1).mono ?_
    rintro e w2 ⟨rfl, hw2⟩
    subst w2
    go_wp2
    go_ret2
    exact ⟨rfl, g1⟩

end Go.Proofs.Ytadkpkdojbhigaa
