/- '[]byte(s)': a string's bytes, in memory of their own. No condition but those that each lemma names. -/
import Derived.Test.YtjckdgapefaokaaDoorDPut
import Derived.Test.YtjckdgapefaokaaDoorKEqual
import Derived.Laws.IdiomStrings
import Derived.Test.YtjckdgapefaokaaDoorCofA
import Derived.Test.YtjckdgapefaokaaDoorCofB
import Derived.Test.YtjckdgapefaokaaDoorCofC
import Derived.Test.YtjckdgapefaokaaDoorCofD
import Derived.Test.YtjckdgapefaokaaDoorBMath
namespace Go.Proofs.YtjckdgapefaokaaDoor
open Go.RowKit

/-- '[]byte(s)'. -/
theorem str_bytes (w : World) (l : List UInt8) (hl : l.length ≤ maxLen) : ∃ cap W1, (convert 9 22 (.string (str l))).run Tryd.prog w = .ok (.slice (some ⟨w.heap.size, 0, none⟩) l.length cap) W1 ∧ Bts W1 (some ⟨w.heap.size, 0, none⟩) cap l ∧ w.grownBy W1 none := by
  have h := run_bytes_of_string (P := Tryd.prog) w 9 22 5 (str l) Tryd.underlying9 Tryd.underlying22 Tryd.underlying5
  rw [str_size] at h
  refine ⟨_, _, h, ?_, gb_alloc (gb_drew (gb_refl _ _)) _⟩
  refine ⟨(fun e => by cases e), grownCap_ge _ _ _ _, grownCap_le_maxLen _ _ _ _ hl, (fun ad e _ => by cases e; rfl), (fun ad e i hi => ?_)⟩
  cases e
  have hh : (w.drew.alloc (.cells (bytesRow (str l) (grownCap w l.length 0 5)) 5 ((bytesRow (str l) (grownCap w l.length 0 5)).size, (bytesRow (str l) (grownCap w l.length 0 5)).size + 1))).heap[w.heap.size]? = some (.cells (bytesRow (str l) (grownCap w l.length 0 5)) 5 ((bytesRow (str l) (grownCap w l.length 0 5)).size, (bytesRow (str l) (grownCap w l.length 0 5)).size + 1)) := heap_alloc_new w.drew _
  rw [show (⟨w.heap.size, 0, none⟩ : Addr).off + i = i from Nat.zero_add i, cell_of_row _ _ _ _ _ _ hh]
  unfold bytesRow
  rw [Array.getElem?_append_left (by simp [str]; exact hi)]
  simp [str, hi]

theorem str_typ (w : World) (l : List UInt8) (hl : l.length ≤ maxLen) : ∃ cap W1, (convert 9 22 (.string (str l))).run Tryd.prog w = .ok (.slice (some ⟨w.heap.size, 0, none⟩) l.length cap) W1 ∧ Bts W1 (some ⟨w.heap.size, 0, none⟩) cap l ∧ Typ W1 w.heap.size ∧ w.grownBy W1 none := by
  obtain ⟨cap, W1, h1, h2, h3⟩ := str_bytes w l hl
  refine ⟨cap, W1, h1, h2, ?_, h3⟩
  have h := run_bytes_of_string (P := Tryd.prog) w 9 22 5 (str l) Tryd.underlying9 Tryd.underlying22 Tryd.underlying5
  rw [h] at h1
  injection h1 with _ h4
  rw [← h4]
  exact ⟨_, _, heap_alloc_new w.drew _⟩

end Go.Proofs.YtjckdgapefaokaaDoor

/- No two stretches of at least 28 bytes of the source of the text 'coffret' that begin apart, among its first 2736 bytes, are alike. No condition but those that each lemma names. -/
namespace Go.Proofs.YtjckdgapefaokaaDoor

/-- The sums, in their order. -/
def cofL : List (List Nat) := [cof0, cof1, cof2, cof3, cof4, cof5, cof6, cof7, cof8, cof9, cof10, cof11, cof12, cof13, cof14, cof15, cof16, cof17, cof18, cof19, cof20, cof21, cof22, cof23, cof24, cof25, cof26, cof27, cof28, cof29, cof30, cof31, cof32, cof33, cof34, cof35, cof36, cof37, cof38, cof39, cof40, cof41, cof42, cof43, cof44, cof45, cof46, cof47, cof48, cof49, cof50, cof51, cof52, cof53, cof54, cof55, cof56, cof57, cof58, cof59, cof60, cof61, cof62, cof63, cof64, cof65, cof66, cof67, cof68, cof69, cof70, cof71, cof72, cof73, cof74, cof75, cof76, cof77, cof78, cof79, cof80, cof81, cof82, cof83, cof84, cof85]

/-- The source's first bytes. -/
def cofN : List Nat := [99, 111, 102, 102, 114, 101, 116] ++ cofL.flatten

theorem cof_sums : ∀ k, k < 86 → sumAt cofT k = (cofL.getD k []).map UInt8.ofNat := by
  intro k hk
  rw [sum_cof]
  by_cases h0 : k = 0
  · subst h0; exact cof0_eq
  by_cases h1 : k = 1
  · subst h1; exact cof1_eq
  by_cases h2 : k = 2
  · subst h2; exact cof2_eq
  by_cases h3 : k = 3
  · subst h3; exact cof3_eq
  by_cases h4 : k = 4
  · subst h4; exact cof4_eq
  by_cases h5 : k = 5
  · subst h5; exact cof5_eq
  by_cases h6 : k = 6
  · subst h6; exact cof6_eq
  by_cases h7 : k = 7
  · subst h7; exact cof7_eq
  by_cases h8 : k = 8
  · subst h8; exact cof8_eq
  by_cases h9 : k = 9
  · subst h9; exact cof9_eq
  by_cases h10 : k = 10
  · subst h10; exact cof10_eq
  by_cases h11 : k = 11
  · subst h11; exact cof11_eq
  by_cases h12 : k = 12
  · subst h12; exact cof12_eq
  by_cases h13 : k = 13
  · subst h13; exact cof13_eq
  by_cases h14 : k = 14
  · subst h14; exact cof14_eq
  by_cases h15 : k = 15
  · subst h15; exact cof15_eq
  by_cases h16 : k = 16
  · subst h16; exact cof16_eq
  by_cases h17 : k = 17
  · subst h17; exact cof17_eq
  by_cases h18 : k = 18
  · subst h18; exact cof18_eq
  by_cases h19 : k = 19
  · subst h19; exact cof19_eq
  by_cases h20 : k = 20
  · subst h20; exact cof20_eq
  by_cases h21 : k = 21
  · subst h21; exact cof21_eq
  by_cases h22 : k = 22
  · subst h22; exact cof22_eq
  by_cases h23 : k = 23
  · subst h23; exact cof23_eq
  by_cases h24 : k = 24
  · subst h24; exact cof24_eq
  by_cases h25 : k = 25
  · subst h25; exact cof25_eq
  by_cases h26 : k = 26
  · subst h26; exact cof26_eq
  by_cases h27 : k = 27
  · subst h27; exact cof27_eq
  by_cases h28 : k = 28
  · subst h28; exact cof28_eq
  by_cases h29 : k = 29
  · subst h29; exact cof29_eq
  by_cases h30 : k = 30
  · subst h30; exact cof30_eq
  by_cases h31 : k = 31
  · subst h31; exact cof31_eq
  by_cases h32 : k = 32
  · subst h32; exact cof32_eq
  by_cases h33 : k = 33
  · subst h33; exact cof33_eq
  by_cases h34 : k = 34
  · subst h34; exact cof34_eq
  by_cases h35 : k = 35
  · subst h35; exact cof35_eq
  by_cases h36 : k = 36
  · subst h36; exact cof36_eq
  by_cases h37 : k = 37
  · subst h37; exact cof37_eq
  by_cases h38 : k = 38
  · subst h38; exact cof38_eq
  by_cases h39 : k = 39
  · subst h39; exact cof39_eq
  by_cases h40 : k = 40
  · subst h40; exact cof40_eq
  by_cases h41 : k = 41
  · subst h41; exact cof41_eq
  by_cases h42 : k = 42
  · subst h42; exact cof42_eq
  by_cases h43 : k = 43
  · subst h43; exact cof43_eq
  by_cases h44 : k = 44
  · subst h44; exact cof44_eq
  by_cases h45 : k = 45
  · subst h45; exact cof45_eq
  by_cases h46 : k = 46
  · subst h46; exact cof46_eq
  by_cases h47 : k = 47
  · subst h47; exact cof47_eq
  by_cases h48 : k = 48
  · subst h48; exact cof48_eq
  by_cases h49 : k = 49
  · subst h49; exact cof49_eq
  by_cases h50 : k = 50
  · subst h50; exact cof50_eq
  by_cases h51 : k = 51
  · subst h51; exact cof51_eq
  by_cases h52 : k = 52
  · subst h52; exact cof52_eq
  by_cases h53 : k = 53
  · subst h53; exact cof53_eq
  by_cases h54 : k = 54
  · subst h54; exact cof54_eq
  by_cases h55 : k = 55
  · subst h55; exact cof55_eq
  by_cases h56 : k = 56
  · subst h56; exact cof56_eq
  by_cases h57 : k = 57
  · subst h57; exact cof57_eq
  by_cases h58 : k = 58
  · subst h58; exact cof58_eq
  by_cases h59 : k = 59
  · subst h59; exact cof59_eq
  by_cases h60 : k = 60
  · subst h60; exact cof60_eq
  by_cases h61 : k = 61
  · subst h61; exact cof61_eq
  by_cases h62 : k = 62
  · subst h62; exact cof62_eq
  by_cases h63 : k = 63
  · subst h63; exact cof63_eq
  by_cases h64 : k = 64
  · subst h64; exact cof64_eq
  by_cases h65 : k = 65
  · subst h65; exact cof65_eq
  by_cases h66 : k = 66
  · subst h66; exact cof66_eq
  by_cases h67 : k = 67
  · subst h67; exact cof67_eq
  by_cases h68 : k = 68
  · subst h68; exact cof68_eq
  by_cases h69 : k = 69
  · subst h69; exact cof69_eq
  by_cases h70 : k = 70
  · subst h70; exact cof70_eq
  by_cases h71 : k = 71
  · subst h71; exact cof71_eq
  by_cases h72 : k = 72
  · subst h72; exact cof72_eq
  by_cases h73 : k = 73
  · subst h73; exact cof73_eq
  by_cases h74 : k = 74
  · subst h74; exact cof74_eq
  by_cases h75 : k = 75
  · subst h75; exact cof75_eq
  by_cases h76 : k = 76
  · subst h76; exact cof76_eq
  by_cases h77 : k = 77
  · subst h77; exact cof77_eq
  by_cases h78 : k = 78
  · subst h78; exact cof78_eq
  by_cases h79 : k = 79
  · subst h79; exact cof79_eq
  by_cases h80 : k = 80
  · subst h80; exact cof80_eq
  by_cases h81 : k = 81
  · subst h81; exact cof81_eq
  by_cases h82 : k = 82
  · subst h82; exact cof82_eq
  by_cases h83 : k = 83
  · subst h83; exact cof83_eq
  by_cases h84 : k = 84
  · subst h84; exact cof84_eq
  by_cases h85 : k = 85
  · subst h85; exact cof85_eq
  omega

theorem cofL_length : cofL.length = 86 := rfl
theorem cofL_each : ∀ l ∈ cofL, l.length = 32 := by decide +kernel

theorem flat_at : ∀ (L : List (List Nat)) (k r : Nat), (∀ l ∈ L, l.length = 32) → k < L.length → r < 32 → L.flatten.getD (32 * k + r) 0 = (L.getD k []).getD r 0
  | [], _, _, _, h, _ => by simp at h
  | l :: L, 0, r, hl, _, hr => by
    have h := hl l (by simp)
    simp only [List.flatten_cons, List.getD_cons_zero, Nat.mul_zero, Nat.zero_add]
    simp only [List.getD_eq_getElem?_getD]
    rw [List.getElem?_append_left (by omega)]
  | l :: L, k + 1, r, hl, hk, hr => by
    have h := hl l (by simp)
    have ih := flat_at L k r (fun x hx => hl x (by simp [hx])) (by simpa using hk) hr
    simp only [List.flatten_cons, List.getD_cons_succ]
    rw [← ih]
    simp only [List.getD_eq_getElem?_getD]
    rw [List.getElem?_append_right (by omega), show 32 * (k + 1) + r - l.length = 32 * k + r by omega]

theorem cof_tell (i : Nat) (hi : i < 2759) : (tell cofT i).toNat = cofN.getD i 0 % 256 := by
  unfold tell
  have hT : cofT.length = 7 := rfl
  rw [hT]
  by_cases h : i < 7
  · rw [if_pos h]
    match i, h with
    | 0, _ => rfl
    | 1, _ => rfl
    | 2, _ => rfl
    | 3, _ => rfl
    | 4, _ => rfl
    | 5, _ => rfl
    | 6, _ => rfl
  · rw [if_neg h, cof_sums _ (by omega)]
    have e : cofN.getD i 0 = (cofL.getD ((i - 7) / 32) []).getD ((i - 7) % 32) 0 := by
      rw [← flat_at cofL ((i - 7) / 32) ((i - 7) % 32) cofL_each (by rw [cofL_length]; omega) (by omega)]
      unfold cofN
      simp only [List.getD_eq_getElem?_getD]
      rw [List.getElem?_append_right (by simp; omega)]
      congr 2
      simp; omega
    rw [e]
    generalize cofL.getD ((i - 7) / 32) [] = l
    generalize (i - 7) % 32 = r
    simp only [List.getD_eq_getElem?_getD, List.getElem?_map]
    cases l[r]? with
    | none => rfl
    | some x => simp [UInt8.toNat_ofNat']

/-- Five bytes, as one number. -/
def key5 (a b c d e : Nat) : Nat := (((a * 256 + b) * 256 + c) * 256 + d) * 256 + e

/-- All keys of a row are apart, and none is among those that were seen: n of them are looked at. -/
def apart5 : Nat → List Nat → Nat → Bool
  | 0, _, _ => true
  | n + 1, a :: b :: c :: d :: e :: l, seen => !seen.testBit (key5 a b c d e % 526887) && apart5 n (b :: c :: d :: e :: l) (seen ||| 2 ^ (key5 a b c d e % 526887))
  | _ + 1, _, _ => false

/-- The key at a place. -/
def keyFive (l : List Nat) (p : Nat) : Nat := key5 (l.getD p 0) (l.getD (p + 1) 0) (l.getD (p + 2) 0) (l.getD (p + 3) 0) (l.getD (p + 4) 0)

theorem keyFive_tail (a : Nat) (l : List Nat) (p : Nat) : keyFive (a :: l) (p + 1) = keyFive l p := rfl

theorem apart5_ok : ∀ (n : Nat) (l : List Nat) (seen : Nat), apart5 n l seen = true → (∀ p, p < n → seen.testBit (keyFive l p % 526887) = false) ∧ ∀ p q, p < q → q < n → keyFive l p % 526887 ≠ keyFive l q % 526887
  | 0, _, _, _ => ⟨fun _ h => absurd h (by omega), fun _ _ _ h => absurd h (by omega)⟩
  | n + 1, a :: b :: c :: d :: e :: l, seen, h => by
    unfold apart5 at h
    rw [Bool.and_eq_true] at h
    obtain ⟨h1, h2⟩ := h
    have h1' : seen.testBit (keyFive (a :: b :: c :: d :: e :: l) 0 % 526887) = false := by
      have e0 : keyFive (a :: b :: c :: d :: e :: l) 0 = key5 a b c d e := rfl
      rw [e0]; simpa using h1
    obtain ⟨i1, i2⟩ := apart5_ok n (b :: c :: d :: e :: l) _ h2
    have key : ∀ p, p < n → seen.testBit (keyFive (b :: c :: d :: e :: l) p % 526887) = false ∧ key5 a b c d e % 526887 ≠ keyFive (b :: c :: d :: e :: l) p % 526887 := fun p hp => by
      have := i1 p hp
      rw [Nat.testBit_or, Nat.testBit_two_pow, Bool.or_eq_false_iff] at this
      exact ⟨this.1, by simpa using this.2⟩
    constructor
    · intro p hp
      cases p with
      | zero => exact h1'
      | succ p => rw [keyFive_tail]; exact (key p (by omega)).1
    · intro p q hpq hq
      cases q with
      | zero => omega
      | succ q =>
        rw [keyFive_tail]
        cases p with
        | zero => exact (key q (by omega)).2
        | succ p => rw [keyFive_tail]; exact i2 p q (by omega) (by omega)
  | n + 1, [], _, h => by simp [apart5] at h
  | n + 1, [_], _, h => by simp [apart5] at h
  | n + 1, [_, _], _, h => by simp [apart5] at h
  | n + 1, [_, _, _], _, h => by simp [apart5] at h
  | n + 1, [_, _, _, _], _, h => by simp [apart5] at h

set_option maxRecDepth 100000 in
theorem cof_apart5 : apart5 2709 cofN 0 = true := by kernel_rfl

theorem key_told (u : Nat) (hu : u + 5 ≤ 2759) (l : List UInt8) (hl : l = told cofT u 5) : key5 ((l.getD 0 0).toNat) ((l.getD 1 0).toNat) ((l.getD 2 0).toNat) ((l.getD 3 0).toNat) ((l.getD 4 0).toNat) = key5 (cofN.getD u 0 % 256) (cofN.getD (u + 1) 0 % 256) (cofN.getD (u + 2) 0 % 256) (cofN.getD (u + 3) 0 % 256) (cofN.getD (u + 4) 0 % 256) := by
  subst hl
  rw [← cof_tell u (by omega), ← cof_tell (u + 1) (by omega), ← cof_tell (u + 2) (by omega), ← cof_tell (u + 3) (by omega), ← cof_tell (u + 4) (by omega)]
  rfl

theorem cofN_small : ∀ x ∈ cofN, x < 256 := by decide +kernel

theorem cofN_mod (i : Nat) : cofN.getD i 0 % 256 = cofN.getD i 0 := by
  rw [List.getD_eq_getElem?_getD]
  cases h : cofN[i]? with
  | none => rfl
  | some x => exact Nat.mod_eq_of_lt (cofN_small x (List.mem_of_getElem? h))

/-- THE STRETCHES ARE APART. -/
theorem cof_apart (p q n m : Nat) (hpq : p < q) (hq : q ≤ 2708) (hn : 28 ≤ n) (hm : 28 ≤ m) : told cofT p n ≠ told cofT q m := by
  intro e
  have e5 : told cofT p 5 = told cofT q 5 := by
    rw [← told_take cofT p n 5 (by omega), ← told_take cofT q m 5 (by omega), e]
  have k1 := key_told p (by omega) _ rfl
  have k2 := key_told q (by omega) _ rfl
  rw [e5, k2] at k1
  simp only [cofN_mod] at k1
  have := (apart5_ok 2709 cofN 0 cof_apart5).2 p q hpq (by omega)
  exact this (by unfold keyFive; rw [k1])

end Go.Proofs.YtjckdgapefaokaaDoor

/- A box of the source of 'coffret': what is drawn is new each time. No program is spoken of here. No condition but those that each lemma names. -/
namespace Go.Proofs.YtjckdgapefaokaaDoor

/-- All that was sealed is a stretch of the source of 'coffret', ahead of what is told next. -/
def Cof (b : BoxS) : Prop := b.T = cofT ∧ b.mode = 1 ∧ ∀ s ∈ b.ss, ∃ p n, s = told cofT p n ∧ 28 ≤ n ∧ p + n ≤ b.u

theorem Cof.new {b : BoxS} (h : Cof b) (m : Nat) (hm : 28 ≤ m) (hu : b.u ≤ 2708) : b.known (told b.T b.u m) = false := by
  obtain ⟨h1, _, h3⟩ := h
  unfold BoxS.known
  rw [Bool.eq_false_iff]
  intro hc
  rw [List.contains_iff_mem] at hc
  obtain ⟨p, n, he, hn, hp⟩ := h3 _ hc
  rw [h1] at he
  exact cof_apart p b.u n m (by omega) hu hn hm he.symm

theorem Cof.seals {b : BoxS} (h : Cof b) (k be tx : List UInt8) (hu : b.u ≤ 2708) :
    b.seal k be tx = ({ b with u := b.u + (tx.length + 28), L := b.L ++ [⟨told cofT b.u (tx.length + 28), k, be, tx⟩] }, some (told cofT b.u (tx.length + 28))) ∧ Cof (b.seal k be tx).1 := by
  have hk := h.new (tx.length + 28) (by omega) hu
  have e : b.seal k be tx = ({ b with u := b.u + (tx.length + 28), L := b.L ++ [⟨told cofT b.u (tx.length + 28), k, be, tx⟩] }, some (told cofT b.u (tx.length + 28))) := by
    unfold BoxS.seal
    rw [if_neg (by rw [h.2.1]; omega)]
    unfold BoxS.tries
    rw [hk, ← h.1]
    rfl
  refine ⟨e, ?_⟩
  rw [e]
  refine ⟨h.1, h.2.1, ?_⟩
  intro s hs
  have hs' : s ∈ b.ss ++ [told cofT b.u (tx.length + 28)] := by simpa [BoxS.ss] using hs
  rcases List.mem_append.1 hs' with hs' | hs'
  · obtain ⟨p, n, h1, h2, h3⟩ := h.2.2 s hs'
    exact ⟨p, n, h1, h2, by simp only; omega⟩
  · exact ⟨b.u, tx.length + 28, by simpa using hs', by omega, by simp only; omega⟩

end Go.Proofs.YtjckdgapefaokaaDoor
