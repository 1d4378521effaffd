/- What the document's Pad and Unpad (package coffretref12) answer, of texts of at most 4194304 bytes, and of bytes of at most 100000. -/
import Derived.Test.YtadkpkdojbhigaaCkM
import Derived.Test.YtadkpkdojbhigaaRNumN
import Derived.Test.YtadkpkdojbhigaaMIdx
import Derived.Test.YtadkpkdojbhigaaMBlk
namespace Go.Proofs.Ytadkpkdojbhigaa
open Go.RowKit

set_option maxRecDepth 100000 in
set_option maxHeartbeats 1000000 in
theorem rpad_any (w : World) (l : List UInt8) (hl : l.length ≤ 4194304) :
    Calls Try.prog 8 #[.string (str l)] w fun e w' => e = .returned (.tuple #[.string (str (padL l)), .int .i64 0]) ∧ w.grownBy w' none := by
  have hs1 : ({ data := #[0] } : ByteArray) = str [0] := rfl
  have cs := rsized_any w [] l (by simp; omega)
  rw [List.nil_append] at cs
  obtain ⟨n, hn⟩ : ∃ n, n = l.length := ⟨_, rfl⟩
  obtain ⟨m, hm⟩ : ∃ m, m = pdN n - (4 + n) := ⟨_, rfl⟩
  have hm2 : m < 256 := by have := pdN_lt n; omega
  have hm3 := pdN_le n
  have hm4 := pdN_mod n
  obtain ⟨SL, hSL⟩ : ∃ S, S = str l := ⟨_, rfl⟩
  have hsz0 : SL.size = n := by rw [hSL, str_size, hn]
  rw [← hn] at hl
  rw [← hSL] at cs ⊢
  have hpl : padL l = layS l ++ List.replicate m 0 := by rw [hm, hn]; rfl
  rw [hpl]
  have hll : (layS l).length = 4 + n := by rw [layS_length, hn]
  obtain ⟨Y, hY⟩ : ∃ Y, Y = layS l := ⟨_, rfl⟩
  rw [← hY] at hll cs ⊢
  have hs0 : str [] = ({ data := #[] } : ByteArray) := rfl
  rw [hs0] at cs
  have hY0 : str Y = str (Y ++ List.replicate 0 0) := by simp
  rw [hY0] at cs
  have HM := hide hm
  have HLL := hide hll
  have hnb : ¬ 4194304 < n := by omega
  clear hn hm hSL hpl hY hs0 hY0 hll
  go_enter Try.func8, Try.ntmps8
  go_wp2_with fail
  refine cs.mono ?_
  rintro e w1 ⟨rfl, g1⟩
  clear cs
  go_wp2_with fail
  go_loopw [4] (fun so wr => ∃ r : Nat, r ≤ m ∧ so = .string (str (Y ++ List.replicate r 0)) ∧ wr = w1) (fun so _ => 4 + n + 256 - (match so with | .string b => b.size | _ => 0))
  case atStart => exact ⟨0, Nat.zero_le _, by simp, rfl⟩
  case round =>
    obtain ⟨r, hr, rfl, rfl⟩ := hrel
    obtain ⟨S, hS⟩ : ∃ S, S = str (Y ++ List.replicate r (0 : UInt8)) := ⟨_, rfl⟩
    obtain ⟨z, hzz⟩ : ∃ z, z = 4 + n + r := ⟨_, rfl⟩
    have hz : S.size = z := by rw [hS, str_size, List.length_append, List.length_replicate, unhide HLL, hzz]
    rw [← hS]
    have hmm := unhide HM
    by_cases hlt : r < m
    · obtain ⟨q, hq⟩ : ∃ q, q = z % 256 := ⟨_, rfl⟩
      have hq0 : q ≠ 0 := by omega
      have d1 : Int.tmod (z : Int) 256 = (q : Int) := by rw [Int.tmod_eq_emod_of_nonneg (by omega)]; omega
      have d2 : (z : Int) % 256 = (q : Int) := by omega
      have d4 : ¬ (q : Int) = 0 := by omega
      have d5 : IntKind.i64.wrap (q : Int) = (q : Int) := by rw [IntKind.wrap_i64]; omega
      have d6 : ((q : Int) != 0) = true := by simpa using hq0
      have d7 : (str [0]).size = 1 := rfl
      have d8 : ¬ 9223372036854775807 < z + 1 := by omega
      have hap : S ++ str [0] = str (Y ++ List.replicate (r + 1) 0) := by rw [hS, str_app, List.append_assoc, List.replicate_succ']
      have hsz : (S ++ str [0]).size = z + 1 := by rw [hap, str_size, List.length_append, List.length_replicate, unhide HLL, hzz]; omega
      have hzb : z < 4 + n + 256 := by omega
      have HAP := hide hap
      have HSZ := hide hsz
      clear hap hsz hS hq hmm hzz
      go_wp2
      go_roundw
      case rel => exact ⟨r + 1, by omega, by rw [unhide HAP], trivial⟩
      case measure =>
        show 4 + n + 256 - (S ++ str [0]).size < 4 + n + 256 - S.size
        rw [unhide HSZ, hz]
        omega
    · obtain rfl : r = m := by omega
      have d1 : Int.tmod (z : Int) 256 = 0 := by rw [Int.tmod_eq_emod_of_nonneg (by omega)]; omega
      have d2 : (z : Int) % 256 = 0 := by omega
      have HS := hide hS
      clear hS hmm hzz
      go_wp2
      go_ret2
      exact ⟨by rw [← unhide HS]; rfl, g1⟩

/-- What the document's Unpad answers. -/
def runpV (r : Option (List UInt8)) : Value :=
  match r with
  | none => .tuple #[.string (str []), .int .i64 11]
  | some l => .tuple #[.string (str l), .int .i64 0]

set_option maxRecDepth 100000 in
set_option maxHeartbeats 1000000 in
theorem runpad_any (w : World) (b : List UInt8) (hl : b.length ≤ 100000) :
    Calls Try.prog 10 #[.string (str b)] w fun e w' => e = .returned (runpV (unpL b)) ∧ w.grownBy w' none := by
  have cn := rnum_any w b 0 4 (by omega)
  have hnb : nb 4 = 4 := by decide
  obtain ⟨n, hn⟩ : ∃ n, n = b.length := ⟨_, rfl⟩
  obtain ⟨t, ht⟩ : ∃ t, t = tolN b := ⟨_, rfl⟩
  have htl := tolN_lt b
  have e1 : (numS b 0 4).1 = t := by
    rw [ht]
    unfold numS tolN
    rw [if_pos rfl, hnb]
    split <;> rfl
  rw [e1] at cn
  obtain ⟨l1, hl1⟩ : ∃ l1, l1 = (numS b 0 4).2.1 := ⟨_, rfl⟩
  obtain ⟨k1, hk1⟩ : ∃ k1, k1 = (numS b 0 4).2.2 := ⟨_, rfl⟩
  rw [← hl1, ← hk1] at cn
  rw [unp_doc b]
  obtain ⟨SB, hSB⟩ : ∃ S, S = str b := ⟨_, rfl⟩
  have hsz0 : SB.size = n := by rw [hSB, str_size, hn]
  obtain ⟨S1, hS1⟩ : ∃ S, S = str l1 := ⟨_, rfl⟩
  rw [← ht] at htl
  rw [← hSB, ← hS1] at cn
  rw [← hSB]
  have hl9 : n ≤ 100000 := by rw [hn]; exact hl
  have hw : IntKind.i64.wrap (t : Int) = (t : Int) := by rw [IntKind.wrap_i64]; omega
  by_cases h4 : n < 4
  · rw [← ht, ← hn, if_pos (Or.inl h4)]
    have h4i : (n : Int) < 4 := by omega
    clear hn ht hl1 hk1 hSB hS1 e1
    go_enter Try.func10, Try.ntmps10
    go_wp2_with fail
    refine cn.mono ?_
    rintro e w1 ⟨rfl, g1⟩
    clear cn
    go_wp2
    go_ret2
    exact ⟨rfl, gb_alloc g1 _⟩
  · have h4i : ¬ (n : Int) < 4 := by omega
    by_cases h5 : 4194304 < t
    · rw [← ht, ← hn, if_pos (Or.inr (Or.inl h5))]
      have h5i : (4194304 : Int) < (t : Int) := by omega
      clear hn ht hl1 hk1 hSB hS1 e1
      go_enter Try.func10, Try.ntmps10
      go_wp2_with fail
      refine cn.mono ?_
      rintro e w1 ⟨rfl, g1⟩
      clear cn
      go_wp2
      go_ret2
      exact ⟨rfl, gb_alloc g1 _⟩
    · have h5i : ¬ (4194304 : Int) < (t : Int) := by omega
      by_cases h6 : n - 4 < t
      · rw [← ht, ← hn, if_pos (Or.inr (Or.inr h6))]
        have h6i : (n : Int) - 4 < (t : Int) := by omega
        clear hn ht hl1 hk1 hSB hS1 e1
        go_enter Try.func10, Try.ntmps10
        go_wp2_with fail
        refine cn.mono ?_
        rintro e w1 ⟨rfl, g1⟩
        clear cn
        go_wp2
        go_ret2
        exact ⟨rfl, gb_alloc g1 _⟩
      · rw [← ht, ← hn, if_neg (by omega)]
        have h6i : ¬ (n : Int) - 4 < (t : Int) := by omega
        obtain ⟨X, hX⟩ : ∃ X, X = (b.drop 4).take t := ⟨_, rfl⟩
        have hXl : X.length = t := by rw [hX]; simp; omega
        rw [← hX]
        have hsl := fun W => slice_str b 4 (4 + t) (by omega) (by omega) W
        rw [Nat.add_sub_cancel_left, ← hX, ← hSB] at hsl
        have ei : ((4 + t : Nat) : Int) = 4 + (t : Int) := by omega
        rw [ei] at hsl
        have hsl2 : ∀ W, (Instr.slice 9 (.string SB) (some (.int .i64 4)) (some (.int .i64 (4 + (t : Int)))) none).run Try.prog W = .ok (.string (str X)) W := hsl
        have cp := fun W => rpad_any W X (by omega)
        obtain ⟨SX, hSX⟩ : ∃ S, S = str X := ⟨_, rfl⟩
        obtain ⟨SP, hSP⟩ : ∃ S, S = str (padL X) := ⟨_, rfl⟩
        rw [← hSX] at hsl2
        rw [← hSX, ← hSP] at cp
        have hw2 : IntKind.i64.wrap (4 + (t : Int)) = 4 + (t : Int) := by rw [IntKind.wrap_i64]; omega
        by_cases hpe : padL X = b
        · rw [if_pos hpe]
          have hq : SP = SB := by rw [hSP, hSB, hpe]
          have HSX := hide hSX
          subst hq
          clear hn ht hl1 hk1 hSB hS1 e1 hX hXl hsl ei hpe hSX hSP
          go_enter Try.func10, Try.ntmps10
          go_wp2_with fail
          refine cn.mono ?_
          rintro e w1 ⟨rfl, g1⟩
          clear cn
          go_wp2_with fail
          refine (cp _).mono ?_
          rintro e w2 ⟨rfl, g2⟩
          clear cp
          go_wp2
          go_ret2
          exact ⟨by rw [runpV, ← unhide HSX]; rfl, tn (gb_alloc g1 _) g2⟩
        · rw [if_neg hpe]
          have hq : ¬ SP.toList = SB.toList := by rw [hSP, hSB, str_list, str_list]; exact hpe
          have hqb : (SP.toList == SB.toList) = false := by simpa using hq
          clear hn ht hl1 hk1 hSB hS1 e1 hX hXl hsl ei hpe hSX hSP
          go_enter Try.func10, Try.ntmps10
          go_wp2_with fail
          refine cn.mono ?_
          rintro e w1 ⟨rfl, g1⟩
          clear cn
          go_wp2_with fail
          refine (cp _).mono ?_
          rintro e w2 ⟨rfl, g2⟩
          clear cp
          go_wp2
          go_ret2
          exact ⟨rfl, tn (gb_alloc g1 _) g2⟩

end Go.Proofs.Ytadkpkdojbhigaa
