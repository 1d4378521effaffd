/- What the document's answer for layer 6 (package coffretref06) makes of a length: the zeros that make a multiple of 16, and its eight bytes, the lowest first. No condition but the bounds that each lemma names. -/
import Derived.Test.YtjckdgapefaokaaDoorPRefK
import Derived.Test.YtjckdgapefaokaaDoorMStr
import Derived.Test.YtjckdgapefaokaaDoorKEqual
import Derived.Laws.BitsAllLaws
import Derived.Laws.ShiftsVarLaws
namespace Go.Proofs.YtjckdgapefaokaaDoor
open Go.RowKit

theorem str_one (y : UInt8) : ({ data := #[y] } : ByteArray) = str [y] := rfl

set_option maxRecDepth 100000 in
set_option maxHeartbeats 1000000 in
theorem rzeros_any (w : World) (n : Nat) (hn : n ≤ 1099511627776) :
    Calls Tryd.prog 63 #[.int .i64 (n : Int)] w fun e w' => e = .returned (.string (str (zer16 n))) ∧ w.grownBy w' none := by
  obtain ⟨m, hm⟩ : ∃ m, m = (16 - n % 16) % 16 := ⟨_, rfl⟩
  have hm16 : m < 16 := by omega
  have hs0 : (Value.string { data := #[] }) = .string (str (List.replicate 0 0)) := rfl
  have hs1 : ({ data := #[0] } : ByteArray) = str [0] := rfl
  have HM := hide hm
  clear hm
  go_enter Tryd.func63, Tryd.ntmps63
  go_wp2
  go_loopw [3] (fun so wr => ∃ r : Nat, r ≤ m ∧ so = .string (str (List.replicate r 0)) ∧ wr = w) (fun so _ => 16 - (match so with | .string b => b.size | _ => 0))
  case atStart => exact ⟨0, Nat.zero_le _, rfl, rfl⟩
  case round =>
    obtain ⟨r, hr, rfl, rfl⟩ := hrel
    obtain ⟨S, hS⟩ : ∃ S, S = str (List.replicate r (0 : UInt8)) := ⟨_, rfl⟩
    have hz : S.size = r := by rw [hS, str_size, List.length_replicate]
    rw [← hS]
    have hmm := unhide HM
    by_cases hlt : r < m
    · obtain ⟨q, hq⟩ : ∃ q, q = (n + r) % 16 := ⟨_, rfl⟩
      have hq0 : q ≠ 0 := by omega
      have d1 : Int.tmod ((n : Int) + (r : Int)) 16 = (q : Int) := by rw [Int.tmod_eq_emod_of_nonneg (by omega)]; omega
      have d2 : ((n : Int) + (r : Int)) % 16 = (q : Int) := by omega
      have d3 : IntKind.i64.wrap ((n : Int) + (r : Int)) = (n : Int) + (r : Int) := by rw [IntKind.wrap_i64]; omega
      have d4 : ¬ (q : Int) = 0 := by omega
      have d5 : IntKind.i64.wrap (q : Int) = (q : Int) := by rw [IntKind.wrap_i64]; omega
      have d6 : ((q : Int) != 0) = true := by simpa using hq0
      have d7 : (str [0]).size = 1 := rfl
      have d8 : ¬ 9223372036854775807 < r + 1 := by omega
      have hap : S ++ str [0] = str (List.replicate (r + 1) 0) := by rw [hS, str_app, List.replicate_succ']
      have hsz : (S ++ str [0]).size = r + 1 := by rw [hap, str_size, List.length_replicate]
      have HAP := hide hap
      have HSZ := hide hsz
      clear hap hsz hS hq hmm
      go_wp2
      go_roundw
      case rel => exact ⟨r + 1, by omega, by rw [unhide HAP], trivial⟩
      case measure =>
        show 16 - (S ++ str [0]).size < 16 - S.size
        rw [unhide HSZ, hz]
        omega
    · obtain rfl : r = m := by omega
      have d1 : Int.tmod ((n : Int) + (r : Int)) 16 = 0 := by rw [Int.tmod_eq_emod_of_nonneg (by omega)]; omega
      have d2 : ((n : Int) + (r : Int)) % 16 = 0 := by omega
      have d3 : IntKind.i64.wrap ((n : Int) + (r : Int)) = (n : Int) + (r : Int) := by rw [IntKind.wrap_i64]; omega
      have hSz : S = str (zer16 n) := by rw [hS, hmm, zer16]
      have HS := hide hSz
      clear hS hSz hmm
      go_wp2
      go_ret
      exact ⟨by rw [unhide HS]; rfl, gb_refl _ _⟩

set_option maxRecDepth 100000 in
set_option maxHeartbeats 1000000 in
theorem rlength_any (w : World) (n : Nat) (hn : n ≤ 1099511627776) :
    Calls Tryd.prog 64 #[.int .i64 (n : Int)] w fun e w' => e = .returned (.string (str (leB 8 n))) ∧ w.grownBy w' none := by
  obtain ⟨xs, hxs⟩ : ∃ xs, xs = leB 8 n := ⟨_, rfl⟩
  have hxl : xs.length = 8 := by rw [hxs]; exact leB_length _ _
  have hs0 : (Value.string { data := #[] }) = .string (str (xs.take 0)) := rfl
  rw [← hxs]
  have HXS := hide hxs
  have HXL := hide hxl
  clear hxs hxl
  go_enter Tryd.func64, Tryd.ntmps64
  go_wp2
  go_loopw [3, 4] (fun so i wr => ∃ r : Nat, r ≤ 8 ∧ i = .int .i64 (r : Int) ∧ so = .string (str (xs.take r)) ∧ w.grownBy wr none) (fun _ i _ => 8 - (intOf i).toNat)
  case atStart => exact ⟨0, Nat.zero_le _, rfl, rfl, gb_refl _ _⟩
  case round =>
    obtain ⟨r, hr, rfl, rfl, hg⟩ := hrel
    by_cases hlt : r < 8
    · obtain ⟨S, hS⟩ : ∃ S, S = str (xs.take r) := ⟨_, rfl⟩
      have hz : S.size = r := by rw [hS, str_size, List.length_take, unhide HXL]; omega
      rw [← hS]
      obtain ⟨q, hq⟩ : ∃ q, q = 8 * r := ⟨_, rfl⟩
      obtain ⟨v, hv⟩ : ∃ v, v = n / 2 ^ q := ⟨_, rfl⟩
      have hvn : v ≤ n := by rw [hv]; exact Nat.div_le_self _ _
      have q1 : (8 : Int) * (r : Int) = (q : Int) := by omega
      have q2 : IntKind.i64.wrap (q : Int) = (q : Int) := by rw [IntKind.wrap_i64]; omega
      have q3 : IntKind.u64.wrap (q : Int) = (q : Int) := by rw [IntKind.wrap_u64]; omega
      have q4 : ¬ (64 : Int) ≤ (q : Int) := by omega
      have q5 : (0 : Int) ≤ (q : Int) := by omega
      have q6 : (n : Int) % 18446744073709551616 = (n : Int) := by omega
      have q7 : IntKind.u64.wrap (n : Int) = (n : Int) := by rw [IntKind.wrap_u64]; omega
      have q8 : (n : Int) / 2 ^ q = (v : Int) := by rw [hv, Int.natCast_ediv, Int.natCast_pow]; rfl
      have q9 : (q : Int) % 18446744073709551616 = (q : Int) := by omega
      have hcv := conv_str (bts_one wr v)
      rw [show [UInt8.ofNat v].length = 1 from rfl] at hcv
      have hs1 : (str [UInt8.ofNat v]).size = 1 := rfl
      have d8 : ¬ 9223372036854775807 < r + 1 := by omega
      have hap : S ++ str [UInt8.ofNat v] = str (xs.take (r + 1)) := by
        rw [hS, str_app, take_snoc (show r < xs.length by rw [unhide HXL]; exact hlt)]
        congr 2
        have : xs[r]'(by rw [unhide HXL]; exact hlt) = UInt8.ofNat v := by
          simp only [unhide HXS, leB, List.getElem_map, List.getElem_range]
          rw [hv, hq, show (256 : Nat) = 2 ^ 8 from rfl, ← Nat.pow_mul]
        rw [this]
      have HAP := hide hap
      clear hap hS hv hq
      go_wp2
      go_roundw
      case rel => exact ⟨r + 1, by omega, by go_num, by rw [unhide HAP], gb_alloc hg _⟩
      case measure => simp [intOf]; omega
    · obtain rfl : r = 8 := by omega
      rw [List.take_of_length_le (by rw [unhide HXL]; exact Nat.le_refl _), show ((8 : Nat) : Int) = 8 from rfl]
      go_wp2
      go_ret
      exact ⟨rfl, hg⟩
end Go.Proofs.YtjckdgapefaokaaDoor
