/- What chunk's partCount, Padded, Count, allZero answer, and the document's Padded and Count. -/
import Derived.Test.YtadkpkdojbhigaaCkM
namespace Go.Proofs.Ytadkpkdojbhigaa
open Go.RowKit

theorem partc_any (w : World) (n s : Nat) (zn zs : Int) (hzn : zn = (n : Int)) (hzs : zs = (s : Int)) (hs : 0 < s) (h : n + s ≤ 100000000) :
    Calls Try.prog 25 #[.int .i64 zn, .int .i64 zs] w fun e w' => e = .returned (.int .i64 (((n + s - 1) / s : Nat) : Int)) ∧ w' = w := by
  subst hzn hzs
  go_enter Try.func25, Try.ntmps25
  go_wp2
  go_ret
  refine ⟨?_, rfl⟩
  show Ending.returned (Value.int IntKind.i64 (((n : Int) + s - 1) / s)) = _
  rw [show (n : Int) + s - 1 = ((n + s - 1 : Nat) : Int) from by omega]
  rfl

theorem padded_any (w : World) (n : Int) :
    Calls Try.prog 11 #[.int .i64 n] w fun e w' => e = .returned (.int .i64 (pdI n)) ∧ w' = w := by
  by_cases hn : 0 ≤ n ∧ n ≤ 4194304
  · obtain ⟨m, rfl⟩ := Int.eq_ofNat_of_zero_le hn.1
    have hm : m ≤ 4194304 := by omega
    have c := partc_any w (4 + m) 256 (4 + (m : Int)) 256 (by omega) rfl (by omega) (by omega)
    have h1 : ¬ 4194304 < m := by omega
    have h2 : ¬ (m : Int) < 0 := by omega
    have e5 : ((4 + m + 256 - 1) / 256) * 256 = pdN m := by unfold pdN; omega
    obtain ⟨q, hq⟩ : ∃ q, q = (4 + m + 256 - 1) / 256 := ⟨_, rfl⟩
    rw [← hq] at c e5
    have hqb : q ≤ 100000 := by omega
    rw [pdI_nat m hm, ← e5]
    have HC := hide c
    clear c e5 hq
    go_enter Try.func11, Try.ntmps11
    go_wp2_with fail
    refine (unhide HC).mono ?_
    rintro e w' ⟨rfl, hw⟩
    subst w'
    go_wp2
    go_ret
    exact ⟨by simp, rfl⟩
  · have e0 : pdI n = 0 := by unfold pdI; rw [if_pos (by omega)]
    rw [e0]
    by_cases h1 : n < 0
    · go_enter Try.func11, Try.ntmps11
      go_wp2
      go_ret
      exact ⟨rfl, rfl⟩
    · have h2 : 4194304 < n := by omega
      go_enter Try.func11, Try.ntmps11
      go_wp2
      go_ret
      exact ⟨rfl, rfl⟩

theorem count_any (w : World) (n : Int) :
    Calls Try.prog 13 #[.int .i64 n] w fun e w' => e = .returned (.int .i64 (cnI n)) ∧ w' = w := by
  have c := padded_any w n
  obtain ⟨m, hm⟩ := Int.eq_ofNat_of_zero_le (pdI_ge n)
  have hle := pdI_le n
  rw [hm] at c hle
  have c2 := partc_any w m 2048 m 2048 rfl rfl (by omega) (by omega)
  have e : ((m + 2048 - 1) / 2048 : Nat) = cnI n := by unfold cnI; rw [hm]; omega
  rw [e] at c2
  have HC2 := hide c2
  clear c2 e hm
  go_enter Try.func13, Try.ntmps13
  go_wp2_with fail
  refine c.mono ?_
  rintro e w' ⟨rfl, hw⟩
  subst w'
  go_wp2_with fail
  refine (unhide HC2).mono ?_
  rintro e w' ⟨rfl, hw⟩
  subst w'
  go_wp2
  go_ret
  exact ⟨rfl, rfl⟩

set_option maxRecDepth 100000 in
theorem allzero_any (w : World) (ao : Option Addr) (c : Nat) (l : List UInt8) (hb : Bts w ao c l) (hl : l.length ≤ 100000000) :
    Calls Try.prog 22 #[.slice ao l.length c] w fun e w' => e = .returned (.bool (l.all (· == 0))) ∧ w' = w := by
  obtain ⟨n, hn⟩ : ∃ n, n = l.length := ⟨_, rfl⟩
  rw [← hn] at hl ⊢
  obtain ⟨r, hr⟩ : ∃ r, r = l.all (· == 0) := ⟨_, rfl⟩
  rw [← hr]
  have HR := hide hr
  have HN := hide hn
  have HB := hide hb
  clear hb hn hr
  go_enter Try.func22, Try.ntmps22
  go_wp2_with fail
  go_loopw [4, 7] (fun _x i wr => wr = w ∧ ∃ j : Nat, i = .int .i64 j ∧ j ≤ n ∧ (l.take j).all (· == 0) = true) (fun _ i _ => n - (intOf i).toNat)
  case atStart => exact ⟨rfl, 0, rfl, Nat.zero_le _, by simp⟩
  case round =>
    obtain ⟨rfl, j, rfl, hj, hz⟩ := hrel
    by_cases hlt : j < n
    · have hjl : j < l.length := by rw [← unhide HN]; exact hlt
      obtain ⟨ad, had⟩ : ∃ ad, ao = some ad := by
        cases ao with
        | none => have := ((unhide HB).zip rfl).1; omega
        | some ad => exact ⟨ad, rfl⟩
      have hsp := (unhide HB).shape ad had (by omega)
      obtain ⟨b, o, sp⟩ := ad
      simp only at hsp
      subst hsp had
      have hc := (unhide HB).cell _ rfl j hjl
      simp only at hc
      have htk := take_snoc hjl
      obtain ⟨x, hx⟩ : ∃ x, x = l[j] := ⟨_, rfl⟩
      rw [← hx] at hc htk
      have hjw : IntKind.i64.wrap ((j : Int) + 1) = (j : Int) + 1 := by rw [IntKind.wrap_i64]; omega
      have hjlt : (j : Int) < (n : Int) := by omega
      by_cases h0 : x = 0
      · have hx0 : (x.toNat : Int) = 0 := by rw [h0]; rfl
        have hzz : (l.take (j + 1)).all (· == 0) = true := by rw [htk, List.all_append, hz, h0]; rfl
        have HZ := hide hzz
        rw [hx0] at hc
        clear hzz hz htk hx h0 hx0
        go_wp2
        go_roundw
        case rel => exact ⟨trivial, j + 1, by go_num, by omega, unhide HZ⟩
        case measure => simp [intOf]; omega
      · have hx0 : ¬ (x.toNat : Int) = 0 := by
          intro e
          apply h0
          apply UInt8.toNat_inj.1
          simpa using e
        have hall : l.all (· == 0) = false := by
          rw [List.all_eq_false]
          exact ⟨x, by rw [hx]; exact List.getElem_mem hjl, by simpa using h0⟩
        have HA := hide hall
        obtain ⟨xn, hxn⟩ : ∃ k : Nat, k = x.toNat := ⟨_, rfl⟩
        rw [← hxn] at hc hx0
        have hx1 : ¬ xn = 0 := by omega
        clear hall htk hz hx h0 hxn
        go_wp2
        go_ret
        exact ⟨by rw [unhide HR, unhide HA]; rfl, rfl⟩
    · have hjn : j = n := by omega
      have hall : l.all (· == 0) = true := by
        rw [hjn, unhide HN, List.take_length] at hz
        exact hz
      have HA := hide hall
      have hjlt : ¬ (j : Int) < (n : Int) := by omega
      clear hall hz
      go_wp2
      go_ret
      exact ⟨by rw [unhide HR, unhide HA]; rfl, rfl⟩

theorem rpadded_any (w : World) (n : Int) :
    Calls Try.prog 12 #[.int .i64 n] w fun e w' => e = .returned (.int .i64 (pdI n)) ∧ w' = w := by
  by_cases hn : 0 ≤ n ∧ n ≤ 4194304
  · obtain ⟨m, rfl⟩ := Int.eq_ofNat_of_zero_le hn.1
    have hm : m ≤ 4194304 := by omega
    have h1 : ¬ 4194304 < m := by omega
    have h2 : ¬ (m : Int) < 0 := by omega
    have e5 : ((m : Int) + 4 + 255) / 256 * 256 = (pdN m : Nat) := by unfold pdN; omega
    rw [pdI_nat m hm]
    have HE := hide e5
    clear e5
    go_enter Try.func12, Try.ntmps12
    go_wp2
    go_ret
    refine ⟨?_, rfl⟩
    rw [← unhide HE]
    rfl
  · have e0 : pdI n = 0 := by unfold pdI; rw [if_pos (by omega)]
    rw [e0]
    by_cases h1 : n < 0
    · go_enter Try.func12, Try.ntmps12
      go_wp2
      go_ret
      exact ⟨rfl, rfl⟩
    · have h2 : 4194304 < n := by omega
      go_enter Try.func12, Try.ntmps12
      go_wp2
      go_ret
      exact ⟨rfl, rfl⟩

theorem rcount_any (w : World) (n : Int) :
    Calls Try.prog 14 #[.int .i64 n] w fun e w' => e = .returned (.int .i64 (cnI n)) ∧ w' = w := by
  have c := rpadded_any w n
  obtain ⟨m, hm⟩ := Int.eq_ofNat_of_zero_le (pdI_ge n)
  have hle := pdI_le n
  rw [hm] at c hle
  have e : ((m : Int) + 2047) / 2048 = cnI n := by unfold cnI; rw [hm]
  have HE := hide e
  have hm2 : m ≤ 4194560 := by omega
  clear e hm hle
  go_enter Try.func14, Try.ntmps14
  go_wp2_with fail
  refine c.mono ?_
  rintro e w' ⟨rfl, hw⟩
  subst w'
  go_wp2
  go_ret
  refine ⟨?_, rfl⟩
  rw [← unhide HE]
  rfl

end Go.Proofs.Ytadkpkdojbhigaa
