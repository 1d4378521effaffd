/- What the reader's Num, Raw and Sized, and New and Done, answer and leave in memory, told by plain functions of the bytes that are left and of what is wrong; of any reader in memory and of nil. -/
import Derived.Test.YtcemdlcimhoeeaaRaw
namespace Go.Proofs.Ytcemdlcimhoeeaa
open Go.RowKit

/-- How many bytes a number of n bytes has. -/
def nb (n : Int) : Nat := (min (max n 0) 8).toNat

/-- What Num tells, what it leaves, and what is wrong then. -/
def numS (l : List UInt8) (e n : Int) : Nat × List UInt8 × Int := if e = 0 then (if l.length < nb n then (0, [], 10) else (be (l.take (nb n)), l.drop (nb n), 0)) else (0, l, e)
/-- What Raw tells, what it leaves, and what is wrong then. -/
def rawS (l : List UInt8) (e n : Int) : List UInt8 × List UInt8 × Int := if e = 0 then (if l.length < n.toNat then ([], [], 10) else (l.take n.toNat, l.drop n.toNat, 0)) else ([], l, e)
/-- What Sized tells, what it leaves, and what is wrong then. -/
def sizedS (l : List UInt8) (e : Int) : List UInt8 × List UInt8 × Int :=
  if e = 0 then (if l.length < 4 then ([], [], 10) else if 65536 < be (l.take 4) then ([], [], 3) else if l.length < 4 + be (l.take 4) then ([], [], 10) else ((l.drop 4).take (be (l.take 4)), (l.drop 4).drop (be (l.take 4)), 0)) else ([], l, e)

theorem num_at (w : World) (rb : Nat) (l : List UInt8) (k n : Int) (h : Rd w rb l k) :
    Calls Try.prog 37 #[.pointer (some ⟨rb, 0, none⟩), .int .i64 n] w fun e w' => e = .returned (.int .u64 ((numS l k n).1 : Int)) ∧ Rd w' rb (numS l k n).2.1 (numS l k n).2.2 ∧ w.grownBy w' (some rb) := by
  by_cases hk : k = 0
  · subst hk
    by_cases hn : l.length < nb n
    · have e1 : numS l 0 n = (0, [], 10) := by simp [numS, hn]
      rw [e1]
      exact num_end w rb l n (by unfold nb at hn; omega) h
    · have e1 : numS l 0 n = (be (l.take (nb n)), l.drop (nb n), 0) := by simp [numS, hn]
      rw [e1]
      exact num_yes w rb l n (nb n) (by unfold nb; omega) (by omega) h
  · have e1 : numS l k n = (0, l, k) := by simp [numS, hk]
    rw [e1]
    refine (num_bad w rb l k n (by simpa using hk) h).mono ?_
    rintro e w' ⟨rfl, h1, h2⟩
    exact ⟨rfl, h1, gb_none _ h2⟩

theorem raw_at (w : World) (rb : Nat) (l : List UInt8) (k n : Int) (hl : l.length ≤ 70368744177664) (h : Rd w rb l k) :
    Calls Try.prog 61 #[.pointer (some ⟨rb, 0, none⟩), .int .i64 n] w fun e w' => ∃ v, e = .returned v ∧ NewB w w' v (rawS l k n).1 ∧ Rd w' rb (rawS l k n).2.1 (rawS l k n).2.2 ∧ w.grownBy w' (some rb) := by
  by_cases hk : k = 0
  · subst hk
    by_cases hn : l.length < n.toNat
    · have e1 : rawS l 0 n = ([], [], 10) := by simp [rawS, hn]
      rw [e1]
      refine (raw_end w rb l n (by omega) h).mono ?_
      rintro e w' ⟨rfl, h1, h2⟩
      exact ⟨_, rfl, NewB.nil _ _, h1, h2⟩
    · have e1 : rawS l 0 n = (l.take n.toNat, l.drop n.toNat, 0) := by simp [rawS, hn]
      rw [e1]
      exact raw_yes w rb l n n.toNat (by omega) (by omega) (by omega) h
  · have e1 : rawS l k n = ([], l, k) := by simp [rawS, hk]
    rw [e1]
    refine (raw_bad w rb l k n (by simpa using hk) h).mono ?_
    rintro e w' ⟨rfl, h1, h2⟩
    exact ⟨_, rfl, NewB.nil _ _, h1, gb_none _ h2⟩

theorem sized_nil (w : World) : Calls Try.prog 38 #[.pointer none] w fun e w' => e = .returned (.slice none 0 0) ∧ w.grownBy w' none := by
  go_enter Try.func38, Try.ntmps38
  go_wp2_with fail
  refine (num_nil _ _).mono ?_
  rintro e w1 ⟨rfl, g1⟩
  go_wp2_with fail
  refine (raw_nil _ _).mono ?_
  rintro e w2 ⟨rfl, g2⟩
  go_wp2
  go_ret
  exact ⟨rfl, gb_trans g1 g2 (fun x e => by cases e)⟩

theorem NewB.later {w0 w w' : World} {v : Value} {x : List UInt8} (h : NewB w w' v x) (hs : w0.heap.size ≤ w.heap.size) : NewB w0 w' v x := by
  obtain ⟨ao, c, h1, h2, h3⟩ := h
  exact ⟨ao, c, h1, h2, fun ad e => ⟨Nat.le_trans hs (h3 ad e).1, (h3 ad e).2⟩⟩

theorem be4_lt (l : List UInt8) : be (l.take 4) < 4294967296 := by
  have h1 := be_lt (l.take 4)
  have h2 : 256 ^ (l.take 4).length ≤ 256 ^ 4 := Nat.pow_le_pow_right (by omega) (by simp; omega)
  omega

set_option maxHeartbeats 400000 in
theorem sized_go (w : World) (rb : Nat) (l : List UInt8) (k : Int) (v : Nat) (l1 : List UInt8) (k1 : Int) (hn : numS l k 4 = (v, l1, k1)) (hv : v ≤ 65536) (hl : l1.length ≤ 70368744177664) (h : Rd w rb l k) :
    Calls Try.prog 38 #[.pointer (some ⟨rb, 0, none⟩)] w fun e w' => ∃ v', e = .returned v' ∧ NewB w w' v' (rawS l1 k1 v).1 ∧ Rd w' rb (rawS l1 k1 v).2.1 (rawS l1 k1 v).2.2 ∧ w.grownBy w' (some rb) := by
  have h1 := num_at w rb l k 4 h
  rw [hn] at h1
  clear hn
  simp only at h1
  go_enter Try.func38, Try.ntmps38
  go_wp2_with fail
  refine h1.mono ?_
  rintro e w1 ⟨rfl, r1, g1⟩
  clear h1
  go_wp2_with fail
  refine (raw_at _ _ _ _ _ hl r1).mono ?_
  rintro e w2 ⟨u, rfl, b2, r2, g2⟩
  go_wp2
  go_ret
  exact ⟨_, rfl, b2.later g1.size, r2, gb_trans g1 g2 (fun x e => Or.inr e)⟩

set_option maxHeartbeats 400000 in
theorem sized_big (w : World) (rb : Nat) (l : List UInt8) (v : Nat) (l1 : List UInt8) (hn : numS l 0 4 = (v, l1, 0)) (hv : 65536 < v) (h : Rd w rb l 0) :
    Calls Try.prog 38 #[.pointer (some ⟨rb, 0, none⟩)] w fun e w' => e = .returned (.slice none 0 0) ∧ Rd w' rb [] 3 ∧ w.grownBy w' (some rb) := by
  have h1 := num_at w rb l 0 4 h
  rw [hn] at h1
  clear hn
  simp only at h1
  go_enter Try.func38, Try.ntmps38
  go_wp2_with fail
  refine h1.mono ?_
  rintro e w1 ⟨rfl, ⟨ao, c, r1, r2, r3⟩, g1⟩
  clear h1
  go_wp2_with fail
  refine (fail_yes _ _ _ _ r1.c1 r1.c0 (r1.fz _) (r1.fz _)).mono ?_
  rintro e w2 ⟨rfl, rfl⟩
  have p1 := Rd.failed r1 3
  have p2 := gb_trans g1 (gb_failed w1 rb 3) (fun x e => Or.inr e)
  clear r1 r2 r3 g1
  go_wp2
  go_ret
  exact ⟨rfl, p1, p2⟩

theorem sized_at (w : World) (rb : Nat) (l : List UInt8) (k : Int) (hl : l.length ≤ 70368744177664) (h : Rd w rb l k) :
    Calls Try.prog 38 #[.pointer (some ⟨rb, 0, none⟩)] w fun e w' => ∃ v, e = .returned v ∧ NewB w w' v (sizedS l k).1 ∧ Rd w' rb (sizedS l k).2.1 (sizedS l k).2.2 ∧ w.grownBy w' (some rb) := by
  have hnb : nb 4 = 4 := by decide
  by_cases hk : k = 0
  · subst hk
    by_cases h4 : l.length < 4
    · have e1 : numS l 0 4 = (0, [], 10) := by simp [numS, hnb, h4]
      have e2 : sizedS l 0 = rawS [] 10 ((0 : Nat) : Int) := by simp [sizedS, rawS, h4]
      rw [e2]
      exact sized_go w rb l 0 0 [] 10 e1 (by omega) (by simp) h
    · have e1 : numS l 0 4 = (be (l.take 4), l.drop 4, 0) := by simp [numS, hnb, h4]
      by_cases hb : 65536 < be (l.take 4)
      · have e2 : sizedS l 0 = ([], [], 3) := by simp [sizedS, h4, hb]
        rw [e2]
        refine (sized_big w rb l _ _ e1 hb h).mono ?_
        rintro e w' ⟨rfl, h1, h2⟩
        exact ⟨_, rfl, NewB.nil _ _, h1, h2⟩
      · have e2 : sizedS l 0 = rawS (l.drop 4) 0 ((be (l.take 4) : Nat) : Int) := by
          by_cases hr : l.length < 4 + be (l.take 4)
          · simp only [sizedS, rawS, Int.toNat_natCast, List.length_drop, if_true, if_neg h4, if_neg hb, if_pos hr]
            rw [if_pos (by omega)]
          · simp only [sizedS, rawS, Int.toNat_natCast, List.length_drop, if_true, if_neg h4, if_neg hb, if_neg hr]
            rw [if_neg (by omega)]
        rw [e2]
        exact sized_go w rb l 0 _ _ 0 e1 (by omega) (by simp; omega) h
  · have e1 : numS l k 4 = (0, l, k) := by simp [numS, hk]
    have e2 : sizedS l k = rawS l k ((0 : Nat) : Int) := by simp [sizedS, rawS, hk]
    rw [e2]
    exact sized_go w rb l k 0 l k e1 (by omega) hl h

end Go.Proofs.Ytcemdlcimhoeeaa
