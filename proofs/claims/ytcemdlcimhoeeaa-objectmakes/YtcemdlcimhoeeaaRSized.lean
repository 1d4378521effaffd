/- What the document's reader's Sized and List answer (package coffretref01), told by the same plain functions as those of the reader in memory. -/
import Derived.Test.YtcemdlcimhoeeaaRNum
namespace Go.Proofs.Ytcemdlcimhoeeaa
open Go.RowKit

set_option maxRecDepth 100000 in
set_option maxHeartbeats 400000 in
theorem rsz_bad (w : World) (l : List UInt8) (e : Int) (v : Nat) (l1 : List UInt8) (e1 : Int) (hn : numS l e 4 = (v, l1, e1)) (he : e1 ≠ 0) (hb : l.length ≤ 70368744177664) :
    Calls Try.prog 42 #[.agg #[.string (str l), .int .i64 e]] w fun r w' => r = .returned (.tuple #[.agg #[.string (str l1), .int .i64 e1], .string (str [])]) ∧ w.grownBy w' none := by
  have h1 := fun W => rnum_any W l e 4 hb
  simp only [hn] at h1
  have he1 : (e1 != 0) = true := by simpa using he
  clear hn he
  go_enter Try.func42, Try.ntmps42
  go_wp2_with fail
  refine (h1 _).mono ?_
  rintro r w1 ⟨rfl, g1⟩
  have hs := (St.new2 w (.cells #[.string (str l), .int .i64 e] 87) (.string ⟨#[]⟩) (.int .i64 0)).kept g1 (by simp)
  have hlt := hs.lt
  have c0 := hs.c0
  have c1 := hs.c1
  have f0 := hs.fz 0
  have f1 := hs.fz 1
  have hs2 := (hs.set (.string (str l1)) (.int .i64 e1)).old (.cells #[.string (str l1), .int .i64 e1] 87)
  have hG := gb_alloc (gb_two w w1 (w.heap.size + 1) (.string (str l1)) (.int .i64 e1) (gb_trans (gb_alloc (gb_alloc (gb_refl w none) _) _) g1 (fun _ e => by cases e)) (by omega)) (.cells #[.string (str l1), .int .i64 e1] 87)
  have d0 := hs2.c0
  have d1 := hs2.c1
  clear hs hs2 g1 h1
  go_wp2
  exact bodyPost_ret (v := .tuple #[.agg #[.string (str l1), .int .i64 e1], .string ⟨#[]⟩]) (by simp [results, Try.results42, go_sem, d0, d1]) rfl ⟨rfl, hG⟩

set_option maxRecDepth 100000 in
set_option maxHeartbeats 400000 in
theorem rsz_big (w : World) (l : List UInt8) (e : Int) (v : Nat) (l1 : List UInt8) (hn : numS l e 4 = (v, l1, 0)) (hv : 65536 < v) (hb : l.length ≤ 70368744177664) :
    Calls Try.prog 42 #[.agg #[.string (str l), .int .i64 e]] w fun r w' => r = .returned (.tuple #[.agg #[.string (str []), .int .i64 3], .string (str [])]) ∧ w.grownBy w' none := by
  have h1 := fun W => rnum_any W l e 4 hb
  simp only [hn] at h1
  clear hn
  go_enter Try.func42, Try.ntmps42
  go_wp2_with fail
  refine (h1 _).mono ?_
  rintro r w1 ⟨rfl, g1⟩
  have hs := (St.new2 w (.cells #[.string (str l), .int .i64 e] 87) (.string ⟨#[]⟩) (.int .i64 0)).kept g1 (by simp)
  have G1 : w.grownBy w1 none := gb_trans (gb_alloc (gb_alloc (gb_refl w none) _) _) g1 (fun _ e => by cases e)
  have hlt := hs.lt
  clear g1 h1
  go_wp2_with fail
  refine (rwrong_any _ _ _ _).mono ?_
  rintro r w2 ⟨rfl, g2⟩
  have hs' := (hs.old (.cells #[.string (str l1), .int .i64 0] 87)).kept g2 (by simp)
  have c0 := hs'.c0
  have c1 := hs'.c1
  have f0 := hs'.fz 0
  have f1 := hs'.fz 1
  have hs2 := hs'.set (.string (str [])) (.int .i64 3)
  have hG := gb_two w w2 (w.heap.size + 1) (.string (str [])) (.int .i64 3) (gb_trans (gb_alloc G1 _) g2 (fun _ e => by cases e)) (by omega)
  have d0 := hs2.c0
  have d1 := hs2.c1
  clear hs hs' hs2 g2
  go_wp2
  exact bodyPost_ret (v := .tuple #[.agg #[.string (str []), .int .i64 3], .string ⟨#[]⟩]) (by simp [results, Try.results42, go_sem, d0, d1]) rfl ⟨rfl, hG⟩

set_option maxRecDepth 100000 in
set_option maxHeartbeats 400000 in
theorem rsz_go (w : World) (l : List UInt8) (e : Int) (v : Nat) (l1 x l2 : List UInt8) (e2 : Int) (hn : numS l e 4 = (v, l1, 0)) (hv : v ≤ 65536) (hr : rawS l1 0 (v : Int) = (x, l2, e2)) (hb : l.length ≤ 70368744177664) (hb1 : l1.length ≤ 70368744177664) :
    Calls Try.prog 42 #[.agg #[.string (str l), .int .i64 e]] w fun r w' => r = .returned (.tuple #[.agg #[.string (str l2), .int .i64 e2], .string (str x)]) ∧ w.grownBy w' none := by
  have h1 := fun W => rnum_any W l e 4 hb
  have h2 := fun W => rraw_any W l1 0 (v : Int) hb1
  simp only [hn] at h1
  simp only [hr] at h2
  clear hn hr
  go_enter Try.func42, Try.ntmps42
  go_wp2_with fail
  refine (h1 _).mono ?_
  rintro r w1 ⟨rfl, g1⟩
  have hs := (St.new2 w (.cells #[.string (str l), .int .i64 e] 87) (.string ⟨#[]⟩) (.int .i64 0)).kept g1 (by simp)
  have G1 : w.grownBy w1 none := gb_trans (gb_alloc (gb_alloc (gb_refl w none) _) _) g1 (fun _ e => by cases e)
  have hlt := hs.lt
  clear g1 h1
  go_wp2_with fail
  refine (h2 _).mono ?_
  rintro r w2 ⟨rfl, g2⟩
  have hs' := (hs.old (.cells #[.string (str l1), .int .i64 0] 87)).kept g2 (by simp)
  have c0 := hs'.c0
  have c1 := hs'.c1
  have f0 := hs'.fz 0
  have f1 := hs'.fz 1
  have hs2 := hs'.set (.string (str l2)) (.int .i64 e2)
  have hG := gb_two w w2 (w.heap.size + 1) (.string (str l2)) (.int .i64 e2) (gb_trans (gb_alloc G1 _) g2 (fun _ e => by cases e)) (by omega)
  have d0 := hs2.c0
  have d1 := hs2.c1
  clear hs hs' hs2 g2 h2
  go_wp2
  exact bodyPost_ret (v := .tuple #[.agg #[.string (str l2), .int .i64 e2], .string (str x)]) (by simp [results, Try.results42, go_sem, d0, d1]) rfl ⟨rfl, hG⟩

theorem rsz_any (w : World) (l : List UInt8) (e : Int) (hb : l.length ≤ 70368744177664) :
    Calls Try.prog 42 #[.agg #[.string (str l), .int .i64 e]] w fun r w' => r = .returned (.tuple #[.agg #[.string (str (sizedS l e).2.1), .int .i64 (sizedS l e).2.2], .string (str (sizedS l e).1)]) ∧ w.grownBy w' none := by
  have hnb : nb 4 = 4 := by decide
  by_cases hk : e = 0
  · subst hk
    by_cases h4 : l.length < 4
    · have e1 : numS l 0 4 = (0, [], 10) := by simp [numS, hnb, h4]
      have e2 : sizedS l 0 = ([], [], 10) := by simp [sizedS, h4]
      rw [e2]
      exact rsz_bad w l 0 0 [] 10 e1 (by decide) hb
    · have e1 : numS l 0 4 = (be (l.take 4), l.drop 4, 0) := by simp [numS, hnb, h4]
      by_cases hbg : 65536 < be (l.take 4)
      · have e2 : sizedS l 0 = ([], [], 3) := by simp [sizedS, h4, hbg]
        rw [e2]
        exact rsz_big w l 0 _ _ e1 hbg hb
      · have e2 : sizedS l 0 = rawS (l.drop 4) 0 ((be (l.take 4) : Nat) : Int) := by
          by_cases hr : l.length < 4 + be (l.take 4)
          · simp only [sizedS, rawS, Int.toNat_natCast, List.length_drop, if_true, if_neg h4, if_neg hbg, if_pos hr]
            rw [if_pos (by omega)]
          · simp only [sizedS, rawS, Int.toNat_natCast, List.length_drop, if_true, if_neg h4, if_neg hbg, if_neg hr]
            rw [if_neg (by omega)]
        rw [e2]
        exact rsz_go w l 0 _ _ _ _ _ e1 (by omega) rfl hb (by simp; omega)
  · have e1 : numS l e 4 = (0, l, e) := by simp [numS, hk]
    have e2 : sizedS l e = ([], l, e) := by simp [sizedS, hk]
    rw [e2]
    exact rsz_bad w l e 0 l e e1 hk hb

end Go.Proofs.Ytcemdlcimhoeeaa
