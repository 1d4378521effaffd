/- What the document's reader's List answers (package coffretref01), told by the same plain function as that of the reader in memory. -/
import Derived.Test.YtgedgjcdeajgiaaRSized
namespace Go.Proofs.Ytgedgjcdeajgiaa
open Go.RowKit

set_option maxRecDepth 100000 in
set_option maxHeartbeats 400000 in
theorem rrl_bad (w : World) (l : List UInt8) (e most : Int) (v : Nat) (l1 : List UInt8) (e1 : Int) (hn : numS l e 2 = (v, l1, e1)) (he : e1 ≠ 0) (hb : l.length ≤ 70368744177664) :
    Calls Try.prog 24 #[.agg #[.string (str l), .int .i64 e], .int .i64 most] w fun r w' => r = .returned (.tuple #[.agg #[.string (str l1), .int .i64 e1], .slice none 0 0]) ∧ w.grownBy w' none := by
  have h1 := fun W => rnum_any W l e 2 hb
  simp only [hn] at h1
  have he1 : (e1 != 0) = true := by simpa using he
  clear hn he
  go_enter Try.func24, Try.ntmps24
  go_wp2_with fail
  refine (h1 _).mono ?_
  rintro r w1 ⟨rfl, g1⟩
  have hs := (St.new2 w (.cells #[.string (str l), .int .i64 e] 40) (.string ⟨#[]⟩) (.int .i64 0)).kept g1 (by simp)
  have hlt := hs.lt
  have c0 := hs.c0
  have c1 := hs.c1
  have f0 := hs.fz 0
  have f1 := hs.fz 1
  have hs2 := (hs.set (.string (str l1)) (.int .i64 e1)).old (.cells #[.string (str l1), .int .i64 e1] 40)
  have hG := gb_alloc (gb_two w w1 (w.heap.size + 1) (.string (str l1)) (.int .i64 e1) (gb_trans (gb_alloc (gb_alloc (gb_refl w none) _) _) g1 (fun _ e => by cases e)) (by omega)) (.cells #[.string (str l1), .int .i64 e1] 40)
  have d0 := hs2.c0
  have d1 := hs2.c1
  clear hs hs2 g1 h1
  go_wp2
  exact bodyPost_ret (v := .tuple #[.agg #[.string (str l1), .int .i64 e1], .slice none 0 0]) (by simp [results, Try.results24, go_sem, d0, d1]) rfl ⟨rfl, hG⟩

set_option maxRecDepth 100000 in
set_option maxHeartbeats 400000 in
theorem rrl_big (w : World) (l : List UInt8) (e most : Int) (v : Nat) (l1 : List UInt8) (hn : numS l e 2 = (v, l1, 0)) (hv6 : v < 65536) (hv : most < (v : Int)) (hb : l.length ≤ 70368744177664) :
    Calls Try.prog 24 #[.agg #[.string (str l), .int .i64 e], .int .i64 most] w fun r w' => r = .returned (.tuple #[.agg #[.string (str []), .int .i64 3], .slice none 0 0]) ∧ w.grownBy w' none := by
  have h1 := fun W => rnum_any W l e 2 hb
  simp only [hn] at h1
  clear hn
  go_enter Try.func24, Try.ntmps24
  go_wp2_with fail
  refine (h1 _).mono ?_
  rintro r w1 ⟨rfl, g1⟩
  have hs := (St.new2 w (.cells #[.string (str l), .int .i64 e] 40) (.string ⟨#[]⟩) (.int .i64 0)).kept g1 (by simp)
  have G1 : w.grownBy w1 none := gb_trans (gb_alloc (gb_alloc (gb_refl w none) _) _) g1 (fun _ e => by cases e)
  have hlt := hs.lt
  clear g1 h1
  go_wp2_with fail
  refine (rwrong_any _ _ _ _).mono ?_
  rintro r w2 ⟨rfl, g2⟩
  have hs' := (hs.old (.cells #[.string (str l1), .int .i64 0] 40)).kept g2 (by simp)
  have c0 := hs'.c0
  have c1 := hs'.c1
  have f0 := hs'.fz 0
  have f1 := hs'.fz 1
  have hs2 := hs'.set (.string (str [])) (.int .i64 3)
  have hG := gb_two w w2 (w.heap.size + 1) (.string (str [])) (.int .i64 3) (gb_trans (gb_alloc G1 _) g2 (fun _ e => by cases e)) (by omega)
  have d0 := hs2.c0
  have d1 := hs2.c1
  clear hs hs' hs2 g2
  go_wp2
  exact bodyPost_ret (v := .tuple #[.agg #[.string (str []), .int .i64 3], .slice none 0 0]) (by simp [results, Try.results24, go_sem, d0, d1]) rfl ⟨rfl, hG⟩

theorem own_keep {w a : World} {base n : Nat} {v : Value} {xs : List Value} {t : TypeId} (h : w.ownsRow base t 1 v n xs) (g : w.grownBy a none) : a.ownsRow base t 1 v n xs :=
  h.kept g (by cases v.ownBlock <;> simp)

theorem cell_new1 (A : World) (x : Value) (t : TypeId) (k : Nat) (hk : A.heap.size = k) : (A.alloc (.cells #[x] t)).cell? ⟨k, 0, none⟩ = some x := by
  subst hk
  have := heap_alloc_new A (.cells #[x] t)
  simp only [World.cell?, this]
  rfl

theorem own_ne {w : World} {base n b : Nat} {v : Value} {xs : List Value} {t : TypeId} (h : w.ownsRow base t 1 v n xs) (hb : b < base) : some b ≠ v.ownBlock := by
  intro e
  have := (h.lt b e.symm).1
  omega

set_option maxRecDepth 100000 in
set_option maxHeartbeats 2000000 in
theorem rrl_loop (w : World) (l : List UInt8) (e most : Int) (n : Nat) (l1 : List UInt8) (hn : numS l e 2 = (n, l1, 0)) (hn6 : n < 65536) (hm : (n : Int) ≤ most) (hb : l.length ≤ 70368744177664) (hb1 : l1.length ≤ 70368744177664) :
    Calls Try.prog 24 #[.agg #[.string (str l), .int .i64 e], .int .i64 most] w fun r w' => ∃ ao c, r = .returned (.tuple #[.agg #[.string (str (textsS n l1).2.1), .int .i64 (textsS n l1).2.2], .slice ao (textsS n l1).1.length c]) ∧ Sts w' ao c (textsS n l1).1 ∧ w.grownBy w' none := by
  obtain ⟨i0, hi, hz0, hz1, hz2⟩ := info_parts info_string
  have h1 := fun W => rnum_any W l e 2 hb
  simp only [hn] at h1
  clear hn
  go_enter Try.func24, Try.ntmps24
  go_wp2_with fail
  refine (h1 _).mono ?_
  rintro r w1 ⟨rfl, g1⟩
  have hs := (St.new2 w (.cells #[.string (str l), .int .i64 e] 40) (.string ⟨#[]⟩) (.int .i64 0)).kept g1 (by simp)
  have G1 : w.grownBy w1 none := gb_trans (gb_alloc (gb_alloc (gb_refl w none) _) _) g1 (fun _ e => by cases e)
  have hlt := hs.lt
  have hsW := hs.old (.cells #[.string (str l1), .int .i64 0] 40)
  have hsN := St.new w1 (.string (str l1)) (.int .i64 0)
  have GW := gb_below (gb_alloc G1 (.cells #[.string (str l1), .int .i64 0] 40))
  have hszW : (w1.alloc (.cells #[.string (str l1), .int .i64 0] 40)).heap.size = w1.heap.size + 1 := World.size_alloc _ _
  clear g1 h1 hs G1
  go_wp2
  go_loopw [8, 9] (fun o i wr => ∃ (j : Nat) (T : List (List UInt8)) (l' : List UInt8), j ≤ n ∧ i = .int .i64 j ∧ Hid (T.length = j) ∧ Hid (textsS n l1 = accS T (textsS (n - j) l')) ∧ wr.ownsRow (w1.heap.size + 1) 9 1 o T.length (T.map sv) ∧
      St wr w1.heap.size (.string (str l')) (.int .i64 0) ∧ St wr (w.heap.size + 1) (.string ⟨#[]⟩) (.int .i64 0) ∧ Below w.heap.size w wr ∧ w1.heap.size + 1 ≤ wr.heap.size ∧ l'.length ≤ l1.length) (fun _ i _ => n - (intOf i).toNat)
  case atStart => exact ⟨0, [], l1, Nat.zero_le _, rfl, rfl, (accS_nil _ (textsS_bad n l1)).symm, World.ownsRow_nil _ _ _ _, hsN, hsW, GW, by rw [hszW]; exact Nat.le_refl _, Nat.le_refl _⟩
  case round =>
    clear hsN hsW GW hszW
    obtain ⟨j, T, l', hj, rfl, hT, HT, ho, hS, hR, hB, hsz, hl'⟩ := hrel
    by_cases hlt2 : j < n
    · have c0 := hS.c0
      have c1 := hS.c1
      have h2 := fun W => rsz_any W l' 0 (Nat.le_trans hl' hb1)
      have hsl := sizedS_len l' 0
      have hts : textsS (n - j) l' = if (sizedS l' 0).2.2 = 0 then accS [(sizedS l' 0).1] (textsS (n - (j + 1)) (sizedS l' 0).2.1) else ([], (sizedS l' 0).2.1, (sizedS l' 0).2.2) := by
        rw [show n - j = (n - (j + 1)) + 1 from by omega, textsS]
      have HTS := hide hts
      clear hts
      generalize sizedS l' 0 = sz at *
      obtain ⟨x, l2, e2⟩ := sz
      simp only at *
      go_wp2_with fail
      refine (h2 _).mono ?_
      rintro r w2 ⟨rfl, g2⟩
      have hS2 := hS.kept g2 (by simp)
      have hR2 := hR.kept g2 (by simp)
      have ho2 := own_keep ho g2
      have hB2 := hB.trans ((gb_below g2).mono hB.size)
      have hsz2 := g2.size
      have hw12 : w1.heap.size < w2.heap.size := by omega
      have hw02 : w.heap.size + 1 < w2.heap.size := by omega
      clear ho hS hR hB g2 c0 c1 h2
      by_cases he2 : e2 = 0
      · subst he2
        have c0 := hS2.c0
        have c1 := hS2.c1
        have f0 := hS2.fz 0
        have f1 := hS2.fz 1
        have hs3 := ((hS2.set (.string (str l2)) (.int .i64 0)).old (.cells #[.string (str l2), .int .i64 0] 40)).old (.cells #[.string (str x)] 9)
        have gset := gb_alloc (gb_alloc (gb_setCell (gb_set w2 w1.heap.size 0 (.string (str l2))) ⟨w1.heap.size, 1, none⟩ (.int .i64 0) (Or.inr rfl)) (.cells #[.string (str l2), .int .i64 0] 40)) (.cells #[.string (str x)] 9)
        have hr3 := hR2.kept gset (by simp; omega)
        have ho3 := ((ownsRow_setCell_below (ownsRow_setCell_below ho2 (a := ⟨w1.heap.size, 0, none⟩) (by simp) (.string (str l2))) (a := ⟨w1.heap.size, 1, none⟩) (by simp) (.int .i64 0)).alloc (.cells #[.string (str l2), .int .i64 0] 40)).alloc (.cells #[.string (str x)] 9)
        have hB3 := ((((hB2.setCell (p := ⟨w1.heap.size, 0, none⟩) (by simp; omega) (.string (str l2))).setCell (p := ⟨w1.heap.size, 1, none⟩) (by simp; omega) (.int .i64 0)).alloc (by simp [World.setCell]; omega) (.cells #[.string (str l2), .int .i64 0] 40)).alloc (by simp [World.setCell]; omega) (.cells #[.string (str x)] 9))
        clear hS2 hR2 ho2 hB2
        go_wp2_with (at_builtin; refine wpList_append_own _ rfl _ _ 32 rfl (w1.heap.size + 1) 9 i0 (.string ⟨#[]⟩) 1 16 Try.underlying32 hi hz0 hz1 hz2 rfl (by decide) _ _ _ rfl ho3 ⟨w2.heap.size + 1, 0, none⟩ 1 1 [.string (str x)] rfl rfl ?c1 ?c2 ?c3 ?c4 ?c5 ?_)
        case c1 =>
          intro t u ht
          match t, ht with
          | 0, ht => simp at ht; subst ht; exact cell_new1 _ _ _ _ (by simp [World.setCell])
        case c2 => intro u hu; simp at hu; subst hu; rfl
        case c3 => have := hT.out; unfold maxLen; omega
        case c4 => have := hT.out; omega
        case c5 => simp [World.setCell]; omega
        intro v' w3 hown3 hg3 _
        have hs4 := hs3.kept hg3 (own_ne ho3 (by omega))
        have hr4 := hr3.kept hg3 (own_ne ho3 (by omega))
        have hB4 := hB3.grown hg3 (by simp [World.setCell]; omega) (fun y e => by have := (ho3.lt y e).1; omega)
        have hsz4 : w1.heap.size + 1 ≤ w3.heap.size := Nat.le_trans (by simp [World.setCell]; omega) hg3.size
        have hown4 : w3.ownsRow (w1.heap.size + 1) 9 1 v' (T ++ [x]).length ((T ++ [x]).map sv) := by
          rw [List.map_append, List.length_append]
          exact hown3
        clear hown3 hg3 hs3 hr3 ho3 hB3 gset c0 c1 f0 f1
        go_wp2
        go_roundw
        case rel => exact ⟨j + 1, T ++ [x], l2, by omega, by go_num, by have := hT.out; simp [this, Hid], by have := unhide HTS; simp only [if_true] at this; exact hide (by rw [HT.out, this, accS_accS]), hown4, hs4, hr4, hB4, hsz4, Nat.le_trans hsl hl'⟩
        case measure => simp [intOf]; omega
      · have he3 : (e2 != 0) = true := by simpa using he2
        have c0 := hR2.c0
        have c1 := hR2.c1
        have f0 := hR2.fz 0
        have f1 := hR2.fz 1
        have hs2 := (hR2.set (.string (str l2)) (.int .i64 e2)).old (.cells #[.string (str l2), .int .i64 e2] 40)
        have hG := ((hB2.setCell (p := ⟨w.heap.size + 1, 0, none⟩) (by simp) (.string (str l2))).setCell (p := ⟨w.heap.size + 1, 1, none⟩) (by simp) (.int .i64 e2)).alloc (by simp [World.setCell]; omega) (.cells #[.string (str l2), .int .i64 e2] 40)
        have d0 := hs2.c0
        have d1 := hs2.c1
        have hfin : textsS n l1 = ([], l2, e2) := by
          have := unhide HTS
          rw [if_neg he2] at this
          rw [HT.out, this]
          simp [accS, he2]
        have HF := hide hfin
        clear hfin HTS HT he2 hs2 hS2 hR2 ho2 hB2
        go_wp2
        refine bodyPost_ret (v := .tuple #[.agg #[.string (str l2), .int .i64 e2], .slice none 0 0]) (by simp [results, Try.results24, go_sem, d0, d1]) rfl ⟨none, 0, ?_, ?_, below_gb hG⟩
        · rw [unhide HF]
          rfl
        · rw [unhide HF]
          exact ⟨fun _ => ⟨rfl, rfl⟩, Nat.le_refl _, Nat.zero_le _, (fun _ e => by cases e), (fun _ e => by cases e)⟩
    · have hjn : j = n := by omega
      have hfin : textsS n l1 = (T, l', 0) := by
        rw [HT.out, hjn, Nat.sub_self]
        simp [textsS, accS]
      have HF := hide hfin
      obtain ⟨ao, c, rfl, hst2⟩ := Sts.own (ownsRow_setCell_below (ownsRow_setCell_below ho (a := ⟨w.heap.size + 1, 0, none⟩) (by simp; omega) (.string (str l'))) (a := ⟨w.heap.size + 1, 1, none⟩) (by simp; omega) (.int .i64 0))
      have c0 := hS.c0
      have c1 := hS.c1
      have k0 := hR.c0
      have k1 := hR.c1
      have f0 := hR.fz 0
      have f1 := hR.fz 1
      have hs2 := hR.set (.string (str l')) (.int .i64 0)
      have d0 := hs2.c0
      have d1 := hs2.c1
      have hG := (hB.setCell (p := ⟨w.heap.size + 1, 0, none⟩) (by simp) (.string (str l'))).setCell (p := ⟨w.heap.size + 1, 1, none⟩) (by simp) (.int .i64 0)
      clear hfin hjn HT hs2 hS hR ho hB
      go_wp2
      refine bodyPost_ret (v := .tuple #[.agg #[.string (str l'), .int .i64 0], .slice ao T.length c]) (by simp [results, Try.results24, go_sem, d0, d1]) rfl ⟨ao, c, ?_, ?_, below_gb hG⟩
      · rw [unhide HF]
      · rw [unhide HF]
        exact hst2

theorem Sts.nil (w : World) : Sts w none 0 [] := ⟨fun _ => ⟨rfl, rfl⟩, Nat.le_refl _, Nat.zero_le _, (fun _ e => by cases e), (fun _ e => by cases e)⟩

theorem rrl_any (w : World) (l : List UInt8) (e most : Int) (hb : l.length ≤ 70368744177664) :
    Calls Try.prog 24 #[.agg #[.string (str l), .int .i64 e], .int .i64 most] w fun r w' => ∃ ao c, r = .returned (.tuple #[.agg #[.string (str (listS l e most).2.1), .int .i64 (listS l e most).2.2], .slice ao (listS l e most).1.length c]) ∧ Sts w' ao c (listS l e most).1 ∧ w.grownBy w' none := by
  have hlt := numS_lt2 l e
  have hlen := numS_len l e 2
  unfold listS
  cases hn : numS l e 2 with
  | mk n r =>
  obtain ⟨l1, e1⟩ := r
  rw [hn] at hlt hlen
  simp only at *
  by_cases he : e1 = 0
  · subst he
    by_cases hm : most < (n : Int)
    · rw [if_pos hm, if_pos rfl]
      refine (rrl_big w l e most n l1 hn hlt hm hb).mono ?_
      rintro r w' ⟨rfl, h2⟩
      exact ⟨none, 0, rfl, Sts.nil _, h2⟩
    · rw [if_neg hm, if_pos rfl]
      exact rrl_loop w l e most n l1 hn hlt (by omega) hb (by omega)
  · have h1 := rrl_bad w l e most n l1 e1 hn he hb
    by_cases hm : most < (n : Int)
    · rw [if_pos hm, if_neg he]
      refine h1.mono ?_
      rintro r w' ⟨rfl, h2⟩
      exact ⟨none, 0, rfl, Sts.nil _, h2⟩
    · rw [if_neg hm, if_neg he]
      refine h1.mono ?_
      rintro r w' ⟨rfl, h2⟩
      exact ⟨none, 0, rfl, Sts.nil _, h2⟩

end Go.Proofs.Ytgedgjcdeajgiaa
