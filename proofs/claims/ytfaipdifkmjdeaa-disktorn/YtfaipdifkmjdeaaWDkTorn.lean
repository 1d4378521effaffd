/- DiskTorn: the walk. -/
import Derived.Test.YtfaipdifkmjdeaaDkP
import Derived.Test.YtfaipdifkmjdeaaMSame
namespace Go.Proofs.Ytfaipdifkmjdeaa
open Go.RowKit

/-- Three sectors, and what is under way. -/
def t3 (S : List (List UInt8)) (U : List (Nat × List UInt8)) : Dsk := ⟨S, U, -1, false⟩
theorem t3_new : newD 3 = t3 [zsec, zsec, zsec] [] := rfl
theorem t3_settle (A : List UInt8) (hA : A.length = 256) : settleD (fun _ => 256) (t3 [zsec, zsec, zsec] [(1, A), (2, A)]) = t3 [zsec, A, A] [] := by
  have z := zsec_len
  simp only [settleD, t3, layAll, clampN_256]
  rw [lay_full (x := (1, A)) hA (by simp) (by simp [z]), lay_full (x := (2, A)) hA (by simp) (by simp [z, hA])]
  rfl
theorem t3_fall (A B : List UInt8) (n : Int) : faD (t3 [zsec, A, A] [(1, B)]) [n] = t3 [zsec, B.take (clampN n) ++ A.drop (clampN n), A] [] := rfl
theorem t3_kept (A : List UInt8) (U : List (Nat × List UInt8)) : keptD (t3 [zsec, A, A] U) 1 = A := rfl
theorem t3_last (A B : List UInt8) : lastD (t3 [zsec, A, A] [(1, B)]) 1 = B := rfl
theorem t3_last1 (A C : List UInt8) : lastD (t3 [zsec, C, A] []) 1 = C := rfl
theorem t3_last2 (A C : List UInt8) : lastD (t3 [zsec, C, A] []) 2 = A := rfl

set_option maxRecDepth 100000 in
set_option maxHeartbeats 4000000 in
theorem walk_dtorn (w : World) (ao : Option Addr) (ac : Nat) (was : List UInt8) (hb0 : Bts w ao ac was) (bo : Option Addr) (bc : Nat) (now : List UInt8) (hb1 : Bts w bo bc now) (z : Int) :
    Calls Try.prog 6 #[.slice ao was.length ac, .slice bo now.length bc, .int .i64 z] w fun e w' => e = .returned (.bool true) ∧ w.grownBy w' none := by
  obtain ⟨n1, hn1⟩ : ∃ n, n = was.length := ⟨_, rfl⟩
  obtain ⟨n2, hn2⟩ : ∃ n, n = now.length := ⟨_, rfl⟩
  rw [← hn1, ← hn2]
  by_cases hl1 : n1 ≤ 256
  case neg =>
    have hd1 : decide ((256 : Int) < (n1 : Int)) = true := by simp; omega
    have hd2 : 256 < n1 := by omega
    clear hb0 hb1 hn1 hn2 hl1
    go_enter Try.func6, Try.ntmps6
    go_wp2
    go_ret
    exact ⟨rfl, gb_refl _ _⟩
  have hd1 : decide ((256 : Int) < (n1 : Int)) = false := by simp; omega
  have hd1' : ¬ 256 < n1 := by omega
  by_cases hl2 : n2 ≤ 256
  case neg =>
    have hd2 : 256 < n2 := by omega
    clear hb0 hb1 hn1 hn2 hl1 hl2
    go_enter Try.func6, Try.ntmps6
    go_wp2
    go_ret
    exact ⟨rfl, gb_refl _ _⟩
  have hd2 : ¬ 256 < n2 := by omega
  have cn := lnew (gb_refl w none) 3 (by decide) (by decide)
  rw [t3_new] at cn
  have hA : (padS was).length = 256 := padS_len (by omega)
  have hB : (padS now).length = 256 := padS_len (by omega)
  have hw1 : was.length ≤ 256 := by omega
  have hw2 : now.length ≤ 256 := by omega
  have HB0 := hide hb0
  have HB1 := hide hb1
  have HN1 := hide hn1
  have HN2 := hide hn2
  have HW1 := hide hw1
  have HW2 := hide hw2
  have HA := hide hA
  have HB := hide hB
  clear hb0 hb1 hn1 hn2 hA hB hl1 hl2 hw1 hw2
  go_enter Try.func6, Try.ntmps6
  go_upto_region 4 with (go_at_call 8; refine cn.mono ?_; rintro e w1 ⟨d, F1, rfl, h1, -, -⟩; clear cn)
  refine region_named fun O hO => ?_
  refine wpList_val (by rw [hO]; kernel_rfl) (.int .i64 0) (fun K9 hK9 => by go_simp; exact hK9) ?_
  (try simp only [Act.put, pq1, pq2, pq3])
  refine wpList_val (by rw [hO]; kernel_rfl) (.bool false) (fun K9 hK9 => by go_simp; exact hK9) ?_
  (try simp only [Act.put, pq1, pq2, pq3])
  refine wpList_val (by rw [hO]; kernel_rfl) (.bool false) (fun K9 hK9 => by go_simp; exact hK9) ?_
  (try simp only [Act.put, pq1, pq2, pq3])
  refine wpList_val (by rw [hO]; kernel_rfl) (.pointer (some ⟨d, 0, none⟩)) (fun K9 hK9 => by go_simp; exact hK9) ?_
  (try simp only [Act.put, pq1, pq2, pq3])
  refine wpList_val (by rw [hO]; kernel_rfl) (.bool false) (fun K9 hK9 => by go_simp; exact hK9) ?_
  (try simp only [Act.put, pq1, pq2, pq3])
  refine wpList_val (by rw [hO]; kernel_rfl) (.bool false) (fun K9 hK9 => by go_simp; exact hK9) ?_
  (try simp only [Act.put, pq1, pq2, pq3])
  refine wpList_val (by rw [hO]; kernel_rfl) (.bool false) (fun K9 hK9 => by go_simp; exact hK9) ?_
  (try simp only [Act.put, pq1, pq2, pq3])
  refine wpList_val (by rw [hO]; kernel_rfl) (.pointer (some ⟨d, 0, none⟩)) (fun K9 hK9 => by go_simp; exact hK9) ?_
  (try simp only [Act.put, pq1, pq2, pq3])
  refine wpList_val (by rw [hO]; kernel_rfl) (.slice ao n1 ac) (fun K9 hK9 => by go_simp; exact hK9) ?_
  (try simp only [Act.put, pq1, pq2, pq3])
  refine wpList_want (by rw [hO]; kernel_rfl) fun K9 hK9 => ?_
  go_simp
  go_at_call 11
  refine (lwrite_free h1 rfl (show (-1 : Int) < 0 by decide) 1 1 rfl (by simp [t3]) _ _ was (h1.bts (unhide HB0)) n1 (unhide HN1) (unhide HW1) (by simp [t3])).mono ?_
  rintro e w2 ⟨rfl, F2, h2, -⟩
  clear h1
  refine hK9 _ _ ?_
  clear hK9 K9
  (try simp only [Act.put, pq1, pq2, pq3])
  refine wpList_val (by rw [hO]; kernel_rfl) (.bool false) (fun K9 hK9 => by go_simp; exact hK9) ?_
  (try simp only [Act.put, pq1, pq2, pq3])
  refine wpList_val (by rw [hO]; kernel_rfl) (.bool false) (fun K9 hK9 => by go_simp; exact hK9) ?_
  (try simp only [Act.put, pq1, pq2, pq3])
  refine wpList_val (by rw [hO]; kernel_rfl) (.bool false) (fun K9 hK9 => by go_simp; exact hK9) ?_
  (try simp only [Act.put, pq1, pq2, pq3])
  refine wpList_val (by rw [hO]; kernel_rfl) (.pointer (some ⟨d, 0, none⟩)) (fun K9 hK9 => by go_simp; exact hK9) ?_
  (try simp only [Act.put, pq1, pq2, pq3])
  refine wpList_val (by rw [hO]; kernel_rfl) (.slice ao n1 ac) (fun K9 hK9 => by go_simp; exact hK9) ?_
  (try simp only [Act.put, pq1, pq2, pq3])
  refine wpList_want (by rw [hO]; kernel_rfl) fun K9 hK9 => ?_
  go_simp
  go_at_call 11
  refine (lwrite_free h2 rfl (show (-1 : Int) < 0 by decide) 2 2 rfl (by simp [t3]) _ _ was (h2.bts (unhide HB0)) n1 (unhide HN1) (unhide HW1) (by simp [t3])).mono ?_
  rintro e w3 ⟨rfl, F3, h3, -⟩
  clear h2
  refine hK9 _ _ ?_
  clear hK9 K9
  (try simp only [Act.put, pq1, pq2, pq3])
  refine wpList_val (by rw [hO]; kernel_rfl) (.bool false) (fun K9 hK9 => by go_simp; exact hK9) ?_
  (try simp only [Act.put, pq1, pq2, pq3])
  refine wpList_val (by rw [hO]; kernel_rfl) (.bool false) (fun K9 hK9 => by go_simp; exact hK9) ?_
  (try simp only [Act.put, pq1, pq2, pq3])
  refine wpList_val (by rw [hO]; kernel_rfl) (.bool false) (fun K9 hK9 => by go_simp; exact hK9) ?_
  (try simp only [Act.put, pq1, pq2, pq3])
  refine wpList_val (by rw [hO]; kernel_rfl) (.pointer (some ⟨d, 0, none⟩)) (fun K9 hK9 => by go_simp; exact hK9) ?_
  (try simp only [Act.put, pq1, pq2, pq3])
  refine wpList_want (by rw [hO]; kernel_rfl) fun K9 hK9 => ?_
  go_simp
  go_at_call 13
  refine (lsync_free h3 rfl (show (-1 : Int) < 0 by decide) (by simp [t3])).mono ?_
  rintro e w4 ⟨rfl, F4, h4, -⟩
  clear h3
  have e4 := t3_settle (padS was) (unhide HA)
  have h4b : Dw w w4 F4 d (t3 [zsec, padS was, padS was] []) := by rw [← e4]; exact h4
  clear h4 e4
  refine hK9 _ _ ?_
  clear hK9 K9
  (try simp only [Act.put, pq1, pq2, pq3])
  refine wpList_val (by rw [hO]; kernel_rfl) (.bool false) (fun K9 hK9 => by go_simp; exact hK9) ?_
  (try simp only [Act.put, pq1, pq2, pq3])
  refine wpList_val (by rw [hO]; kernel_rfl) (.bool false) (fun K9 hK9 => by go_simp; exact hK9) ?_
  (try simp only [Act.put, pq1, pq2, pq3])
  refine wpList_val (by rw [hO]; kernel_rfl) (.bool false) (fun K9 hK9 => by go_simp; exact hK9) ?_
  (try simp only [Act.put, pq1, pq2, pq3])
  refine wpList_val (by rw [hO]; kernel_rfl) (.pointer (some ⟨d, 0, none⟩)) (fun K9 hK9 => by go_simp; exact hK9) ?_
  (try simp only [Act.put, pq1, pq2, pq3])
  refine wpList_val (by rw [hO]; kernel_rfl) (.slice bo n2 bc) (fun K9 hK9 => by go_simp; exact hK9) ?_
  (try simp only [Act.put, pq1, pq2, pq3])
  refine wpList_want (by rw [hO]; kernel_rfl) fun K9 hK9 => ?_
  go_simp
  go_at_call 11
  refine (lwrite_free h4b rfl (show (-1 : Int) < 0 by decide) 1 1 rfl (by simp [t3]) _ _ now (h4b.bts (unhide HB1)) n2 (unhide HN2) (unhide HW2) (by simp [t3])).mono ?_
  rintro e w5 ⟨rfl, F5, h5, -⟩
  clear h4b
  refine hK9 _ _ ?_
  clear hK9 K9
  (try simp only [Act.put, pq1, pq2, pq3])
  refine wpList_val (by rw [hO]; kernel_rfl) (.bool false) (fun K9 hK9 => by go_simp; exact hK9) ?_
  (try simp only [Act.put, pq1, pq2, pq3])
  refine wpList_val (by rw [hO]; kernel_rfl) (.bool false) (fun K9 hK9 => by go_simp; exact hK9) ?_
  (try simp only [Act.put, pq1, pq2, pq3])
  have h5b : Dw w w5 F5 d (t3 [zsec, padS was, padS was] [(1, padS now)]) := h5
  obtain ⟨A, hAA⟩ : ∃ A, A = padS was := ⟨_, rfl⟩
  obtain ⟨B, hBB⟩ : ∃ B, B = padS now := ⟨_, rfl⟩
  rw [← hAA, ← hBB] at h5b
  rw [← hAA] at HA
  rw [← hBB] at HB
  clear h5 hAA hBB HB0 HB1 HN1 HN2 HW1 HW2
  have cs := lsafe_up h5b 1 1 rfl (by simp [t3])
  rw [t3_kept] at cs
  go_upto_region 7 with (go_at_call 23; refine cs.mono ?_; rintro e w6 ⟨a9, c9, rfl, hb9, hk9, g6⟩; clear cs)
  have h6 := h5b.nn g6
  have hn9 : ∀ ad, a9 = some ad → ad.block ∉ F5 := fun ad e hm => by have := hk9 ad e; have := (h5b.lo _ hm).2; omega
  have cr := lread_up h6 rfl 1 1 rfl (by simp [t3]) (by simp [t3])
  rw [t3_last] at cr
  clear h5b g6
  go_upto_region 8 with (go_at_call 18; refine cr.mono ?_; rintro e w7 ⟨a11, c11, rfl, hb11, hk11, g7⟩; clear cr)
  have h7 := h6.nn g7
  have hn11 : ∀ ad, a11 = some ad → ad.block ∉ F5 := fun ad e hm => by have := hk11 ad e; have := (h6.lo _ hm).2; omega
  have hb9' := hb9.kept g7 (fun _ e => by cases e)
  clear h6 g7 hb9
  obtain ⟨W8, hW8⟩ : ∃ W, W = w7.alloc (.cells #[.int .i64 z] 63) := ⟨_, rfl⟩
  have g8 : w7.grownBy W8 none := by rw [hW8]; exact gb_alloc (gb_refl _ _) _
  have hn8 : Nts W8 (some ⟨w7.heap.size, 0, none⟩) 1 [z] := by rw [hW8]; exact nts_one w7 z
  have h8 := h7.nn g8
  have hlt7 : ∀ x ∈ F5, x < w7.heap.size := fun x hx => (h7.lo x hx).2
  have hb9 := hb9'.kept g8 (fun _ e => by cases e)
  have hb11' := hb11.kept g8 (fun _ e => by cases e)
  have cf := lfall h8 (by simp [t3]) _ 1 [z] hn8 (fun ad e => by cases e; intro hm; exact Nat.lt_irrefl _ (hlt7 _ hm))
  rw [t3_fall] at cf
  obtain ⟨k, hk⟩ : ∃ k, k = clampN z := ⟨_, rfl⟩
  rw [← hk] at cf
  have hk6 : k ≤ 256 := by rw [hk]; exact clampN_le _
  have hci := clampN_int z
  rw [← hk] at hci
  obtain ⟨y1, hy1⟩ : ∃ y1 : Int, y1 = max z 0 := ⟨_, rfl⟩
  have hmax : ∀ ts ty (V : World), (Builtin.max_ ts ty #[.int .i64 z, .int .i64 0]).run Try.prog V = .ok (.int .i64 y1) V := fun ts ty V => by rw [run_max_int2]; congr 2; split <;> omega
  have hmin : ∀ ts ty (V : World), (Builtin.min_ ts ty #[.int .i64 y1, .int .i64 256]).run Try.prog V = .ok (.int .i64 (k : Int)) V := fun ts ty V => by rw [run_min_int2]; congr 2; split <;> omega
  have cf2 : Calls Try.prog 15 #[.pointer (some ⟨d, 0, none⟩), .slice (some ⟨w7.heap.size, 0, none⟩) 1 1] W8 fun e w' => e = .returned (.tuple #[]) ∧ Lf w W8 w' F5 d (t3 [zsec, B.take k ++ A.drop k, A] []) := cf
  obtain ⟨G, hG⟩ : ∃ G, G = B.take k ++ A.drop k := ⟨_, rfl⟩
  rw [← hG] at cf2
  have HG := hide hG
  have HW8 := hide hW8
  have HMAX := hide hmax
  have HMIN := hide hmin
  clear cf hk hci hy1 hW8 g8 hn8 h8 h7 hlt7 hb9' hb11 hk9 hk11 hG hmax hmin
  go_upto_region 9 with (rw [← unhide HW8]; go_at_call 15; refine cf2.mono ?_; rintro e w9 ⟨rfl, F9, h9, hF9, -⟩; clear cf2)
  have hb9b := hF9.bts hb9 hn9
  have hb11b := hF9.bts hb11' hn11
  have c1 := lread_up h9 rfl 1 1 rfl (by simp [t3]) (by simp [t3])
  rw [t3_last1] at c1
  clear hF9 hb9 hb11' hn9 hn11 HW8
  go_upto_region 10 with (go_at_call 18; refine c1.mono ?_; rintro e w10 ⟨a13, c13, rfl, hb13, -, g10⟩; clear c1)
  have h10 := h9.nn g10
  have c2 := lread_up h10 rfl 2 2 rfl (by simp [t3]) (by simp [t3])
  rw [t3_last2] at c2
  have hb9c := hb9b.kept g10 (fun _ e => by cases e)
  have hb11c := hb11b.kept g10 (fun _ e => by cases e)
  clear h9 g10 hb9b hb11b
  go_upto_region 11 with (go_at_call 18; refine c2.mono ?_; rintro e w11 ⟨a14, c14, rfl, hb14, -, g11⟩; clear c2)
  have hG11 := (h10.nn g11).gb
  have hb9d := hb9c.kept g11 (fun _ e => by cases e)
  have hb11d := hb11c.kept g11 (fun _ e => by cases e)
  have hb13d := hb13.kept g11 (fun _ e => by cases e)
  clear h10 g11 hb9c hb11c hb13
  have cv14 := conv_len hb14 (unhide HA).symm
  have cv9 := conv_len hb9d (unhide HA).symm
  refine region_named fun O hO => ?_
  refine wpList_val (by rw [hO]; kernel_rfl) (.int .i64 0) (fun K9 hK9 => by go_simp; exact hK9) ?_
  (try simp only [Act.put, pq1, pq2, pq3])
  refine wpList_val (by rw [hO]; kernel_rfl) (.bool false) (fun K9 hK9 => by go_simp; exact hK9) ?_
  (try simp only [Act.put, pq1, pq2, pq3])
  refine wpList_val (by rw [hO]; kernel_rfl) (.bool false) (fun K9 hK9 => by go_simp; exact hK9) ?_
  (try simp only [Act.put, pq1, pq2, pq3])
  refine wpList_val (by rw [hO]; kernel_rfl) (.int .i64 0) (fun K9 hK9 => by go_simp; exact hK9) ?_
  (try simp only [Act.put, pq1, pq2, pq3])
  refine wpList_val (by rw [hO]; kernel_rfl) (.bool false) (fun K9 hK9 => by go_simp; exact hK9) ?_
  (try simp only [Act.put, pq1, pq2, pq3])
  refine wpList_val (by rw [hO]; kernel_rfl) (.bool false) (fun K9 hK9 => by go_simp; exact hK9) ?_
  (try simp only [Act.put, pq1, pq2, pq3])
  refine wpList_val (by rw [hO]; kernel_rfl) (.bool false) (fun K9 hK9 => by go_simp; exact hK9) ?_
  (try simp only [Act.put, pq1, pq2, pq3])
  refine wpList_val (by rw [hO]; kernel_rfl) (.slice a14 256 c14) (fun K9 hK9 => by go_simp; exact hK9) ?_
  (try simp only [Act.put, pq1, pq2, pq3])
  refine wpList_val (by rw [hO]; kernel_rfl) (.string (str A)) (fun K9 hK9 => by go_simp; exact hK9) ?_
  (try simp only [Act.put, pq1, pq2, pq3])
  refine wpList_val (by rw [hO]; kernel_rfl) (.slice a9 256 c9) (fun K9 hK9 => by go_simp; exact hK9) ?_
  (try simp only [Act.put, pq1, pq2, pq3])
  refine wpList_val (by rw [hO]; kernel_rfl) (.string (str A)) (fun K9 hK9 => by go_simp; exact hK9) ?_
  (try simp only [Act.put, pq1, pq2, pq3])
  refine wpList_val (by rw [hO]; kernel_rfl) (.bool false) (fun K9 hK9 => by go_simp; exact hK9) ?_
  (try simp only [Act.put, pq1, pq2, pq3])
  refine wpList_val (by rw [hO]; kernel_rfl) (.bool false) (fun K9 hK9 => by go_simp; exact hK9) ?_
  (try simp only [Act.put, pq1, pq2, pq3])
  refine wpList_val (by rw [hO]; kernel_rfl) (.bool false) (fun K9 hK9 => by go_simp; exact hK9) ?_
  (try simp only [Act.put, pq1, pq2, pq3])
  refine wpList_val (by rw [hO]; kernel_rfl) (.slice a11 256 c11) (fun K9 hK9 => by go_simp; exact hK9) ?_
  (try simp only [Act.put, pq1, pq2, pq3])
  refine wpList_val (by rw [hO]; kernel_rfl) (.int .i64 (256 : Int)) (fun K9 hK9 => by go_simp; exact hK9) ?_
  (try simp only [Act.put, pq1, pq2, pq3])
  refine wpList_val (by rw [hO]; kernel_rfl) (.bool false) (fun K9 hK9 => by go_simp; exact hK9) ?_
  (try simp only [Act.put, pq1, pq2, pq3])
  refine wpList_val (by rw [hO]; kernel_rfl) (.bool false) (fun K9 hK9 => by go_simp; exact hK9) ?_
  (try simp only [Act.put, pq1, pq2, pq3])
  refine wpList_val (by rw [hO]; kernel_rfl) (.bool false) (fun K9 hK9 => by go_simp; exact hK9) ?_
  (try simp only [Act.put, pq1, pq2, pq3])
  refine wpList_val (by rw [hO]; kernel_rfl) (.slice a9 256 c9) (fun K9 hK9 => by go_simp; exact hK9) ?_
  (try simp only [Act.put, pq1, pq2, pq3])
  refine wpList_val (by rw [hO]; kernel_rfl) (.int .i64 (256 : Int)) (fun K9 hK9 => by go_simp; exact hK9) ?_
  (try simp only [Act.put, pq1, pq2, pq3])
  refine wpList_val (by rw [hO]; kernel_rfl) (.bool false) (fun K9 hK9 => by go_simp; exact hK9) ?_
  (try simp only [Act.put, pq1, pq2, pq3])
  refine wpList_val (by rw [hO]; kernel_rfl) (.bool false) (fun K9 hK9 => by go_simp; exact hK9) ?_
  (try simp only [Act.put, pq1, pq2, pq3])
  clear cv14 cv9 hb14
  have hmax := unhide HMAX
  have hmin := unhide HMIN
  go_upto_region 14 with fail
  clear hmax hmin HMAX HMIN
  obtain ⟨SA, hSA⟩ : ∃ SA, SA = str (B.take k) := ⟨_, rfl⟩
  obtain ⟨SB, hSB⟩ : ∃ SB, SB = str (A.drop k) := ⟨_, rfl⟩
  have hsz : ¬ 9223372036854775807 < SA.size + SB.size := by
    have h1 := unhide HA
    have h2 := unhide HB
    rw [hSA, hSB, str_size, str_size, List.length_take, List.length_drop]
    omega
  have hGl : G.length = 256 := by
    have h1 := unhide HA
    have h2 := unhide HB
    rw [unhide HG, List.length_append, List.length_take, List.length_drop]
    omega
  have hc13 : ∀ V, w11.grownBy V none → (convert 33 9 (.slice a13 256 c13)).run Try.prog V = .ok (.string (SA ++ SB)) V := fun V hV => by
    rw [conv_len (hb13d.kept hV (fun _ e => by cases e)) hGl.symm, unhide HG, ← str_app, ← hSA, ← hSB]
  have hs1 : ∀ V, (Instr.slice 33 (.slice a11 256 c11) none (some (.int .i64 (k : Int))) none).run Try.prog V = .ok (.slice a11 k c11) V := fun V => slice_to V 33 5 Try.underlying33 size_byte a11 256 c11 k (by have := hb11d.fits; have := unhide HB; omega)
  have hc11 : ∀ V, w11.grownBy V none → (convert 33 9 (.slice a11 k c11)).run Try.prog V = .ok (.string SA) V := fun V hV => by
    rw [conv_len ((hb11d.take k (by have := unhide HB; omega)).kept hV (fun _ e => by cases e)) (by have := unhide HB; rw [List.length_take]; omega), ← hSA]
  have hs2 : ∀ V, (Instr.slice 33 (.slice a9 256 c9) (some (.int .i64 (k : Int))) none none).run Try.prog V = .ok (.slice (cutA a9 c9 k) (256 - k) (c9 - k)) V := fun V => slice_from V 33 5 Try.underlying33 size_byte a9 256 c9 k hk6
  obtain ⟨v9, hv9⟩ : ∃ v, v = Value.slice (cutA a9 c9 k) (256 - k) (c9 - k) := ⟨_, rfl⟩
  have hc9 : ∀ V, w11.grownBy V none → (convert 33 9 v9).run Try.prog V = .ok (.string SB) V := fun V hV => by
    rw [hv9, conv_len ((hb9d.drop k (by have := unhide HA; omega)).kept hV (fun _ e => by cases e)) (by have := unhide HA; rw [List.length_drop]; omega), ← hSB]
  rw [← hv9] at hs2
  have HC13 := hide hc13
  have HC11 := hide hc11
  have HC9 := hide hc9
  have HS1 := hide hs1
  have HS2 := hide hs2
  have HSZ := hide hsz
  have HG11 := hide hG11
  clear hSA hSB hsz hGl hc13 hs1 hc11 hs2 hv9 hc9 hb9d hb11d hb13d HA HB HG hG11
  refine wp_region_noPanic ?_
  refine wp_region_held_drew (S := fun V => w11.grownBy V none) (by kernel_rfl) (gb_drew (gb_refl _ _)) (fun _ => ?_)
  refine wpAnyH_take (i := 0) (oi := ⟨some 108, .move (.tmp 13), _, _, _, _⟩) (v := (.slice a13 256 c13)) rfl (by kernel_rfl) (by kernel_rfl) (by kernel_rfl) (fun _ _ _ h => h) (Or.inl ⟨by rfl, fun V (hV : w11.grownBy V none) => by go_simp⟩) (gb_drew (gb_refl _ _)) ?_
  (try simp only [Act.put, pq1, pq2, pq3])
  refine wpAnyH_take (i := 1) (oi := ⟨some 109, .convert 33 9 (.tmp 108), _, _, _, _⟩) (v := (.string (SA ++ SB))) rfl (by kernel_rfl) (by kernel_rfl) (by kernel_rfl) (fun _ _ _ h => h) (Or.inl ⟨by rfl, fun V (hV : w11.grownBy V none) => by (have hv1 := unhide HC13 V hV; go_simp)⟩) (gb_drew (gb_refl _ _)) ?_
  (try simp only [Act.put, pq1, pq2, pq3])
  refine wpAnyH_take (i := 2) (oi := ⟨some 110, .move (.tmp 11), _, _, _, _⟩) (v := (.slice a11 256 c11)) rfl (by kernel_rfl) (by kernel_rfl) (by kernel_rfl) (fun _ _ _ h => h) (Or.inl ⟨by rfl, fun V (hV : w11.grownBy V none) => by go_simp⟩) (gb_drew (gb_refl _ _)) ?_
  (try simp only [Act.put, pq1, pq2, pq3])
  refine wpAnyH_take (i := 3) (oi := ⟨some 111, .move (.tmp 16), _, _, _, _⟩) (v := (.int .i64 (k : Int))) rfl (by kernel_rfl) (by kernel_rfl) (by kernel_rfl) (fun _ _ _ h => h) (Or.inl ⟨by rfl, fun V (hV : w11.grownBy V none) => by go_simp⟩) (gb_drew (gb_refl _ _)) ?_
  (try simp only [Act.put, pq1, pq2, pq3])
  refine wpAnyH_take (i := 4) (oi := ⟨some 112, .slice 33 (.tmp 110) none (some (.tmp 111)) none, _, _, _, _⟩) (v := (.slice a11 k c11)) rfl (by kernel_rfl) (by kernel_rfl) (by kernel_rfl) (fun _ _ _ h => h) (Or.inl ⟨by rfl, fun V (hV : w11.grownBy V none) => by (have hv1 := unhide HS1 V; go_simp)⟩) (gb_drew (gb_refl _ _)) ?_
  (try simp only [Act.put, pq1, pq2, pq3])
  refine wpAnyH_take (i := 5) (oi := ⟨some 113, .convert 33 9 (.tmp 112), _, _, _, _⟩) (v := (.string SA)) rfl (by kernel_rfl) (by kernel_rfl) (by kernel_rfl) (fun _ _ _ h => h) (Or.inl ⟨by rfl, fun V (hV : w11.grownBy V none) => by (have hv1 := unhide HC11 V hV; go_simp)⟩) (gb_drew (gb_refl _ _)) ?_
  (try simp only [Act.put, pq1, pq2, pq3])
  refine wpAnyH_take (i := 6) (oi := ⟨some 114, .move (.tmp 9), _, _, _, _⟩) (v := (.slice a9 256 c9)) rfl (by kernel_rfl) (by kernel_rfl) (by kernel_rfl) (fun _ _ _ h => h) (Or.inl ⟨by rfl, fun V (hV : w11.grownBy V none) => by go_simp⟩) (gb_drew (gb_refl _ _)) ?_
  (try simp only [Act.put, pq1, pq2, pq3])
  refine wpAnyH_take (i := 7) (oi := ⟨some 115, .move (.tmp 16), _, _, _, _⟩) (v := (.int .i64 (k : Int))) rfl (by kernel_rfl) (by kernel_rfl) (by kernel_rfl) (fun _ _ _ h => h) (Or.inl ⟨by rfl, fun V (hV : w11.grownBy V none) => by go_simp⟩) (gb_drew (gb_refl _ _)) ?_
  (try simp only [Act.put, pq1, pq2, pq3])
  refine wpAnyH_take (i := 8) (oi := ⟨some 116, .slice 33 (.tmp 114) (some (.tmp 115)) none none, _, _, _, _⟩) (v := (v9)) rfl (by kernel_rfl) (by kernel_rfl) (by kernel_rfl) (fun _ _ _ h => h) (Or.inl ⟨by rfl, fun V (hV : w11.grownBy V none) => by (have hv1 := unhide HS2 V; go_simp)⟩) (gb_drew (gb_refl _ _)) ?_
  (try simp only [Act.put, pq1, pq2, pq3])
  refine wpAnyH_take (i := 9) (oi := ⟨some 117, .convert 33 9 (.tmp 116), _, _, _, _⟩) (v := (.string SB)) rfl (by kernel_rfl) (by kernel_rfl) (by kernel_rfl) (fun _ _ _ h => h) (Or.inl ⟨by rfl, fun V (hV : w11.grownBy V none) => by (have hv1 := unhide HC9 V hV; go_simp)⟩) (gb_drew (gb_refl _ _)) ?_
  (try simp only [Act.put, pq1, pq2, pq3])
  refine wpAnyH_take (i := 10) (oi := ⟨some 118, .binOp .add 9 (.tmp 113) (.tmp 117) 9, _, _, _, _⟩) (v := (.string (SA ++ SB))) rfl (by kernel_rfl) (by kernel_rfl) (by kernel_rfl) (fun _ _ _ h => h) (Or.inl ⟨by rfl, fun V (hV : w11.grownBy V none) => by (have hv1 := unhide HSZ; go_simp)⟩) (gb_drew (gb_refl _ _)) ?_
  (try simp only [Act.put, pq1, pq2, pq3])
  refine wpAnyH_take (i := 11) (oi := ⟨some 119, .binOp .eql 9 (.tmp 109) (.tmp 118) 9, _, _, _, _⟩) (v := (.bool true)) rfl (by kernel_rfl) (by kernel_rfl) (by kernel_rfl) (fun _ _ _ h => h) (Or.inl ⟨by rfl, fun V (hV : w11.grownBy V none) => by go_simp⟩) (gb_drew (gb_refl _ _)) ?_
  (try simp only [Act.put, pq1, pq2, pq3])
  refine wpAnyH_take (i := 12) (oi := ⟨some 120, .move (.tmp 119), _, _, _, _⟩) (v := (.bool true)) rfl (by kernel_rfl) (by kernel_rfl) (by kernel_rfl) (fun _ _ _ h => h) (Or.inl ⟨by rfl, fun V (hV : w11.grownBy V none) => by go_simp⟩) (gb_drew (gb_refl _ _)) ?_
  (try simp only [Act.put, pq1, pq2, pq3])
  refine wpAnyH_ready (rs := [13]) (by kernel_rfl) (by simp) ?_
  refine AllReadyH.cons (o := ⟨some 121, .call { callee := .value (.func 24), args := #[], argTypes := #[] }, _, _, _, _⟩) rfl (fun K9 hK9 => ?_) AllReadyH.nil
  go_simp
  go_at_call 24
  refine (dkone_any _).mono ?_
  rintro e w12 ⟨rfl, g12⟩
  go_wp2_with fail
  refine hK9.out _ _ (tn (gb_drew (gb_refl _ _)) g12) (fun _ => ?_)
  clear hK9 K9
  (try simp only [Act.put, pq1, pq2, pq3])
  refine wpAnyH_take (i := 14) (oi := ⟨some 122, .pick (.tmp 120) (.tmp 121) (.const (.bool false)), _, _, _, _⟩) (v := (.bool true)) rfl (by kernel_rfl) (by kernel_rfl) (by kernel_rfl) (fun _ _ _ h => h) (Or.inl ⟨by rfl, fun V (hV : w11.grownBy V none) => by go_simp⟩) (tn (gb_drew (gb_refl _ _)) g12) ?_
  (try simp only [Act.put, pq1, pq2, pq3])
  refine wpAnyH_take (i := 15) (oi := ⟨some 6, .assign (.tmp 122), _, _, _, _⟩) (v := (.bool true)) rfl (by kernel_rfl) (by kernel_rfl) (by kernel_rfl) (fun _ _ _ h => h) (Or.inl ⟨by rfl, fun V (hV : w11.grownBy V none) => by go_simp⟩) (tn (gb_drew (gb_refl _ _)) g12) ?_
  (try simp only [Act.put, pq1, pq2, pq3])
  refine wpAnyH_done (by kernel_rfl) ?_ _
  refine NoPanic.normal ?_
  clear HC13 HC11 HC9 HS1 HS2 HSZ
  go_wp2
  go_ret
  exact ⟨rfl, tn (unhide HG11) (tn (gb_drew (gb_refl _ _)) g12)⟩

end Go.Proofs.Ytfaipdifkmjdeaa
