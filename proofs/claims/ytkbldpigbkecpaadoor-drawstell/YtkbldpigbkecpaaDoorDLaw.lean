/- What a law meets of draws: Take of any number of bytes; and the law package's one: it answers true, and nothing that was in memory has changed. No condition but those that each lemma names. -/
import Derived.Test.YtkbldpigbkecpaaDoorDTake
import Derived.Test.YtkbldpigbkecpaaDoorMGrd
import Derived.Lib.SlBytesConst
namespace Go.Proofs.YtkbldpigbkecpaaDoor
open Go.RowKit

theorem take_any (w : World) (b : Nat) (T : List UInt8) (us n : Nat) (h : SrcAt w b T us) (hT : Tabs w) (hn : n ≤ 65536) (hus : us ≤ 70368744177664) :
    Calls Tryd.prog 7 #[.pointer (some ⟨b, 0, none⟩), .int .i64 (n : Int)] w fun e w' => ∃ ao c, e = .returned (.slice ao n c) ∧ Bts w' ao c (told T us n) ∧ (∀ ad, ao = some ad → w.heap.size ≤ ad.block) ∧ SrcAt w' b T (us + n) ∧ w.grownBy w' (some b) := by
  by_cases h0 : n = 0
  · subst h0
    refine (take_few w b ((0 : Nat) : Int) (by omega)).mono ?_
    rintro e w' ⟨rfl, rfl⟩
    exact ⟨none, 0, rfl, Bts.nil _, (fun _ e => by cases e), h, gb_refl _ _⟩
  · refine (take_some w b T us n h.fit hT (by omega) hn hus).mono ?_
    rintro e w' ⟨g, rfl, hg, hB, hS, gg⟩
    exact ⟨_, _, rfl, blk_bytes hB n (by rw [told_length]; exact Nat.le_refl _) (by unfold maxLen; omega), (fun ad e => by cases e; exact hg), hS, gg⟩

theorem bts_new (V : World) (l : List UInt8) (mk : Nat × Nat) (h : l.length ≤ maxLen) : Bts (V.alloc (.cells (l.map bv).toArray 5 mk)) (some ⟨V.heap.size, 0, none⟩) l.length l := by
  refine ⟨(fun e => by cases e), Nat.le_refl _, h, (fun ad e _ => by cases e; rfl), (fun ad e i hi => ?_)⟩
  cases e
  show (V.alloc (.cells (l.map bv).toArray 5 mk)).cell? ⟨V.heap.size, 0 + i, none⟩ = _
  rw [Nat.zero_add, cell_of_row _ _ i _ _ _ (heap_alloc_new V _)]
  simp [hi, bv]

/-- A text of two letters, each in memory of its own. -/
theorem two_letters (w : World) : ∃ W3, W3 = ((w.alloc (.cells #[.int .u8 97] 5 (1, 2))).alloc (.cells #[.int .u8 98] 5 (1, 2))).alloc (.cells #[.slice (some ⟨w.heap.size, 0, none⟩) 1 1, .slice (some ⟨w.heap.size + 1, 0, none⟩) 1 1] 22) ∧
    Lst W3 (some ⟨w.heap.size + 2, 0, none⟩) 2 [[97], [98]] ∧ w.grownBy W3 none := by
  obtain ⟨W1, hW1⟩ : ∃ W1, W1 = w.alloc (.cells #[.int .u8 97] 5 (1, 2)) := ⟨_, rfl⟩
  obtain ⟨W2, hW2⟩ : ∃ W2, W2 = W1.alloc (.cells #[.int .u8 98] 5 (1, 2)) := ⟨_, rfl⟩
  rw [← hW1, ← hW2]
  have s1 : W1.heap.size = w.heap.size + 1 := by rw [hW1, World.size_alloc]
  have s2 : W2.heap.size = w.heap.size + 2 := by rw [hW2, World.size_alloc, s1]
  have b1 : Bts W1 (some ⟨w.heap.size, 0, none⟩) 1 [97] := by rw [hW1]; exact bts_new w [97] (1, 2) (by decide)
  have b2 : Bts W2 (some ⟨w.heap.size + 1, 0, none⟩) 1 [98] := by
    have := bts_new W1 [98] (1, 2) (by decide)
    rw [s1] at this
    rw [hW2]; exact this
  have g12 : W1.grownBy W2 none := by rw [hW2]; exact gb_alloc (gb_refl _ _) _
  have hN : Blk (W2.alloc (.cells #[.slice (some ⟨w.heap.size, 0, none⟩) 1 1, .slice (some ⟨w.heap.size + 1, 0, none⟩) 1 1] 22)) (w.heap.size + 2) 22 [.slice (some ⟨w.heap.size, 0, none⟩) 1 1, .slice (some ⟨w.heap.size + 1, 0, none⟩) 1 1] := by
    have := Blk.new W2 22 [.slice (some ⟨w.heap.size, 0, none⟩) 1 1, .slice (some ⟨w.heap.size + 1, 0, none⟩) 1 1]
    rw [s2] at this
    exact this
  have g23 := gb_alloc (gb_refl W2 none) (.cells #[.slice (some ⟨w.heap.size, 0, none⟩) 1 1, .slice (some ⟨w.heap.size + 1, 0, none⟩) 1 1] 22)
  refine ⟨_, rfl, lst_two hN ((b1.kept g12 (fun _ e => by cases e)).kept g23 (fun _ e => by cases e)) (b2.kept g23 (fun _ e => by cases e)), ?_⟩
  refine gb_alloc ?_ _
  rw [hW2, hW1]
  exact gb_alloc (gb_alloc (gb_refl _ _) _) _

set_option maxRecDepth 100000 in
set_option maxHeartbeats 2000000 in
theorem done_any (w : World) (hT : Tabs w) :
    Calls Tryd.prog 11 #[] w fun e w' => e = .returned (.bool true) ∧ w.grownBy w' none := by
  have ts : ∀ {x y z : World} {b : Nat}, x.heap.size ≤ b → x.grownBy y none → y.grownBy z (some b) → x.grownBy z none := fun hb h k => gb_trans h k (fun _ e => by cases e; exact Or.inl hb)
  obtain ⟨W3, hW3, hL, g3⟩ := two_letters w
  have kc := fun (w : World) (C : Array Value) (n c : Nat) => Lib.run_convert_bytes_const (P := Tryd.prog) w 22 5 C n c Tryd.underlying22 Tryd.underlying5
  have kc2 := kc (w.alloc (.cells #[.int .u8 97] 5 (1, 2))) #[.int .u8 98] 1 1
  rw [World.size_alloc] at kc2
  have hnew := dnew_any W3 _ 2 _ hL (hT.kept0 g3) (by simp)
  rw [show ([[97], [98]] : List (List UInt8)).flatten = [97, 98] from rfl, show ([[97], [98]] : List (List UInt8)).length = 2 from rfl] at hnew
  have h3 : ∀ V b, w.grownBy V none → w.heap.size ≤ b → SrcAt V b [97, 98] 2 → Calls Tryd.prog 7 #[.pointer (some ⟨b, 0, none⟩), .int .i64 40] V fun e w' => ∃ ao c, e = .returned (.slice ao 40 c) ∧ w.grownBy w' none := fun V b gV hb hS =>
    (take_any V b [97, 98] 2 40 hS (hT.kept0 gV) (by omega) (by omega)).mono fun e w' ⟨ao, c, he, _, _, _, gg⟩ => ⟨ao, c, he, ts hb gV gg⟩
  have h2 : ∀ V b, w.grownBy V none → w.heap.size ≤ b → SrcAt V b [97, 98] 1 → Calls Tryd.prog 7 #[.pointer (some ⟨b, 0, none⟩), .int .i64 1] V fun e w' => ∃ ao c, e = .returned (.slice ao 1 c) ∧ (convert 22 9 (.slice ao 1 c)).run Tryd.prog w' = .ok (.string { data := #[98] }) w' ∧ (Calls Tryd.prog 9 #[.pointer (some ⟨b, 0, none⟩)] w' fun e w2 => e = .returned (.int .i64 2) ∧ w2 = w') ∧
      (Calls Tryd.prog 7 #[.pointer (some ⟨b, 0, none⟩), .int .i64 40] w' fun e w' => ∃ ao c, e = .returned (.slice ao 40 c) ∧ w.grownBy w' none) ∧ w.grownBy w' none := fun V b gV hb hS =>
    (take_any V b [97, 98] 1 1 hS (hT.kept0 gV) (by omega) (by omega)).mono fun e w' ⟨ao, c, he, hB, _, hS2, gg⟩ => ⟨ao, c, he, conv_str hB, used_any w' b _ _ hS2, h3 w' b (ts hb gV gg) hb hS2, ts hb gV gg⟩
  have h1 : ∀ V b, w.grownBy V none → w.heap.size ≤ b → SrcAt V b [97, 98] 0 → Calls Tryd.prog 7 #[.pointer (some ⟨b, 0, none⟩), .int .i64 1] V fun e w' => ∃ ao c, e = .returned (.slice ao 1 c) ∧ (convert 22 9 (.slice ao 1 c)).run Tryd.prog w' = .ok (.string { data := #[97] }) w' ∧ (Calls Tryd.prog 7 #[.pointer (some ⟨b, 0, none⟩), .int .i64 1] w' fun e w' => ∃ ao c, e = .returned (.slice ao 1 c) ∧ (convert 22 9 (.slice ao 1 c)).run Tryd.prog w' = .ok (.string { data := #[98] }) w' ∧ (Calls Tryd.prog 9 #[.pointer (some ⟨b, 0, none⟩)] w' fun e w2 => e = .returned (.int .i64 2) ∧ w2 = w') ∧
      (Calls Tryd.prog 7 #[.pointer (some ⟨b, 0, none⟩), .int .i64 40] w' fun e w' => ∃ ao c, e = .returned (.slice ao 40 c) ∧ w.grownBy w' none) ∧ w.grownBy w' none) ∧ w.grownBy w' none := fun V b gV hb hS =>
    (take_any V b [97, 98] 0 1 hS (hT.kept0 gV) (by omega) (by omega)).mono fun e w' ⟨ao, c, he, hB, _, hS2, gg⟩ => ⟨ao, c, he, conv_str hB, h2 w' b (ts hb gV gg) hb hS2, ts hb gV gg⟩
  have HN : Hid (∀ W, W = W3 → Calls Tryd.prog 6 #[.slice (some ⟨w.heap.size + 2, 0, none⟩) 2 2] W fun e w' => ∃ b, e = .returned (.pointer (some ⟨b, 0, none⟩)) ∧ (Calls Tryd.prog 7 #[.pointer (some ⟨b, 0, none⟩), .int .i64 1] w' fun e w' => ∃ ao c, e = .returned (.slice ao 1 c) ∧ (convert 22 9 (.slice ao 1 c)).run Tryd.prog w' = .ok (.string { data := #[97] }) w' ∧ (Calls Tryd.prog 7 #[.pointer (some ⟨b, 0, none⟩), .int .i64 1] w' fun e w' => ∃ ao c, e = .returned (.slice ao 1 c) ∧ (convert 22 9 (.slice ao 1 c)).run Tryd.prog w' = .ok (.string { data := #[98] }) w' ∧ (Calls Tryd.prog 9 #[.pointer (some ⟨b, 0, none⟩)] w' fun e w2 => e = .returned (.int .i64 2) ∧ w2 = w') ∧
      (Calls Tryd.prog 7 #[.pointer (some ⟨b, 0, none⟩), .int .i64 40] w' fun e w' => ∃ ao c, e = .returned (.slice ao 40 c) ∧ w.grownBy w' none) ∧ w.grownBy w' none) ∧ w.grownBy w' none)) := fun W hW => by
    rw [hW]
    refine hnew.mono ?_
    rintro e w' ⟨b, rfl, hb, hS, gg⟩
    exact ⟨b, rfl, h1 w' b (gb_trans g3 gg (fun _ e => by cases e)) (Nat.le_trans g3.size hb) hS⟩
  have HW := hide hW3
  clear h1 h2 h3 hnew hL hW3 hT ts
  go_enter Tryd.func11, Tryd.ntmps11
  go_upto_region 2 with (go_at_call 6; refine (unhide HN _ (by rw [unhide HW]; try rfl)).mono ?_; rintro e w1 ⟨b, rfl, ct1⟩)
  refine region_named fun O hO => ?_
  refine wpList_val (by rw [hO]; kernel_rfl) (.pointer (some ⟨b, 0, none⟩)) (fun K9 hK9 => by go_simp; exact hK9) ?_
  (try simp only [Act.put, List.setIfInBounds_toArray, List.set_cons_zero, List.set_cons_succ])
  refine wpList_want (by rw [hO]; kernel_rfl) fun K9 hK9 => ?_
  go_simp
  go_at_call 7
  refine (ct1).mono ?_
  rintro e w2 ⟨a1, c1, rfl, hcv1, hct2, g2⟩
  refine hK9 _ _ ?_
  clear hK9 K9
  (try simp only [Act.put, List.setIfInBounds_toArray, List.set_cons_zero, List.set_cons_succ])
  refine wpList_val (by rw [hO]; kernel_rfl) (.string { data := #[97] }) (fun K9 hK9 => by go_simp; exact hK9) ?_
  (try simp only [Act.put, List.setIfInBounds_toArray, List.set_cons_zero, List.set_cons_succ])
  refine wpList_val (by rw [hO]; kernel_rfl) (.bool true) (fun K9 hK9 => by go_simp; exact hK9) ?_
  (try simp only [Act.put, List.setIfInBounds_toArray, List.set_cons_zero, List.set_cons_succ])
  refine wpList_val (by rw [hO]; kernel_rfl) (.bool true) (fun K9 hK9 => by go_simp; exact hK9) ?_
  (try simp only [Act.put, List.setIfInBounds_toArray, List.set_cons_zero, List.set_cons_succ])
  refine wpList_val (by rw [hO]; kernel_rfl) (.pointer (some ⟨b, 0, none⟩)) (fun K9 hK9 => by go_simp; exact hK9) ?_
  (try simp only [Act.put, List.setIfInBounds_toArray, List.set_cons_zero, List.set_cons_succ])
  refine wpList_want (by rw [hO]; kernel_rfl) fun K9 hK9 => ?_
  go_simp
  go_at_call 7
  refine (hct2).mono ?_
  rintro e w3 ⟨a2, c2, rfl, hcv2, hcu, hct3, g3⟩
  refine hK9 _ _ ?_
  clear hK9 K9
  (try simp only [Act.put, List.setIfInBounds_toArray, List.set_cons_zero, List.set_cons_succ])
  refine wpList_val (by rw [hO]; kernel_rfl) (.string { data := #[98] }) (fun K9 hK9 => by go_simp; exact hK9) ?_
  (try simp only [Act.put, List.setIfInBounds_toArray, List.set_cons_zero, List.set_cons_succ])
  refine wpList_val (by rw [hO]; kernel_rfl) (.bool true) (fun K9 hK9 => by go_simp; exact hK9) ?_
  (try simp only [Act.put, List.setIfInBounds_toArray, List.set_cons_zero, List.set_cons_succ])
  refine wpList_val (by rw [hO]; kernel_rfl) (.bool true) (fun K9 hK9 => by go_simp; exact hK9) ?_
  (try simp only [Act.put, List.setIfInBounds_toArray, List.set_cons_zero, List.set_cons_succ])
  refine wpList_val (by rw [hO]; kernel_rfl) (.bool true) (fun K9 hK9 => by go_simp; exact hK9) ?_
  (try simp only [Act.put, List.setIfInBounds_toArray, List.set_cons_zero, List.set_cons_succ])
  refine wpList_val (by rw [hO]; kernel_rfl) (.pointer (some ⟨b, 0, none⟩)) (fun K9 hK9 => by go_simp; exact hK9) ?_
  (try simp only [Act.put, List.setIfInBounds_toArray, List.set_cons_zero, List.set_cons_succ])
  refine wpList_want (by rw [hO]; kernel_rfl) fun K9 hK9 => ?_
  go_simp
  go_at_call 9
  refine (hcu).mono ?_
  rintro e w4 ⟨rfl, rfl⟩
  refine hK9 _ _ ?_
  clear hK9 K9
  (try simp only [Act.put, List.setIfInBounds_toArray, List.set_cons_zero, List.set_cons_succ])
  refine wpList_val (by rw [hO]; kernel_rfl) (.bool true) (fun K9 hK9 => by go_simp; exact hK9) ?_
  (try simp only [Act.put, List.setIfInBounds_toArray, List.set_cons_zero, List.set_cons_succ])
  refine wpList_val (by rw [hO]; kernel_rfl) (.bool true) (fun K9 hK9 => by go_simp; exact hK9) ?_
  (try simp only [Act.put, List.setIfInBounds_toArray, List.set_cons_zero, List.set_cons_succ])
  refine wpList_val (by rw [hO]; kernel_rfl) (.bool true) (fun K9 hK9 => by go_simp; exact hK9) ?_
  (try simp only [Act.put, List.setIfInBounds_toArray, List.set_cons_zero, List.set_cons_succ])
  refine wpList_val (by rw [hO]; kernel_rfl) (.pointer (some ⟨b, 0, none⟩)) (fun K9 hK9 => by go_simp; exact hK9) ?_
  (try simp only [Act.put, List.setIfInBounds_toArray, List.set_cons_zero, List.set_cons_succ])
  refine wpList_want (by rw [hO]; kernel_rfl) fun K9 hK9 => ?_
  go_simp
  go_at_call 7
  refine (hct3).mono ?_
  rintro e w5 ⟨a3, c3, rfl, g5⟩
  refine hK9 _ _ ?_
  clear hK9 K9
  (try simp only [Act.put, List.setIfInBounds_toArray, List.set_cons_zero, List.set_cons_succ])
  refine wpList_val (by rw [hO]; kernel_rfl) (.int .i64 40) (fun K9 hK9 => by go_simp; exact hK9) ?_
  (try simp only [Act.put, List.setIfInBounds_toArray, List.set_cons_zero, List.set_cons_succ])
  refine wpList_val (by rw [hO]; kernel_rfl) (.bool true) (fun K9 hK9 => by go_simp; exact hK9) ?_
  (try simp only [Act.put, List.setIfInBounds_toArray, List.set_cons_zero, List.set_cons_succ])
  refine wpList_val (by rw [hO]; kernel_rfl) (.bool true) (fun K9 hK9 => by go_simp; exact hK9) ?_
  (try simp only [Act.put, List.setIfInBounds_toArray, List.set_cons_zero, List.set_cons_succ])
  go_wp2
  go_ret
  exact ⟨rfl, g5⟩
end Go.Proofs.YtkbldpigbkecpaaDoor
