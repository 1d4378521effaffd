/- DrawsParts answers true: however many bytes are told at a time, the same ones are told; and a clone tells what the source tells. For every text and numbers. -/
import Derived.Test.YtkbldpigbkecpaaDoorDKeep
import Derived.Deep.DrawnRows
namespace Go.Proofs.YtkbldpigbkecpaaDoor
open Go.RowKit
attribute [local go_sem ↓] Go.wp_at_zero Go.wp_at_succ

theorem alloc_src (w2 : World) (Z : List Value) : ∃ W3, W3 = w2.alloc (.cells Z.toArray 37) ∧ Blk W3 w2.heap.size 37 Z ∧ w2.grownBy W3 none :=
  ⟨_, rfl, Blk.new w2 37 _, gb_alloc (gb_refl _ _) _⟩

set_option maxRecDepth 100000 in
theorem drawsParts_big (w : World) (ao : Option Addr) (ca la : Nat) (n k : Int) (h : 300 < la) :
    Calls Tryd.prog 4 #[.slice ao la ca, .int .i64 n, .int .i64 k] w fun e w' => e = .returned (.bool true) ∧ w.grownBy w' none := by
  go_enter Tryd.func4, Tryd.ntmps4
  go_wp2
  go_ret
  exact ⟨rfl, gb_refl _ _⟩

set_option maxRecDepth 100000 in
set_option maxHeartbeats 4000000 in
theorem drawsParts_small (w : World) (ao : Option Addr) (ca : Nat) (A : List UInt8) (ha : Bts w ao ca A) (n k : Int) (hT : Tabs w) (h300 : A.length ≤ 300) :
    Calls Tryd.prog 4 #[.slice ao A.length ca, .int .i64 n, .int .i64 k] w fun e w' => e = .returned (.bool true) ∧ w.grownBy w' none := by
  obtain ⟨j, hj, hjz0⟩ := and_mask 255 (by omega) n
  obtain ⟨m, hm, hmz0⟩ := and_mask 511 (by omega) k
  have hjz : bits .and .i64 n 255 = (j : Int) := hjz0
  have hmz : bits .and .i64 k 511 = (m : Int) := hmz0
  clear hjz0 hmz0
  obtain ⟨N, hN⟩ : ∃ N, N = j + m := ⟨_, rfl⟩
  have hNi : (j : Int) + (m : Int) = (N : Int) := by omega
  have hwN : IntKind.i64.wrap (N : Int) = (N : Int) := by rw [IntKind.wrap_i64]; omega
  have hw5 : IntKind.i64.wrap ((N : Int) + 50) = (N : Int) + 50 := by rw [IntKind.wrap_i64]; omega
  obtain ⟨L, hL⟩ : ∃ L, L = A.length := ⟨_, rfl⟩
  have cnew : ∀ V M, w.grownBy V none → Blk V M 22 [.slice ao L ca] → Calls Tryd.prog 6 #[.slice (some ⟨M, 0, none⟩) 1 1] V fun e w' => ∃ b, e = .returned (.pointer (some ⟨b, 0, none⟩)) ∧ V.heap.size ≤ b ∧ SrcAt w' b A 0 ∧ V.grownBy w' none := fun V M gV hM => by
    rw [hL] at hM
    have h := dnew_any V _ 1 [A] (lst_single hM (ha.kept gV (fun _ e => by cases e))) (hT.kept0 gV) (by simp; omega)
    rw [show [A].flatten = A by simp, show [A].length = 1 from rfl] at h
    exact h
  have ctk : ∀ (V : World) (b us n : Nat), w.grownBy V none → SrcAt V b A us → n ≤ 10000 → us ≤ 10000 → Calls Tryd.prog 7 #[.pointer (some ⟨b, 0, none⟩), .int .i64 (n : Int)] V fun e w' => ∃ ao c, e = .returned (.slice ao n c) ∧ BtT w' ao c (told A us n) ∧ SrcAt w' b A (us + n) ∧ V.grownBy w' (some b) := fun V b us n gV hS hn hu =>
    take_law V b A us n hS (hT.kept0 gV) (by omega) (by omega)
  have ccl : ∀ V b us, w.grownBy V none → SrcAt V b A us → Calls Tryd.prog 12 #[.pointer (some ⟨b, 0, none⟩)] V fun e w' => ∃ n, e = .returned (.pointer (some ⟨n, 0, none⟩)) ∧ V.heap.size ≤ n ∧ SrcAt w' n A us ∧ V.grownBy w' none := fun V b us gV hS => clone_any V b A us hS (hT.kept0 gV)
  have HJM : Hid (N = j + m) := hN
  have HT := hide hT
  rw [← hL] at h300 ⊢
  have HL := hide hL
  clear ha hL hT hN
  go_enter Tryd.func4, Tryd.ntmps4
  go_upto_region 4 with fail
  refine region_named fun O hO => ?_
  refine wpList_val (by rw [hO]; kernel_rfl) (.slice ao L ca) (fun K9 hK9 => by go_simp; exact hK9) ?_
  (try simp only [Act.put, List.setIfInBounds_toArray, List.set_cons_zero, List.set_cons_succ])
  refine wpList_want (by rw [hO]; kernel_rfl) fun K9 hK9 => ?_
  go_simp
  refine hK9 _ _ ?_
  clear hK9 K9
  (try simp only [Act.put, List.setIfInBounds_toArray, List.set_cons_zero, List.set_cons_succ])
  obtain ⟨Wa, hWa, hNa, gNa⟩ := alloc_one w (.slice ao L ca)
  rw [← hWa]
  clear hWa
  refine wpList_want (by rw [hO]; kernel_rfl) fun K9 hK9 => ?_
  go_simp
  go_at_call 6
  refine (cnew _ _ gNa hNa).mono ?_
  rintro e w2 ⟨bs, rfl, hbs, hS2, g2⟩
  have G2 := tn gNa g2
  refine hK9 _ _ ?_
  clear hK9 K9
  (try simp only [Act.put, List.setIfInBounds_toArray, List.set_cons_zero, List.set_cons_succ])
  refine wpList_val (by rw [hO]; kernel_rfl) (.slice ao L ca) (fun K9 hK9 => by go_simp; exact hK9) ?_
  (try simp only [Act.put, List.setIfInBounds_toArray, List.set_cons_zero, List.set_cons_succ])
  refine wpList_want (by rw [hO]; kernel_rfl) fun K9 hK9 => ?_
  go_simp
  refine hK9 _ _ ?_
  clear hK9 K9
  (try simp only [Act.put, List.setIfInBounds_toArray, List.set_cons_zero, List.set_cons_succ])
  obtain ⟨Wb, hWb, hNb, gNb⟩ := alloc_one w2 (.slice ao L ca)
  rw [← hWb]
  clear hWb
  refine wpList_want (by rw [hO]; kernel_rfl) fun K9 hK9 => ?_
  go_simp
  go_at_call 6
  refine (cnew _ _ (tn G2 gNb) hNb).mono ?_
  rintro e w4 ⟨bt, rfl, hbt, hT4, g4⟩
  have G4 := tn (tn G2 gNb) g4
  have hS4 := (hS2.kept gNb (by simp)).kept g4 (by simp)
  have hbs2 := hS2.blk.lt
  have hsb := gNb.size
  have hne : bs ≠ bt := by omega
  have hws : w.heap.size ≤ bs := Nat.le_trans gNa.size hbs
  have hwt : w.heap.size ≤ bt := Nat.le_trans (tn G2 gNb).size hbt
  clear hNa hNb hS2 cnew hbs hbt hbs2 hsb gNa gNb g2 g4
  refine hK9 _ _ ?_
  clear hK9 K9
  (try simp only [Act.put, List.setIfInBounds_toArray, List.set_cons_zero, List.set_cons_succ])
  refine wpList_val (by rw [hO]; kernel_rfl) (.pointer (some ⟨bs, 0, none⟩)) (fun K9 hK9 => by go_simp; exact hK9) ?_
  (try simp only [Act.put, List.setIfInBounds_toArray, List.set_cons_zero, List.set_cons_succ])
  refine wpList_val (by rw [hO]; kernel_rfl) (.pointer (some ⟨bt, 0, none⟩)) (fun K9 hK9 => by go_simp; exact hK9) ?_
  (try simp only [Act.put, List.setIfInBounds_toArray, List.set_cons_zero, List.set_cons_succ])
  go_upto_region 5 with fail
  refine region_named fun O hO => ?_
  refine wpList_val (by rw [hO]; kernel_rfl) (.pointer (some ⟨bs, 0, none⟩)) (fun K9 hK9 => by go_simp; exact hK9) ?_
  (try simp only [Act.put, List.setIfInBounds_toArray, List.set_cons_zero, List.set_cons_succ])
  refine wpList_val (by rw [hO]; kernel_rfl) (.int .i64 (j : Int)) (fun K9 hK9 => by go_simp; exact hK9) ?_
  (try simp only [Act.put, List.setIfInBounds_toArray, List.set_cons_zero, List.set_cons_succ])
  refine wpList_val (by rw [hO]; kernel_rfl) (.int .i64 (m : Int)) (fun K9 hK9 => by go_simp; exact hK9) ?_
  (try simp only [Act.put, List.setIfInBounds_toArray, List.set_cons_zero, List.set_cons_succ])
  refine wpList_val (by rw [hO]; kernel_rfl) (.int .i64 (N : Int)) (fun K9 hK9 => by go_simp; exact hK9) ?_
  (try simp only [Act.put, List.setIfInBounds_toArray, List.set_cons_zero, List.set_cons_succ])
  refine wpList_want (by rw [hO]; kernel_rfl) fun K9 hK9 => ?_
  go_simp
  go_at_call 7
  refine (ctk _ _ _ N G4 hS4 (by omega) (by omega)).mono ?_
  rintro e w5 ⟨xo, xc, rfl, hX5, hS5, g5⟩
  have G5 := ts hws G4 g5
  have hT5 := hT4.kept g5 (fun e => hne (by cases e; rfl))
  have hXl := hX5.lt
  clear hS4 hT4 g5
  refine hK9 _ _ ?_
  clear hK9 K9
  (try simp only [Act.put, List.setIfInBounds_toArray, List.set_cons_zero, List.set_cons_succ])
  refine wpList_val (by rw [hO]; kernel_rfl) (.slice xo N xc) (fun K9 hK9 => by go_simp; exact hK9) ?_
  (try simp only [Act.put, List.setIfInBounds_toArray, List.set_cons_zero, List.set_cons_succ])
  go_upto_region 6 with fail
  refine region_named fun O hO => ?_
  refine wpList_want (by rw [hO]; kernel_rfl) fun K9 hK9 => ?_
  go_simp
  refine hK9 _ _ ?_
  clear hK9 K9
  (try simp only [Act.put, List.setIfInBounds_toArray, List.set_cons_zero, List.set_cons_succ])
  obtain ⟨Wc, hWc, hoc, gc⟩ := own_new w5 w5.heap.size (Nat.le_refl _)
  rw [← hWc]
  have hXc := hX5.none gc
  have hSc := hS5.kept gc (by simp)
  have hTc := hT5.kept gc (by simp)
  have Gc := tn G5 gc
  have h5c := gc.size
  clear hWc hX5 hS5 hT5 gc
  refine wpList_val (by rw [hO]; kernel_rfl) (.pointer (some ⟨bt, 0, none⟩)) (fun K9 hK9 => by go_simp; exact hK9) ?_
  (try simp only [Act.put, List.setIfInBounds_toArray, List.set_cons_zero, List.set_cons_succ])
  refine wpList_val (by rw [hO]; kernel_rfl) (.int .i64 (j : Int)) (fun K9 hK9 => by go_simp; exact hK9) ?_
  (try simp only [Act.put, List.setIfInBounds_toArray, List.set_cons_zero, List.set_cons_succ])
  refine wpList_want (by rw [hO]; kernel_rfl) fun K9 hK9 => ?_
  go_simp
  go_at_call 7
  refine (ctk _ _ _ j Gc hTc (by omega) (by omega)).mono ?_
  rintro e w6 ⟨yo, yc, rfl, hY6, hT6, g6⟩
  have G6 := ts hwt Gc g6
  have hX6 := hXc.src hTc g6
  have hS6 := hSc.kept g6 (fun e => hne (by cases e; rfl))
  have ho6 := own_src hoc hTc g6
  have h56 := Nat.le_trans h5c g6.size
  clear hXc hSc hTc hoc h5c Gc g6
  refine hK9 _ _ ?_
  clear hK9 K9
  (try simp only [Act.put, List.setIfInBounds_toArray, List.set_cons_zero, List.set_cons_succ])
  refine wpList_append_btm rfl _ _ rfl w5.heap.size _ 0 [] rfl ho6 yo yc (told A 0 j) hY6.bts j (told_length _ _ _).symm rfl (by omega) h56 ?_
  intro v7 w7 ho7 g7
  have G7 : w.grownBy w7 none := gb_trans G6 g7 (fun x e => Or.inl (Nat.le_trans G5.size (ho6.lt x e).1))
  have hX7 := hX6.own hXl ho6 g7
  have hS7 := hS6.own ho6 g7
  have hT7 := hT6.own ho6 g7
  have h57 := Nat.le_trans h56 g7.size
  clear hX6 hS6 hT6 ho6 h56 G6 g7 hY6
  (try simp only [Act.put, List.setIfInBounds_toArray, List.set_cons_zero, List.set_cons_succ])
  refine wpList_val (by rw [hO]; kernel_rfl) (.pointer (some ⟨bt, 0, none⟩)) (fun K9 hK9 => by go_simp; exact hK9) ?_
  (try simp only [Act.put, List.setIfInBounds_toArray, List.set_cons_zero, List.set_cons_succ])
  refine wpList_val (by rw [hO]; kernel_rfl) (.int .i64 (m : Int)) (fun K9 hK9 => by go_simp; exact hK9) ?_
  (try simp only [Act.put, List.setIfInBounds_toArray, List.set_cons_zero, List.set_cons_succ])
  refine wpList_want (by rw [hO]; kernel_rfl) fun K9 hK9 => ?_
  go_simp
  go_at_call 7
  refine (ctk _ _ _ m G7 hT7 (by omega) (by omega)).mono ?_
  rintro e w8 ⟨zo, zc, rfl, hY8, hT8, g8⟩
  have G8 := ts hwt G7 g8
  have hX8 := hX7.src hT7 g8
  have hS8 := hS7.kept g8 (fun e => hne (by cases e; rfl))
  have ho8 := own_src ho7 hT7 g8
  have h58 := Nat.le_trans h57 g8.size
  clear hX7 hS7 hT7 ho7 h57 G7 g8 hT8
  refine hK9 _ _ ?_
  clear hK9 K9
  (try simp only [Act.put, List.setIfInBounds_toArray, List.set_cons_zero, List.set_cons_succ])
  refine wpList_append_btm rfl _ _ rfl w5.heap.size _ (0 + j) _ rfl ho8 zo zc (told A (0 + j) m) hY8.bts m (told_length _ _ _).symm rfl (by omega) h58 ?_
  intro v9 w9 ho9 g9
  have G9 : w.grownBy w9 none := gb_trans G8 g9 (fun x e => Or.inl (Nat.le_trans G5.size (ho8.lt x e).1))
  have hX9 := hX8.own hXl ho8 g9
  have hS9 := hS8.own ho8 g9
  rw [List.nil_append, ← List.map_append, ← told_add, ← unhide HJM] at ho9
  obtain ⟨po, pc, rfl, hP9⟩ := own_btT ho9
  rw [told_length]
  clear hX8 hS8 ho8 h58 G8 g9 hY8 ho9 hXl
  (try simp only [Act.put, List.setIfInBounds_toArray, List.set_cons_zero, List.set_cons_succ])
  refine wpList_val (by rw [hO]; kernel_rfl) (.slice po N pc) (fun K9 hK9 => by go_simp; exact hK9) ?_
  (try simp only [Act.put, List.setIfInBounds_toArray, List.set_cons_zero, List.set_cons_succ])
  go_upto_region 7 with fail
  refine region_named fun O hO => ?_
  refine wpList_val (by rw [hO]; kernel_rfl) (.pointer (some ⟨bs, 0, none⟩)) (fun K9 hK9 => by go_simp; exact hK9) ?_
  (try simp only [Act.put, List.setIfInBounds_toArray, List.set_cons_zero, List.set_cons_succ])
  refine wpList_want (by rw [hO]; kernel_rfl) fun K9 hK9 => ?_
  go_simp
  go_at_call 12
  refine (ccl _ _ _ G9 hS9).mono ?_
  rintro e w10 ⟨bu, rfl, hbu, hU10, g10⟩
  have G10 := tn G9 g10
  have hX10 := hX9.none g10
  have hP10 := hP9.none g10
  have hS10 := hS9.kept g10 (by simp)
  have hsu : bs ≠ bu := by have := hS9.blk.lt; omega
  have hwu : w.heap.size ≤ bu := Nat.le_trans G9.size hbu
  clear hX9 hP9 hS9 hbu g10
  refine hK9 _ _ ?_
  clear hK9 K9
  (try simp only [Act.put, List.setIfInBounds_toArray, List.set_cons_zero, List.set_cons_succ])
  refine wpList_val (by rw [hO]; kernel_rfl) (.pointer (some ⟨bu, 0, none⟩)) (fun K9 hK9 => by go_simp; exact hK9) ?_
  (try simp only [Act.put, List.setIfInBounds_toArray, List.set_cons_zero, List.set_cons_succ])
  go_upto_region 8 with fail
  refine region_named fun O hO => ?_
  refine wpList_val (by rw [hO]; kernel_rfl) (.pointer (some ⟨bs, 0, none⟩)) (fun K9 hK9 => by go_simp; exact hK9) ?_
  (try simp only [Act.put, List.setIfInBounds_toArray, List.set_cons_zero, List.set_cons_succ])
  refine wpList_want (by rw [hO]; kernel_rfl) fun K9 hK9 => ?_
  go_simp
  go_at_call 7
  refine (ctk _ _ _ 50 G10 hS10 (by omega) (by omega)).mono ?_
  rintro e w11 ⟨vo, vc, rfl, hV11, hS11, g11⟩
  have G11 := ts hws G10 g11
  have hX11 := hX10.src hS10 g11
  have hP11 := hP10.src hS10 g11
  have hU11 := hU10.kept g11 (fun e => hsu (by cases e; rfl))
  clear hX10 hP10 hU10 hS10 g11
  refine hK9 _ _ ?_
  clear hK9 K9
  (try simp only [Act.put, List.setIfInBounds_toArray, List.set_cons_zero, List.set_cons_succ])
  refine wpList_val (by rw [hO]; kernel_rfl) (.pointer (some ⟨bu, 0, none⟩)) (fun K9 hK9 => by go_simp; exact hK9) ?_
  (try simp only [Act.put, List.setIfInBounds_toArray, List.set_cons_zero, List.set_cons_succ])
  refine wpList_want (by rw [hO]; kernel_rfl) fun K9 hK9 => ?_
  go_simp
  go_at_call 7
  refine (ctk _ _ _ 50 G11 hU11 (by omega) (by omega)).mono ?_
  rintro e w12 ⟨qo, qc, rfl, hQ12, _, g12⟩
  have G12 := ts hwu G11 g12
  have hX12 := hX11.src hU11 g12
  have hP12 := hP11.src hU11 g12
  have hV12 := hV11.src hU11 g12
  have hS12 := hS11.kept g12 (fun e => hsu (by cases e; rfl))
  clear hX11 hP11 hV11 hS11 hU11 g12 hsu hwu
  refine hK9 _ _ ?_
  clear hK9 K9
  (try simp only [Act.put, List.setIfInBounds_toArray, List.set_cons_zero, List.set_cons_succ])
  refine wpList_val (by rw [hO]; kernel_rfl) (.slice vo 50 vc) (fun K9 hK9 => by go_simp; exact hK9) ?_
  (try simp only [Act.put, List.setIfInBounds_toArray, List.set_cons_zero, List.set_cons_succ])
  refine wpList_val (by rw [hO]; kernel_rfl) (.slice qo 50 qc) (fun K9 hK9 => by go_simp; exact hK9) ?_
  (try simp only [Act.put, List.setIfInBounds_toArray, List.set_cons_zero, List.set_cons_succ])
  have hS12' := hS12
  rw [Nat.zero_add] at hS12' hV12 hQ12
  clear hS12 ctk ccl hne hws hwt hjz hmz
  obtain ⟨Z, hZ⟩ : ∃ Z, Z = zeroC := ⟨_, rfl⟩
  have hbz := built_zero
  rw [← hZ] at hbz
  have HBZ := hide hbz
  have HZ := hide hZ
  clear hbz hZ
  go_upto_region 10 with fail
  refine region_named fun O hO => ?_
  refine wpList_built rfl 37 _ rfl Z.toArray (by simpa using unhide HBZ) ?_
  (try simp only [Act.put, List.setIfInBounds_toArray, List.set_cons_zero, List.set_cons_succ])
  refine wpList_want (by rw [hO]; kernel_rfl) fun K9 hK9 => ?_
  go_simp
  refine hK9 _ _ ?_
  clear hK9 K9
  (try simp only [Act.put, List.setIfInBounds_toArray, List.set_cons_zero, List.set_cons_succ])
  obtain ⟨w13, hW13, hB13, g13⟩ := alloc_src w12 Z
  rw [← hW13]
  clear hW13
  refine wpList_val (by rw [hO]; kernel_rfl) (.pointer (some ⟨w12.heap.size, 0, none⟩)) (fun K9 hK9 => by go_simp; exact hK9) ?_
  (try simp only [Act.put, List.setIfInBounds_toArray, List.set_cons_zero, List.set_cons_succ])
  obtain ⟨sX, hsX⟩ : ∃ s, s = str (told A 0 N) := ⟨_, rfl⟩
  obtain ⟨sV, hsV⟩ : ∃ s, s = str (told A N 50) := ⟨_, rfl⟩
  obtain ⟨D, hD⟩ : ∃ D, D = told [] 0 40 := ⟨_, rfl⟩
  obtain ⟨sD, hsD⟩ : ∃ s, s = str D := ⟨_, rfl⟩
  have hDl : D.length = 40 := by rw [hD]; exact told_length _ _ _
  have hcX : ∀ V, w12.grownBy V none → (convert 22 9 (.slice xo N xc)).run Tryd.prog V = .ok (.string sX) V := fun V gV => by
    have := conv_str (hX12.none gV).bts
    rw [told_length, ← hsX] at this
    exact this
  have hcP : ∀ V, w12.grownBy V none → (convert 22 9 (.slice po N pc)).run Tryd.prog V = .ok (.string sX) V := fun V gV => by
    have := conv_str (hP12.none gV).bts
    rw [told_length, ← hsX] at this
    exact this
  have hcV : ∀ V, w12.grownBy V none → (convert 22 9 (.slice vo 50 vc)).run Tryd.prog V = .ok (.string sV) V := fun V gV => by
    have := conv_str (hV12.none gV).bts
    rw [told_length, ← hsV] at this
    exact this
  have hcQ : ∀ V, w12.grownBy V none → (convert 22 9 (.slice qo 50 qc)).run Tryd.prog V = .ok (.string sV) V := fun V gV => by
    have := conv_str (hQ12.none gV).bts
    rw [told_length, ← hsV] at this
    exact this
  have cvD : ∀ V pa pb, BtT V pa pb D → (convert 22 9 (.slice pa 40 pb)).run Tryd.prog V = .ok (.string sD) V := fun V pa pb h => by
    have := conv_str h.bts
    rw [hDl, ← hsD] at this
    exact this
  have cus : ∀ V, w12.grownBy V none → Calls Tryd.prog 9 #[.pointer (some ⟨bs, 0, none⟩)] V fun e w' => e = .returned (.int .i64 ((N : Int) + 50)) ∧ w' = V := fun V gV => by
    have := used_any V bs A (N + 50) (hS12'.kept gV (by simp))
    rw [show ((N + 50 : Nat) : Int) = (N : Int) + 50 from by omega] at this
    exact this
  have hT' := unhide HT
  have cpl : ∀ V, w12.grownBy V none → Blk V w12.heap.size 37 Z → Calls Tryd.prog 7 #[.pointer (some ⟨w12.heap.size, 0, none⟩), .int .i64 40] V fun e w' => ∃ pa pb, e = .returned (.slice pa 40 pb) ∧ BtT w' pa pb D ∧ w12.grownBy w' none := fun V gV hB => by
    rw [unhide HZ] at hB
    refine (take_some V w12.heap.size [] 0 40 (plain_fit hB (hT'.glb G12.size) (hT'.kept0 (tn G12 gV))) (hT'.kept0 (tn G12 gV)) (by omega) (by omega) (by omega)).mono ?_
    rintro e w' ⟨g, rfl, hg, hB2, _, gg⟩
    rw [← hD] at hB2
    exact ⟨_, _, rfl, ⟨blk_bytes hB2 40 (by omega) (by decide), (fun ad e => by cases e; exact ⟨_, _, hB2⟩)⟩, ts (Nat.le_refl _) gV gg⟩
  have cn0 : ∀ V, w12.grownBy V none → Calls Tryd.prog 6 #[.slice none 0 0] V fun e w' => ∃ b, e = .returned (.pointer (some ⟨b, 0, none⟩)) ∧ w12.heap.size ≤ b ∧ SrcAt w' b [] 0 ∧ V.grownBy w' none := fun V gV =>
    (dnew_any V none 0 [] ⟨(fun _ => ⟨rfl, rfl⟩), Nat.le_refl _, Nat.zero_le _, (fun _ e => by cases e), (fun _ e => by cases e)⟩ (hT'.kept0 (tn G12 gV)) (by simp)).mono fun e w' ⟨b, he, hb, hS, g⟩ => ⟨b, he, Nat.le_trans gV.size hb, hS, g⟩
  have ct0 : ∀ V b, w12.grownBy V none → w12.heap.size ≤ b → SrcAt V b [] 0 → Calls Tryd.prog 7 #[.pointer (some ⟨b, 0, none⟩), .int .i64 40] V fun e w' => ∃ qa qb, e = .returned (.slice qa 40 qb) ∧ BtT w' qa qb D ∧ V.grownBy w' (some b) ∧ w12.grownBy w' none := fun V b gV hb hS =>
    (take_law V b [] 0 40 hS (hT'.kept0 (tn G12 gV)) (by omega) (by omega)).mono fun e w' ⟨qa, qb, he, hB, _, g⟩ => ⟨qa, qb, he, by rw [hD]; exact hB, g, ts hb gV g⟩
  have cone : ∀ V, w12.grownBy V none → Calls Tryd.prog 11 #[] V fun e w' => e = .returned (.bool true) ∧ V.grownBy w' none := fun V gV => done_any V (hT'.kept0 (tn G12 gV))
  obtain ⟨z32, hz32⟩ : ∃ z : List UInt8, z = List.replicate 32 0 := ⟨_, rfl⟩
  have hbk := built_key0
  have hek : ∀ W : World, (binOp .eql 30 (.agg (z32.map bv).toArray) (.agg (z32.map bv).toArray)).run Tryd.prog W = .ok (.bool true) W := fun W => eql_keys W z32 (by rw [hz32]; rfl)
  have ckn := key_nil
  rw [← hz32] at hbk ckn
  have HBK := hide hbk
  have HEK := hide hek
  have h0 : w12.grownBy w13.drew none := gb_drew g13
  clear hX12 hP12 hV12 hQ12 hS12' hsX hsV hsD hD hDl HZ hT' HT hz32 hbk hek G5 G4 G2 HL HBZ
  go_upto_region 11 with fail
  refine wp_region_noPanic ?_
  refine wp_region_held_drew (S := fun V => w12.grownBy V none) (by kernel_rfl) h0 (fun _ => ?_)
  refine wpAnyH_take (i := 0) (oi := { dst := some 51, op := Op.move (Operand.tmp 9), type := _, pos := _, after := _, guard := _ }) (v := .slice xo N xc) rfl (by kernel_rfl) (by kernel_rfl) (by kernel_rfl) (fun _ _ _ h => h) (Or.inl ⟨by rfl, fun V (hV : w12.grownBy V none) => by go_simp⟩) h0 ?_
  (try simp only [Act.put, List.setIfInBounds_toArray, List.set_cons_zero, List.set_cons_succ])
  refine wpAnyH_take (i := 1) (oi := { dst := some 52, op := Op.convert 22 9 (Operand.tmp 51), type := _, pos := _, after := _, guard := _ }) (v := .string sX) rfl (by kernel_rfl) (by kernel_rfl) (by kernel_rfl) (fun _ _ _ h => h) (Or.inl ⟨by rfl, fun V (hV : w12.grownBy V none) => by (have hv9 := hcX V hV; go_simp)⟩) h0 ?_
  (try simp only [Act.put, List.setIfInBounds_toArray, List.set_cons_zero, List.set_cons_succ])
  refine wpAnyH_take (i := 2) (oi := { dst := some 53, op := Op.move (Operand.tmp 10), type := _, pos := _, after := _, guard := _ }) (v := .slice po N pc) rfl (by kernel_rfl) (by kernel_rfl) (by kernel_rfl) (fun _ _ _ h => h) (Or.inl ⟨by rfl, fun V (hV : w12.grownBy V none) => by go_simp⟩) h0 ?_
  (try simp only [Act.put, List.setIfInBounds_toArray, List.set_cons_zero, List.set_cons_succ])
  refine wpAnyH_take (i := 3) (oi := { dst := some 54, op := Op.convert 22 9 (Operand.tmp 53), type := _, pos := _, after := _, guard := _ }) (v := .string sX) rfl (by kernel_rfl) (by kernel_rfl) (by kernel_rfl) (fun _ _ _ h => h) (Or.inl ⟨by rfl, fun V (hV : w12.grownBy V none) => by (have hv9 := hcP V hV; go_simp)⟩) h0 ?_
  (try simp only [Act.put, List.setIfInBounds_toArray, List.set_cons_zero, List.set_cons_succ])
  refine wpAnyH_take (i := 4) (oi := { dst := some 55, op := Op.binOp BinOp.eql 9 (Operand.tmp 52) (Operand.tmp 54) 9, type := _, pos := _, after := _, guard := _ }) (v := .bool true) rfl (by kernel_rfl) (by kernel_rfl) (by kernel_rfl) (fun _ _ _ h => h) (Or.inl ⟨by rfl, fun V (hV : w12.grownBy V none) => by go_simp⟩) h0 ?_
  (try simp only [Act.put, List.setIfInBounds_toArray, List.set_cons_zero, List.set_cons_succ])
  refine wpAnyH_take (i := 5) (oi := { dst := some 56, op := Op.move (Operand.tmp 55), type := _, pos := _, after := _, guard := _ }) (v := .bool true) rfl (by kernel_rfl) (by kernel_rfl) (by kernel_rfl) (fun _ _ _ h => h) (Or.inl ⟨by rfl, fun V (hV : w12.grownBy V none) => by go_simp⟩) h0 ?_
  (try simp only [Act.put, List.setIfInBounds_toArray, List.set_cons_zero, List.set_cons_succ])
  refine wpAnyH_take (i := 6) (oi := { dst := some 57, op := Op.move (Operand.tmp 7), type := _, pos := _, after := _, guard := _ }) (v := .pointer (some ⟨bs, 0, none⟩)) rfl (by kernel_rfl) (by kernel_rfl) (by kernel_rfl) (fun _ _ _ h => h) (Or.inl ⟨by rfl, fun V (hV : w12.grownBy V none) => by go_simp⟩) h0 ?_
  (try simp only [Act.put, List.setIfInBounds_toArray, List.set_cons_zero, List.set_cons_succ])
  refine wpAnyH_take (i := 8) (oi := { dst := some 59, op := Op.move (Operand.tmp 1), type := _, pos := _, after := _, guard := _ }) (v := .int .i64 (j : Int)) rfl (by kernel_rfl) (by kernel_rfl) (by kernel_rfl) (fun _ _ _ h => h) (Or.inl ⟨by rfl, fun V (hV : w12.grownBy V none) => by go_simp⟩) h0 ?_
  (try simp only [Act.put, List.setIfInBounds_toArray, List.set_cons_zero, List.set_cons_succ])
  refine wpAnyH_take (i := 9) (oi := { dst := some 60, op := Op.move (Operand.tmp 2), type := _, pos := _, after := _, guard := _ }) (v := .int .i64 (m : Int)) rfl (by kernel_rfl) (by kernel_rfl) (by kernel_rfl) (fun _ _ _ h => h) (Or.inl ⟨by rfl, fun V (hV : w12.grownBy V none) => by go_simp⟩) h0 ?_
  (try simp only [Act.put, List.setIfInBounds_toArray, List.set_cons_zero, List.set_cons_succ])
  refine wpAnyH_take (i := 10) (oi := { dst := some 61, op := Op.binOp BinOp.add 3 (Operand.tmp 59) (Operand.tmp 60) 3, type := _, pos := _, after := _, guard := _ }) (v := .int .i64 (N : Int)) rfl (by kernel_rfl) (by kernel_rfl) (by kernel_rfl) (fun _ _ _ h => h) (Or.inl ⟨by rfl, fun V (hV : w12.grownBy V none) => by go_simp⟩) h0 ?_
  (try simp only [Act.put, List.setIfInBounds_toArray, List.set_cons_zero, List.set_cons_succ])
  refine wpAnyH_take (i := 11) (oi := { dst := some 62, op := Op.binOp BinOp.add 3 (Operand.tmp 61) (Operand.const (Value.int IntKind.i64 50)) 3, type := _, pos := _, after := _, guard := _ }) (v := .int .i64 ((N : Int) + 50)) rfl (by kernel_rfl) (by kernel_rfl) (by kernel_rfl) (fun _ _ _ h => h) (Or.inl ⟨by rfl, fun V (hV : w12.grownBy V none) => by go_simp⟩) h0 ?_
  (try simp only [Act.put, List.setIfInBounds_toArray, List.set_cons_zero, List.set_cons_succ])
  refine wpAnyH_ready (rs := [7]) (by kernel_rfl) (by simp) ?_
  refine AllReadyH.cons (o := { dst := some 58, op := Op.call { callee := Callee.value (Operand.func 9), args := #[(Operand.tmp 57)], argTypes := #[24] }, type := _, pos := _, after := _, guard := _ }) rfl (fun K9 hK9 => ?_) AllReadyH.nil
  go_simp
  go_at_call 9
  refine (cus _ h0).mono ?_
  rintro e w14 ⟨rfl, rfl⟩
  go_wp2_with fail
  refine hK9.out _ _ h0 (fun _ => ?_)
  clear hK9 K9
  (try simp only [Act.put, List.setIfInBounds_toArray, List.set_cons_zero, List.set_cons_succ])
  refine wpAnyH_take (i := 12) (oi := { dst := some 63, op := Op.binOp BinOp.eql 3 (Operand.tmp 58) (Operand.tmp 62) 3, type := _, pos := _, after := _, guard := _ }) (v := .bool true) rfl (by kernel_rfl) (by kernel_rfl) (by kernel_rfl) (fun _ _ _ h => h) (Or.inl ⟨by rfl, fun V (hV : w12.grownBy V none) => by go_simp⟩) h0 ?_
  (try simp only [Act.put, List.setIfInBounds_toArray, List.set_cons_zero, List.set_cons_succ])
  refine wpAnyH_take (i := 13) (oi := { dst := some 64, op := Op.pick (Operand.tmp 56) (Operand.tmp 63) (Operand.const (Value.bool false)), type := _, pos := _, after := _, guard := _ }) (v := .bool true) rfl (by kernel_rfl) (by kernel_rfl) (by kernel_rfl) (fun _ _ _ h => h) (Or.inl ⟨by rfl, fun V (hV : w12.grownBy V none) => by go_simp⟩) h0 ?_
  (try simp only [Act.put, List.setIfInBounds_toArray, List.set_cons_zero, List.set_cons_succ])
  refine wpAnyH_take (i := 14) (oi := { dst := some 65, op := Op.move (Operand.tmp 64), type := _, pos := _, after := _, guard := _ }) (v := .bool true) rfl (by kernel_rfl) (by kernel_rfl) (by kernel_rfl) (fun _ _ _ h => h) (Or.inl ⟨by rfl, fun V (hV : w12.grownBy V none) => by go_simp⟩) h0 ?_
  (try simp only [Act.put, List.setIfInBounds_toArray, List.set_cons_zero, List.set_cons_succ])
  refine wpAnyH_take (i := 15) (oi := { dst := some 66, op := Op.move (Operand.tmp 12), type := _, pos := _, after := _, guard := _ }) (v := .slice vo 50 vc) rfl (by kernel_rfl) (by kernel_rfl) (by kernel_rfl) (fun _ _ _ h => h) (Or.inl ⟨by rfl, fun V (hV : w12.grownBy V none) => by go_simp⟩) h0 ?_
  (try simp only [Act.put, List.setIfInBounds_toArray, List.set_cons_zero, List.set_cons_succ])
  refine wpAnyH_take (i := 16) (oi := { dst := some 67, op := Op.convert 22 9 (Operand.tmp 66), type := _, pos := _, after := _, guard := _ }) (v := .string sV) rfl (by kernel_rfl) (by kernel_rfl) (by kernel_rfl) (fun _ _ _ h => h) (Or.inl ⟨by rfl, fun V (hV : w12.grownBy V none) => by (have hv9 := hcV V hV; go_simp)⟩) h0 ?_
  (try simp only [Act.put, List.setIfInBounds_toArray, List.set_cons_zero, List.set_cons_succ])
  refine wpAnyH_take (i := 17) (oi := { dst := some 68, op := Op.move (Operand.tmp 13), type := _, pos := _, after := _, guard := _ }) (v := .slice qo 50 qc) rfl (by kernel_rfl) (by kernel_rfl) (by kernel_rfl) (fun _ _ _ h => h) (Or.inl ⟨by rfl, fun V (hV : w12.grownBy V none) => by go_simp⟩) h0 ?_
  (try simp only [Act.put, List.setIfInBounds_toArray, List.set_cons_zero, List.set_cons_succ])
  refine wpAnyH_take (i := 18) (oi := { dst := some 69, op := Op.convert 22 9 (Operand.tmp 68), type := _, pos := _, after := _, guard := _ }) (v := .string sV) rfl (by kernel_rfl) (by kernel_rfl) (by kernel_rfl) (fun _ _ _ h => h) (Or.inl ⟨by rfl, fun V (hV : w12.grownBy V none) => by (have hv9 := hcQ V hV; go_simp)⟩) h0 ?_
  (try simp only [Act.put, List.setIfInBounds_toArray, List.set_cons_zero, List.set_cons_succ])
  refine wpAnyH_take (i := 19) (oi := { dst := some 70, op := Op.binOp BinOp.eql 9 (Operand.tmp 67) (Operand.tmp 69) 9, type := _, pos := _, after := _, guard := _ }) (v := .bool true) rfl (by kernel_rfl) (by kernel_rfl) (by kernel_rfl) (fun _ _ _ h => h) (Or.inl ⟨by rfl, fun V (hV : w12.grownBy V none) => by go_simp⟩) h0 ?_
  (try simp only [Act.put, List.setIfInBounds_toArray, List.set_cons_zero, List.set_cons_succ])
  refine wpAnyH_take (i := 20) (oi := { dst := some 71, op := Op.pick (Operand.tmp 65) (Operand.tmp 70) (Operand.const (Value.bool false)), type := _, pos := _, after := _, guard := _ }) (v := .bool true) rfl (by kernel_rfl) (by kernel_rfl) (by kernel_rfl) (fun _ _ _ h => h) (Or.inl ⟨by rfl, fun V (hV : w12.grownBy V none) => by go_simp⟩) h0 ?_
  (try simp only [Act.put, List.setIfInBounds_toArray, List.set_cons_zero, List.set_cons_succ])
  refine wpAnyH_take (i := 21) (oi := { dst := some 72, op := Op.move (Operand.tmp 71), type := _, pos := _, after := _, guard := _ }) (v := .bool true) rfl (by kernel_rfl) (by kernel_rfl) (by kernel_rfl) (fun _ _ _ h => h) (Or.inl ⟨by rfl, fun V (hV : w12.grownBy V none) => by go_simp⟩) h0 ?_
  (try simp only [Act.put, List.setIfInBounds_toArray, List.set_cons_zero, List.set_cons_succ])
  refine wpAnyH_take (i := 22) (oi := { dst := some 73, op := Op.move (Operand.tmp 14), type := _, pos := _, after := _, guard := _ }) (v := .pointer none) rfl (by kernel_rfl) (by kernel_rfl) (by kernel_rfl) (fun _ _ _ h => h) (Or.inl ⟨by rfl, fun V (hV : w12.grownBy V none) => by go_simp⟩) h0 ?_
  (try simp only [Act.put, List.setIfInBounds_toArray, List.set_cons_zero, List.set_cons_succ])
  refine wpAnyH_ready (rs := [23]) (by kernel_rfl) (by simp) ?_
  refine AllReadyH.cons (o := { dst := some 74, op := Op.call { callee := Callee.value (Operand.func 7), args := #[(Operand.tmp 73), Operand.const (Value.int IntKind.i64 5)], argTypes := #[24, 3] }, type := _, pos := _, after := _, guard := _ }) rfl (fun K9 hK9 => ?_) AllReadyH.nil
  go_simp
  go_at_call 7
  refine (take_nil _ 5).mono ?_
  rintro e w15 ⟨rfl, rfl⟩
  go_wp2_with fail
  refine hK9.out _ _ h0 (fun _ => ?_)
  clear hK9 K9
  (try simp only [Act.put, List.setIfInBounds_toArray, List.set_cons_zero, List.set_cons_succ])
  refine wpAnyH_take (i := 24) (oi := { dst := some 75, op := Op.call { callee := Callee.builtin Builtin.len, args := #[(Operand.tmp 74)], argTypes := #[22] }, type := _, pos := _, after := _, guard := _ }) (v := .int .i64 0) rfl (by kernel_rfl) (by kernel_rfl) (by kernel_rfl) (fun _ _ _ h => h) (Or.inl ⟨by rfl, fun V (hV : w12.grownBy V none) => by go_simp⟩) h0 ?_
  (try simp only [Act.put, List.setIfInBounds_toArray, List.set_cons_zero, List.set_cons_succ])
  refine wpAnyH_take (i := 25) (oi := { dst := some 76, op := Op.binOp BinOp.eql 3 (Operand.tmp 75) (Operand.const (Value.int IntKind.i64 0)) 3, type := _, pos := _, after := _, guard := _ }) (v := .bool true) rfl (by kernel_rfl) (by kernel_rfl) (by kernel_rfl) (fun _ _ _ h => h) (Or.inl ⟨by rfl, fun V (hV : w12.grownBy V none) => by go_simp⟩) h0 ?_
  (try simp only [Act.put, List.setIfInBounds_toArray, List.set_cons_zero, List.set_cons_succ])
  refine wpAnyH_take (i := 26) (oi := { dst := some 77, op := Op.pick (Operand.tmp 72) (Operand.tmp 76) (Operand.const (Value.bool false)), type := _, pos := _, after := _, guard := _ }) (v := .bool true) rfl (by kernel_rfl) (by kernel_rfl) (by kernel_rfl) (fun _ _ _ h => h) (Or.inl ⟨by rfl, fun V (hV : w12.grownBy V none) => by go_simp⟩) h0 ?_
  (try simp only [Act.put, List.setIfInBounds_toArray, List.set_cons_zero, List.set_cons_succ])
  refine wpAnyH_take (i := 27) (oi := { dst := some 78, op := Op.move (Operand.tmp 77), type := _, pos := _, after := _, guard := _ }) (v := .bool true) rfl (by kernel_rfl) (by kernel_rfl) (by kernel_rfl) (fun _ _ _ h => h) (Or.inl ⟨by rfl, fun V (hV : w12.grownBy V none) => by go_simp⟩) h0 ?_
  (try simp only [Act.put, List.setIfInBounds_toArray, List.set_cons_zero, List.set_cons_succ])
  refine wpAnyH_take (i := 28) (oi := { dst := some 79, op := Op.move (Operand.tmp 14), type := _, pos := _, after := _, guard := _ }) (v := .pointer none) rfl (by kernel_rfl) (by kernel_rfl) (by kernel_rfl) (fun _ _ _ h => h) (Or.inl ⟨by rfl, fun V (hV : w12.grownBy V none) => by go_simp⟩) h0 ?_
  (try simp only [Act.put, List.setIfInBounds_toArray, List.set_cons_zero, List.set_cons_succ])
  refine wpAnyH_take (i := 30) (oi := { dst := some 81, op := Op.build 30 #[], type := _, pos := _, after := _, guard := _ }) (v := .agg (z32.map bv).toArray) rfl (by kernel_rfl) (by kernel_rfl) (by kernel_rfl) (fun _ _ _ h => h) (yieldsIf_built (by rfl) _ _ rfl _ (by simpa using unhide HBK)) h0 ?_
  (try simp only [Act.put, List.setIfInBounds_toArray, List.set_cons_zero, List.set_cons_succ])
  refine wpAnyH_ready (rs := [29]) (by kernel_rfl) (by simp) ?_
  refine AllReadyH.cons (o := { dst := some 80, op := Op.call { callee := Callee.value (Operand.func 10), args := #[(Operand.tmp 79)], argTypes := #[24] }, type := _, pos := _, after := _, guard := _ }) rfl (fun K9 hK9 => ?_) AllReadyH.nil
  go_simp
  go_at_call 10
  refine (ckn _).mono ?_
  rintro e w16 ⟨rfl, g16⟩
  go_wp2_with fail
  refine hK9.out _ _ (tn h0 g16) (fun _ => ?_)
  clear hK9 K9
  (try simp only [Act.put, List.setIfInBounds_toArray, List.set_cons_zero, List.set_cons_succ])
  have G16 := tn h0 g16
  have hB16 : Blk w16 w12.heap.size 37 Z := (hB13.drew).kept g16 (by simp)
  refine wpAnyH_take (i := 31) (oi := { dst := some 82, op := Op.binOp BinOp.eql 30 (Operand.tmp 80) (Operand.tmp 81) 30, type := _, pos := _, after := _, guard := _ }) (v := .bool true) rfl (by kernel_rfl) (by kernel_rfl) (by kernel_rfl) (fun _ _ _ h => h) (yieldsIf_same (by rfl) _ _ _ _ rfl _ _ _ rfl rfl guard_key (unhide HEK)) G16 ?_
  (try simp only [Act.put, List.setIfInBounds_toArray, List.set_cons_zero, List.set_cons_succ])
  refine wpAnyH_take (i := 32) (oi := { dst := some 83, op := Op.pick (Operand.tmp 78) (Operand.tmp 82) (Operand.const (Value.bool false)), type := _, pos := _, after := _, guard := _ }) (v := .bool true) rfl (by kernel_rfl) (by kernel_rfl) (by kernel_rfl) (fun _ _ _ h => h) (Or.inl ⟨by rfl, fun V (hV : w12.grownBy V none) => by go_simp⟩) G16 ?_
  (try simp only [Act.put, List.setIfInBounds_toArray, List.set_cons_zero, List.set_cons_succ])
  refine wpAnyH_take (i := 33) (oi := { dst := some 84, op := Op.move (Operand.tmp 83), type := _, pos := _, after := _, guard := _ }) (v := .bool true) rfl (by kernel_rfl) (by kernel_rfl) (by kernel_rfl) (fun _ _ _ h => h) (Or.inl ⟨by rfl, fun V (hV : w12.grownBy V none) => by go_simp⟩) G16 ?_
  (try simp only [Act.put, List.setIfInBounds_toArray, List.set_cons_zero, List.set_cons_succ])
  refine wpAnyH_take (i := 34) (oi := { dst := some 85, op := Op.move (Operand.tmp 14), type := _, pos := _, after := _, guard := _ }) (v := .pointer none) rfl (by kernel_rfl) (by kernel_rfl) (by kernel_rfl) (fun _ _ _ h => h) (Or.inl ⟨by rfl, fun V (hV : w12.grownBy V none) => by go_simp⟩) G16 ?_
  (try simp only [Act.put, List.setIfInBounds_toArray, List.set_cons_zero, List.set_cons_succ])
  refine wpAnyH_ready (rs := [35]) (by kernel_rfl) (by simp) ?_
  refine AllReadyH.cons (o := { dst := some 86, op := Op.call { callee := Callee.value (Operand.func 9), args := #[(Operand.tmp 85)], argTypes := #[24] }, type := _, pos := _, after := _, guard := _ }) rfl (fun K9 hK9 => ?_) AllReadyH.nil
  go_simp
  go_at_call 9
  refine (used_nil _).mono ?_
  rintro e w17 ⟨rfl, rfl⟩
  go_wp2_with fail
  refine hK9.out _ _ G16 (fun _ => ?_)
  clear hK9 K9
  (try simp only [Act.put, List.setIfInBounds_toArray, List.set_cons_zero, List.set_cons_succ])
  refine wpAnyH_take (i := 36) (oi := { dst := some 87, op := Op.binOp BinOp.eql 3 (Operand.tmp 86) (Operand.const (Value.int IntKind.i64 0)) 3, type := _, pos := _, after := _, guard := _ }) (v := .bool true) rfl (by kernel_rfl) (by kernel_rfl) (by kernel_rfl) (fun _ _ _ h => h) (Or.inl ⟨by rfl, fun V (hV : w12.grownBy V none) => by go_simp⟩) G16 ?_
  (try simp only [Act.put, List.setIfInBounds_toArray, List.set_cons_zero, List.set_cons_succ])
  refine wpAnyH_take (i := 37) (oi := { dst := some 88, op := Op.pick (Operand.tmp 84) (Operand.tmp 87) (Operand.const (Value.bool false)), type := _, pos := _, after := _, guard := _ }) (v := .bool true) rfl (by kernel_rfl) (by kernel_rfl) (by kernel_rfl) (fun _ _ _ h => h) (Or.inl ⟨by rfl, fun V (hV : w12.grownBy V none) => by go_simp⟩) G16 ?_
  (try simp only [Act.put, List.setIfInBounds_toArray, List.set_cons_zero, List.set_cons_succ])
  refine wpAnyH_take (i := 38) (oi := { dst := some 89, op := Op.move (Operand.tmp 88), type := _, pos := _, after := _, guard := _ }) (v := .bool true) rfl (by kernel_rfl) (by kernel_rfl) (by kernel_rfl) (fun _ _ _ h => h) (Or.inl ⟨by rfl, fun V (hV : w12.grownBy V none) => by go_simp⟩) G16 ?_
  (try simp only [Act.put, List.setIfInBounds_toArray, List.set_cons_zero, List.set_cons_succ])
  refine wpAnyH_take (i := 39) (oi := { dst := some 90, op := Op.move (Operand.tmp 14), type := _, pos := _, after := _, guard := _ }) (v := .pointer none) rfl (by kernel_rfl) (by kernel_rfl) (by kernel_rfl) (fun _ _ _ h => h) (Or.inl ⟨by rfl, fun V (hV : w12.grownBy V none) => by go_simp⟩) G16 ?_
  (try simp only [Act.put, List.setIfInBounds_toArray, List.set_cons_zero, List.set_cons_succ])
  refine wpAnyH_ready (rs := [40]) (by kernel_rfl) (by simp) ?_
  refine AllReadyH.cons (o := { dst := some 91, op := Op.call { callee := Callee.value (Operand.func 12), args := #[(Operand.tmp 90)], argTypes := #[24] }, type := _, pos := _, after := _, guard := _ }) rfl (fun K9 hK9 => ?_) AllReadyH.nil
  go_simp
  go_at_call 12
  refine (clone_nil _).mono ?_
  rintro e w18 ⟨rfl, rfl⟩
  go_wp2_with fail
  refine hK9.out _ _ G16 (fun _ => ?_)
  clear hK9 K9
  (try simp only [Act.put, List.setIfInBounds_toArray, List.set_cons_zero, List.set_cons_succ])
  refine wpAnyH_take (i := 41) (oi := { dst := some 92, op := Op.binOp BinOp.eql 24 (Operand.tmp 91) (Operand.const (Value.pointer none)) 24, type := _, pos := _, after := _, guard := _ }) (v := .bool true) rfl (by kernel_rfl) (by kernel_rfl) (by kernel_rfl) (fun _ _ _ h => h) (Or.inl ⟨by rfl, fun V (hV : w12.grownBy V none) => by go_simp⟩) G16 ?_
  (try simp only [Act.put, List.setIfInBounds_toArray, List.set_cons_zero, List.set_cons_succ])
  refine wpAnyH_take (i := 42) (oi := { dst := some 93, op := Op.pick (Operand.tmp 89) (Operand.tmp 92) (Operand.const (Value.bool false)), type := _, pos := _, after := _, guard := _ }) (v := .bool true) rfl (by kernel_rfl) (by kernel_rfl) (by kernel_rfl) (fun _ _ _ h => h) (Or.inl ⟨by rfl, fun V (hV : w12.grownBy V none) => by go_simp⟩) G16 ?_
  (try simp only [Act.put, List.setIfInBounds_toArray, List.set_cons_zero, List.set_cons_succ])
  refine wpAnyH_take (i := 43) (oi := { dst := some 94, op := Op.move (Operand.tmp 93), type := _, pos := _, after := _, guard := _ }) (v := .bool true) rfl (by kernel_rfl) (by kernel_rfl) (by kernel_rfl) (fun _ _ _ h => h) (Or.inl ⟨by rfl, fun V (hV : w12.grownBy V none) => by go_simp⟩) G16 ?_
  (try simp only [Act.put, List.setIfInBounds_toArray, List.set_cons_zero, List.set_cons_succ])
  refine wpAnyH_take (i := 44) (oi := { dst := some 95, op := Op.move (Operand.tmp 15), type := _, pos := _, after := _, guard := _ }) (v := .pointer (some ⟨w12.heap.size, 0, none⟩)) rfl (by kernel_rfl) (by kernel_rfl) (by kernel_rfl) (fun _ _ _ h => h) (Or.inl ⟨by rfl, fun V (hV : w12.grownBy V none) => by go_simp⟩) G16 ?_
  (try simp only [Act.put, List.setIfInBounds_toArray, List.set_cons_zero, List.set_cons_succ])
  refine wpAnyH_ready (rs := [45]) (by kernel_rfl) (by simp) ?_
  refine AllReadyH.cons (o := { dst := some 96, op := Op.call { callee := Callee.value (Operand.func 7), args := #[(Operand.tmp 95), Operand.const (Value.int IntKind.i64 40)], argTypes := #[24, 3] }, type := _, pos := _, after := _, guard := _ }) rfl (fun K9 hK9 => ?_) AllReadyH.nil
  go_simp
  go_at_call 7
  refine (cpl _ G16 hB16).mono ?_
  rintro e w19 ⟨pa, pb, rfl, hD19, G19⟩
  go_wp2_with fail
  refine hK9.out _ _ G19 (fun _ => ?_)
  clear hK9 K9
  (try simp only [Act.put, List.setIfInBounds_toArray, List.set_cons_zero, List.set_cons_succ])
  refine wpAnyH_ready (rs := [46, 47]) (by kernel_rfl) (by simp) ?_
  refine AllReadyH.cons (o := { dst := some 97, op := Op.convert 22 9 (Operand.tmp 96), type := _, pos := _, after := _, guard := _ }) rfl (fun K9 hK9 => ?_) (AllReadyH.cons (o := { dst := some 98, op := Op.call { callee := Callee.value (Operand.func 6), args := #[Operand.const (Value.slice none 0 0)], argTypes := #[39] }, type := _, pos := _, after := _, guard := _ }) rfl (fun K9 hK9 => ?_) AllReadyH.nil)
  · have hv9 := cvD _ _ _ hD19
    go_simp
    clear hv9
    refine hK9.out _ _ G19 (fun _ => ?_)
    clear hK9 K9
    (try simp only [Act.put, List.setIfInBounds_toArray, List.set_cons_zero, List.set_cons_succ])
    refine wpAnyH_ready (rs := [47]) (by kernel_rfl) (by simp) ?_
    refine AllReadyH.cons (o := { dst := some 98, op := Op.call { callee := Callee.value (Operand.func 6), args := #[Operand.const (Value.slice none 0 0)], argTypes := #[39] }, type := _, pos := _, after := _, guard := _ }) rfl (fun K9 hK9 => ?_) AllReadyH.nil
    go_simp
    go_at_call 6
    refine (cn0 _ G19).mono ?_
    rintro e w20 ⟨bn, rfl, hbn, hS20, g20⟩
    go_wp2_with fail
    refine hK9.out _ _ (tn G19 g20) (fun _ => ?_)
    clear hK9 K9
    (try simp only [Act.put, List.setIfInBounds_toArray, List.set_cons_zero, List.set_cons_succ])
    have G20 := tn G19 g20
    have hD20 := hD19.none g20
    refine wpAnyH_ready (rs := [48]) (by kernel_rfl) (by simp) ?_
    refine AllReadyH.cons (o := { dst := some 99, op := Op.call { callee := Callee.value (Operand.func 7), args := #[(Operand.tmp 98), Operand.const (Value.int IntKind.i64 40)], argTypes := #[24, 3] }, type := _, pos := _, after := _, guard := _ }) rfl (fun K9 hK9 => ?_) AllReadyH.nil
    go_simp
    go_at_call 7
    refine (ct0 _ _ G20 hbn hS20).mono ?_
    rintro e w21 ⟨qa, qb, rfl, hE21, g21, G21⟩
    go_wp2_with fail
    refine hK9.out _ _ G21 (fun _ => ?_)
    clear hK9 K9
    (try simp only [Act.put, List.setIfInBounds_toArray, List.set_cons_zero, List.set_cons_succ])
    have hD21 := hD20.src hS20 g21
    refine wpAnyH_ready (rs := [49]) (by kernel_rfl) (by simp) ?_
    refine AllReadyH.cons (o := { dst := some 100, op := Op.convert 22 9 (Operand.tmp 99), type := _, pos := _, after := _, guard := _ }) rfl (fun K9 hK9 => ?_) AllReadyH.nil
    have hv9 := cvD _ _ _ hE21
    go_simp
    clear hv9
    refine hK9.out _ _ G21 (fun _ => ?_)
    clear hK9 K9
    (try simp only [Act.put, List.setIfInBounds_toArray, List.set_cons_zero, List.set_cons_succ])
    refine wpAnyH_take (i := 50) (oi := { dst := some 101, op := Op.binOp BinOp.eql 9 (Operand.tmp 97) (Operand.tmp 100) 9, type := _, pos := _, after := _, guard := _ }) (v := .bool true) rfl (by kernel_rfl) (by kernel_rfl) (by kernel_rfl) (fun _ _ _ h => h) (Or.inl ⟨by rfl, fun V (hV : w12.grownBy V none) => by go_simp⟩) G21 ?_
    (try simp only [Act.put, List.setIfInBounds_toArray, List.set_cons_zero, List.set_cons_succ])
    refine wpAnyH_take (i := 51) (oi := { dst := some 102, op := Op.pick (Operand.tmp 94) (Operand.tmp 101) (Operand.const (Value.bool false)), type := _, pos := _, after := _, guard := _ }) (v := .bool true) rfl (by kernel_rfl) (by kernel_rfl) (by kernel_rfl) (fun _ _ _ h => h) (Or.inl ⟨by rfl, fun V (hV : w12.grownBy V none) => by go_simp⟩) G21 ?_
    (try simp only [Act.put, List.setIfInBounds_toArray, List.set_cons_zero, List.set_cons_succ])
    refine wpAnyH_take (i := 52) (oi := { dst := some 103, op := Op.move (Operand.tmp 102), type := _, pos := _, after := _, guard := _ }) (v := .bool true) rfl (by kernel_rfl) (by kernel_rfl) (by kernel_rfl) (fun _ _ _ h => h) (Or.inl ⟨by rfl, fun V (hV : w12.grownBy V none) => by go_simp⟩) G21 ?_
    (try simp only [Act.put, List.setIfInBounds_toArray, List.set_cons_zero, List.set_cons_succ])
    refine wpAnyH_ready (rs := [53]) (by kernel_rfl) (by simp) ?_
    refine AllReadyH.cons (o := { dst := some 104, op := Op.call { callee := Callee.value (Operand.func 11), args := #[], argTypes := #[] }, type := _, pos := _, after := _, guard := _ }) rfl (fun K9 hK9 => ?_) AllReadyH.nil
    go_simp
    go_at_call 11
    refine (cone _ G21).mono ?_
    rintro e w22 ⟨rfl, g22⟩
    go_wp2_with fail
    refine hK9.out _ _ (tn G21 g22) (fun _ => ?_)
    clear hK9 K9
    (try simp only [Act.put, List.setIfInBounds_toArray, List.set_cons_zero, List.set_cons_succ])
    refine wpAnyH_take (i := 54) (oi := { dst := some 105, op := Op.pick (Operand.tmp 103) (Operand.tmp 104) (Operand.const (Value.bool false)), type := _, pos := _, after := _, guard := _ }) (v := .bool true) rfl (by kernel_rfl) (by kernel_rfl) (by kernel_rfl) (fun _ _ _ h => h) (Or.inl ⟨by rfl, fun V (hV : w12.grownBy V none) => by go_simp⟩) (tn G21 g22) ?_
    (try simp only [Act.put, List.setIfInBounds_toArray, List.set_cons_zero, List.set_cons_succ])
    refine wpAnyH_take (i := 55) (oi := { dst := some 6, op := Op.assign (Operand.tmp 105), type := _, pos := _, after := _, guard := _ }) (v := .bool true) rfl (by kernel_rfl) (by kernel_rfl) (by kernel_rfl) (fun _ _ _ h => h) (Or.inl ⟨by rfl, fun V (hV : w12.grownBy V none) => by go_simp⟩) (tn G21 g22) ?_
    (try simp only [Act.put, List.setIfInBounds_toArray, List.set_cons_zero, List.set_cons_succ])
    refine wpAnyH_done (by kernel_rfl) ?_ _
    refine NoPanic.normal ?_
    go_wp2
    go_ret
    exact ⟨rfl, tn G12 (tn G21 g22)⟩
  · go_simp
    go_at_call 6
    refine (cn0 _ G19).mono ?_
    rintro e w20 ⟨bn, rfl, hbn, hS20, g20⟩
    go_wp2_with fail
    refine hK9.out _ _ (tn G19 g20) (fun _ => ?_)
    clear hK9 K9
    (try simp only [Act.put, List.setIfInBounds_toArray, List.set_cons_zero, List.set_cons_succ])
    have G20 := tn G19 g20
    have hD20 := hD19.none g20
    refine wpAnyH_ready (rs := [46, 48]) (by kernel_rfl) (by simp) ?_
    refine AllReadyH.cons (o := { dst := some 97, op := Op.convert 22 9 (Operand.tmp 96), type := _, pos := _, after := _, guard := _ }) rfl (fun K9 hK9 => ?_) (AllReadyH.cons (o := { dst := some 99, op := Op.call { callee := Callee.value (Operand.func 7), args := #[(Operand.tmp 98), Operand.const (Value.int IntKind.i64 40)], argTypes := #[24, 3] }, type := _, pos := _, after := _, guard := _ }) rfl (fun K9 hK9 => ?_) AllReadyH.nil)
    · have hv9 := cvD _ _ _ hD20
      go_simp
      clear hv9
      refine hK9.out _ _ G20 (fun _ => ?_)
      clear hK9 K9
      (try simp only [Act.put, List.setIfInBounds_toArray, List.set_cons_zero, List.set_cons_succ])
      refine wpAnyH_ready (rs := [48]) (by kernel_rfl) (by simp) ?_
      refine AllReadyH.cons (o := { dst := some 99, op := Op.call { callee := Callee.value (Operand.func 7), args := #[(Operand.tmp 98), Operand.const (Value.int IntKind.i64 40)], argTypes := #[24, 3] }, type := _, pos := _, after := _, guard := _ }) rfl (fun K9 hK9 => ?_) AllReadyH.nil
      go_simp
      go_at_call 7
      refine (ct0 _ _ G20 hbn hS20).mono ?_
      rintro e w21 ⟨qa, qb, rfl, hE21, g21, G21⟩
      go_wp2_with fail
      refine hK9.out _ _ G21 (fun _ => ?_)
      clear hK9 K9
      (try simp only [Act.put, List.setIfInBounds_toArray, List.set_cons_zero, List.set_cons_succ])
      have hD21 := hD20.src hS20 g21
      refine wpAnyH_ready (rs := [49]) (by kernel_rfl) (by simp) ?_
      refine AllReadyH.cons (o := { dst := some 100, op := Op.convert 22 9 (Operand.tmp 99), type := _, pos := _, after := _, guard := _ }) rfl (fun K9 hK9 => ?_) AllReadyH.nil
      have hv9 := cvD _ _ _ hE21
      go_simp
      clear hv9
      refine hK9.out _ _ G21 (fun _ => ?_)
      clear hK9 K9
      (try simp only [Act.put, List.setIfInBounds_toArray, List.set_cons_zero, List.set_cons_succ])
      refine wpAnyH_take (i := 50) (oi := { dst := some 101, op := Op.binOp BinOp.eql 9 (Operand.tmp 97) (Operand.tmp 100) 9, type := _, pos := _, after := _, guard := _ }) (v := .bool true) rfl (by kernel_rfl) (by kernel_rfl) (by kernel_rfl) (fun _ _ _ h => h) (Or.inl ⟨by rfl, fun V (hV : w12.grownBy V none) => by go_simp⟩) G21 ?_
      (try simp only [Act.put, List.setIfInBounds_toArray, List.set_cons_zero, List.set_cons_succ])
      refine wpAnyH_take (i := 51) (oi := { dst := some 102, op := Op.pick (Operand.tmp 94) (Operand.tmp 101) (Operand.const (Value.bool false)), type := _, pos := _, after := _, guard := _ }) (v := .bool true) rfl (by kernel_rfl) (by kernel_rfl) (by kernel_rfl) (fun _ _ _ h => h) (Or.inl ⟨by rfl, fun V (hV : w12.grownBy V none) => by go_simp⟩) G21 ?_
      (try simp only [Act.put, List.setIfInBounds_toArray, List.set_cons_zero, List.set_cons_succ])
      refine wpAnyH_take (i := 52) (oi := { dst := some 103, op := Op.move (Operand.tmp 102), type := _, pos := _, after := _, guard := _ }) (v := .bool true) rfl (by kernel_rfl) (by kernel_rfl) (by kernel_rfl) (fun _ _ _ h => h) (Or.inl ⟨by rfl, fun V (hV : w12.grownBy V none) => by go_simp⟩) G21 ?_
      (try simp only [Act.put, List.setIfInBounds_toArray, List.set_cons_zero, List.set_cons_succ])
      refine wpAnyH_ready (rs := [53]) (by kernel_rfl) (by simp) ?_
      refine AllReadyH.cons (o := { dst := some 104, op := Op.call { callee := Callee.value (Operand.func 11), args := #[], argTypes := #[] }, type := _, pos := _, after := _, guard := _ }) rfl (fun K9 hK9 => ?_) AllReadyH.nil
      go_simp
      go_at_call 11
      refine (cone _ G21).mono ?_
      rintro e w22 ⟨rfl, g22⟩
      go_wp2_with fail
      refine hK9.out _ _ (tn G21 g22) (fun _ => ?_)
      clear hK9 K9
      (try simp only [Act.put, List.setIfInBounds_toArray, List.set_cons_zero, List.set_cons_succ])
      refine wpAnyH_take (i := 54) (oi := { dst := some 105, op := Op.pick (Operand.tmp 103) (Operand.tmp 104) (Operand.const (Value.bool false)), type := _, pos := _, after := _, guard := _ }) (v := .bool true) rfl (by kernel_rfl) (by kernel_rfl) (by kernel_rfl) (fun _ _ _ h => h) (Or.inl ⟨by rfl, fun V (hV : w12.grownBy V none) => by go_simp⟩) (tn G21 g22) ?_
      (try simp only [Act.put, List.setIfInBounds_toArray, List.set_cons_zero, List.set_cons_succ])
      refine wpAnyH_take (i := 55) (oi := { dst := some 6, op := Op.assign (Operand.tmp 105), type := _, pos := _, after := _, guard := _ }) (v := .bool true) rfl (by kernel_rfl) (by kernel_rfl) (by kernel_rfl) (fun _ _ _ h => h) (Or.inl ⟨by rfl, fun V (hV : w12.grownBy V none) => by go_simp⟩) (tn G21 g22) ?_
      (try simp only [Act.put, List.setIfInBounds_toArray, List.set_cons_zero, List.set_cons_succ])
      refine wpAnyH_done (by kernel_rfl) ?_ _
      refine NoPanic.normal ?_
      go_wp2
      go_ret
      exact ⟨rfl, tn G12 (tn G21 g22)⟩
    · go_simp
      go_at_call 7
      refine (ct0 _ _ G20 hbn hS20).mono ?_
      rintro e w21 ⟨qa, qb, rfl, hE21, g21, G21⟩
      go_wp2_with fail
      refine hK9.out _ _ G21 (fun _ => ?_)
      clear hK9 K9
      (try simp only [Act.put, List.setIfInBounds_toArray, List.set_cons_zero, List.set_cons_succ])
      have hD21 := hD20.src hS20 g21
      refine wpAnyH_ready (rs := [46, 49]) (by kernel_rfl) (by simp) ?_
      refine AllReadyH.cons (o := { dst := some 97, op := Op.convert 22 9 (Operand.tmp 96), type := _, pos := _, after := _, guard := _ }) rfl (fun K9 hK9 => ?_) (AllReadyH.cons (o := { dst := some 100, op := Op.convert 22 9 (Operand.tmp 99), type := _, pos := _, after := _, guard := _ }) rfl (fun K9 hK9 => ?_) AllReadyH.nil)
      · have hv9 := cvD _ _ _ hD21
        go_simp
        clear hv9
        refine hK9.out _ _ G21 (fun _ => ?_)
        clear hK9 K9
        (try simp only [Act.put, List.setIfInBounds_toArray, List.set_cons_zero, List.set_cons_succ])
        refine wpAnyH_ready (rs := [49]) (by kernel_rfl) (by simp) ?_
        refine AllReadyH.cons (o := { dst := some 100, op := Op.convert 22 9 (Operand.tmp 99), type := _, pos := _, after := _, guard := _ }) rfl (fun K9 hK9 => ?_) AllReadyH.nil
        have hv9 := cvD _ _ _ hE21
        go_simp
        clear hv9
        refine hK9.out _ _ G21 (fun _ => ?_)
        clear hK9 K9
        (try simp only [Act.put, List.setIfInBounds_toArray, List.set_cons_zero, List.set_cons_succ])
        refine wpAnyH_take (i := 50) (oi := { dst := some 101, op := Op.binOp BinOp.eql 9 (Operand.tmp 97) (Operand.tmp 100) 9, type := _, pos := _, after := _, guard := _ }) (v := .bool true) rfl (by kernel_rfl) (by kernel_rfl) (by kernel_rfl) (fun _ _ _ h => h) (Or.inl ⟨by rfl, fun V (hV : w12.grownBy V none) => by go_simp⟩) G21 ?_
        (try simp only [Act.put, List.setIfInBounds_toArray, List.set_cons_zero, List.set_cons_succ])
        refine wpAnyH_take (i := 51) (oi := { dst := some 102, op := Op.pick (Operand.tmp 94) (Operand.tmp 101) (Operand.const (Value.bool false)), type := _, pos := _, after := _, guard := _ }) (v := .bool true) rfl (by kernel_rfl) (by kernel_rfl) (by kernel_rfl) (fun _ _ _ h => h) (Or.inl ⟨by rfl, fun V (hV : w12.grownBy V none) => by go_simp⟩) G21 ?_
        (try simp only [Act.put, List.setIfInBounds_toArray, List.set_cons_zero, List.set_cons_succ])
        refine wpAnyH_take (i := 52) (oi := { dst := some 103, op := Op.move (Operand.tmp 102), type := _, pos := _, after := _, guard := _ }) (v := .bool true) rfl (by kernel_rfl) (by kernel_rfl) (by kernel_rfl) (fun _ _ _ h => h) (Or.inl ⟨by rfl, fun V (hV : w12.grownBy V none) => by go_simp⟩) G21 ?_
        (try simp only [Act.put, List.setIfInBounds_toArray, List.set_cons_zero, List.set_cons_succ])
        refine wpAnyH_ready (rs := [53]) (by kernel_rfl) (by simp) ?_
        refine AllReadyH.cons (o := { dst := some 104, op := Op.call { callee := Callee.value (Operand.func 11), args := #[], argTypes := #[] }, type := _, pos := _, after := _, guard := _ }) rfl (fun K9 hK9 => ?_) AllReadyH.nil
        go_simp
        go_at_call 11
        refine (cone _ G21).mono ?_
        rintro e w22 ⟨rfl, g22⟩
        go_wp2_with fail
        refine hK9.out _ _ (tn G21 g22) (fun _ => ?_)
        clear hK9 K9
        (try simp only [Act.put, List.setIfInBounds_toArray, List.set_cons_zero, List.set_cons_succ])
        refine wpAnyH_take (i := 54) (oi := { dst := some 105, op := Op.pick (Operand.tmp 103) (Operand.tmp 104) (Operand.const (Value.bool false)), type := _, pos := _, after := _, guard := _ }) (v := .bool true) rfl (by kernel_rfl) (by kernel_rfl) (by kernel_rfl) (fun _ _ _ h => h) (Or.inl ⟨by rfl, fun V (hV : w12.grownBy V none) => by go_simp⟩) (tn G21 g22) ?_
        (try simp only [Act.put, List.setIfInBounds_toArray, List.set_cons_zero, List.set_cons_succ])
        refine wpAnyH_take (i := 55) (oi := { dst := some 6, op := Op.assign (Operand.tmp 105), type := _, pos := _, after := _, guard := _ }) (v := .bool true) rfl (by kernel_rfl) (by kernel_rfl) (by kernel_rfl) (fun _ _ _ h => h) (Or.inl ⟨by rfl, fun V (hV : w12.grownBy V none) => by go_simp⟩) (tn G21 g22) ?_
        (try simp only [Act.put, List.setIfInBounds_toArray, List.set_cons_zero, List.set_cons_succ])
        refine wpAnyH_done (by kernel_rfl) ?_ _
        refine NoPanic.normal ?_
        go_wp2
        go_ret
        exact ⟨rfl, tn G12 (tn G21 g22)⟩
      · have hv9 := cvD _ _ _ hE21
        go_simp
        clear hv9
        refine hK9.out _ _ G21 (fun _ => ?_)
        clear hK9 K9
        (try simp only [Act.put, List.setIfInBounds_toArray, List.set_cons_zero, List.set_cons_succ])
        refine wpAnyH_ready (rs := [46]) (by kernel_rfl) (by simp) ?_
        refine AllReadyH.cons (o := { dst := some 97, op := Op.convert 22 9 (Operand.tmp 96), type := _, pos := _, after := _, guard := _ }) rfl (fun K9 hK9 => ?_) AllReadyH.nil
        have hv9 := cvD _ _ _ hD21
        go_simp
        clear hv9
        refine hK9.out _ _ G21 (fun _ => ?_)
        clear hK9 K9
        (try simp only [Act.put, List.setIfInBounds_toArray, List.set_cons_zero, List.set_cons_succ])
        refine wpAnyH_take (i := 50) (oi := { dst := some 101, op := Op.binOp BinOp.eql 9 (Operand.tmp 97) (Operand.tmp 100) 9, type := _, pos := _, after := _, guard := _ }) (v := .bool true) rfl (by kernel_rfl) (by kernel_rfl) (by kernel_rfl) (fun _ _ _ h => h) (Or.inl ⟨by rfl, fun V (hV : w12.grownBy V none) => by go_simp⟩) G21 ?_
        (try simp only [Act.put, List.setIfInBounds_toArray, List.set_cons_zero, List.set_cons_succ])
        refine wpAnyH_take (i := 51) (oi := { dst := some 102, op := Op.pick (Operand.tmp 94) (Operand.tmp 101) (Operand.const (Value.bool false)), type := _, pos := _, after := _, guard := _ }) (v := .bool true) rfl (by kernel_rfl) (by kernel_rfl) (by kernel_rfl) (fun _ _ _ h => h) (Or.inl ⟨by rfl, fun V (hV : w12.grownBy V none) => by go_simp⟩) G21 ?_
        (try simp only [Act.put, List.setIfInBounds_toArray, List.set_cons_zero, List.set_cons_succ])
        refine wpAnyH_take (i := 52) (oi := { dst := some 103, op := Op.move (Operand.tmp 102), type := _, pos := _, after := _, guard := _ }) (v := .bool true) rfl (by kernel_rfl) (by kernel_rfl) (by kernel_rfl) (fun _ _ _ h => h) (Or.inl ⟨by rfl, fun V (hV : w12.grownBy V none) => by go_simp⟩) G21 ?_
        (try simp only [Act.put, List.setIfInBounds_toArray, List.set_cons_zero, List.set_cons_succ])
        refine wpAnyH_ready (rs := [53]) (by kernel_rfl) (by simp) ?_
        refine AllReadyH.cons (o := { dst := some 104, op := Op.call { callee := Callee.value (Operand.func 11), args := #[], argTypes := #[] }, type := _, pos := _, after := _, guard := _ }) rfl (fun K9 hK9 => ?_) AllReadyH.nil
        go_simp
        go_at_call 11
        refine (cone _ G21).mono ?_
        rintro e w22 ⟨rfl, g22⟩
        go_wp2_with fail
        refine hK9.out _ _ (tn G21 g22) (fun _ => ?_)
        clear hK9 K9
        (try simp only [Act.put, List.setIfInBounds_toArray, List.set_cons_zero, List.set_cons_succ])
        refine wpAnyH_take (i := 54) (oi := { dst := some 105, op := Op.pick (Operand.tmp 103) (Operand.tmp 104) (Operand.const (Value.bool false)), type := _, pos := _, after := _, guard := _ }) (v := .bool true) rfl (by kernel_rfl) (by kernel_rfl) (by kernel_rfl) (fun _ _ _ h => h) (Or.inl ⟨by rfl, fun V (hV : w12.grownBy V none) => by go_simp⟩) (tn G21 g22) ?_
        (try simp only [Act.put, List.setIfInBounds_toArray, List.set_cons_zero, List.set_cons_succ])
        refine wpAnyH_take (i := 55) (oi := { dst := some 6, op := Op.assign (Operand.tmp 105), type := _, pos := _, after := _, guard := _ }) (v := .bool true) rfl (by kernel_rfl) (by kernel_rfl) (by kernel_rfl) (fun _ _ _ h => h) (Or.inl ⟨by rfl, fun V (hV : w12.grownBy V none) => by go_simp⟩) (tn G21 g22) ?_
        (try simp only [Act.put, List.setIfInBounds_toArray, List.set_cons_zero, List.set_cons_succ])
        refine wpAnyH_done (by kernel_rfl) ?_ _
        refine NoPanic.normal ?_
        go_wp2
        go_ret
        exact ⟨rfl, tn G12 (tn G21 g22)⟩

theorem drawsParts_any (w : World) (ao : Option Addr) (ca : Nat) (A : List UInt8) (ha : Bts w ao ca A) (n k : Int) (hT : Tabs w) :
    Calls Tryd.prog 4 #[.slice ao A.length ca, .int .i64 n, .int .i64 k] w fun e w' => e = .returned (.bool true) ∧ w.grownBy w' none := by
  by_cases h : A.length ≤ 300
  · exact drawsParts_small w ao ca A ha n k hT h
  · exact drawsParts_big w ao ca A.length n k (by omega)

end Go.Proofs.YtkbldpigbkecpaaDoor
