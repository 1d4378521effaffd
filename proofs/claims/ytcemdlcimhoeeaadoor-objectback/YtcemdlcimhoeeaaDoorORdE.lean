/- What object's readEntries reads: the entries of a tree's data. Of data of fewer than 2 to the 46 bytes. -/
import Derived.Test.YtcemdlcimhoeeaaDoorORdId
import Derived.Test.YtcemdlcimhoeeaaDoorOApp
import Derived.Test.YtcemdlcimhoeeaaDoorOEq
namespace Go.Proofs.YtcemdlcimhoeeaaDoor
open Go.RowKit

theorem runE_len (s : List UInt8 × Int) (j : Nat) : (runE s j).1.length = j := by
  induction j with
  | zero => rfl
  | succ j ih => rw [runE, stepE]; simp [ih]
theorem runE_ids (s : List UInt8 × Int) (j : Nat) : ∀ e ∈ (runE s j).1, e.id.length = 32 := by
  induction j with
  | zero => intro e he; simp [runE] at he
  | succ j ih =>
    intro e he
    rw [runE, stepE] at he
    simp only [List.mem_append, List.mem_singleton] at he
    rcases he with he | rfl
    · exact ih e he
    · exact raw32_len _ _
theorem runE_left (s : List UInt8 × Int) (j : Nat) : (runE s j).2.1.length ≤ s.1.length := by
  induction j with
  | zero => exact Nat.le_refl _
  | succ j ih =>
    rw [runE, stepE]
    exact Nat.le_trans (rawS_len _ _ _) (Nat.le_trans (sizedS_len _ _) (Nat.le_trans (numS_len _ _ _) ih))
theorem runE_names (s : List UInt8 × Int) (j : Nat) : ∀ e ∈ (runE s j).1, e.name.length ≤ s.1.length := by
  induction j with
  | zero => intro e he; simp [runE] at he
  | succ j ih =>
    intro e he
    have h0 := runE_left s j
    rw [runE, stepE] at he
    simp only [List.mem_append, List.mem_singleton] at he
    rcases he with he | rfl
    · exact ih e he
    · exact Nat.le_trans (sizedS_le _ _) (Nat.le_trans (numS_len _ _ _) h0)

/-- One round: what is read, and what is left. -/
theorem runE_round {s : List UInt8 × Int} {j : Nat} {es : List EntL} {l' : List UInt8} {e' : Int} (h : runE s j = (es, l', e')) {v1 : Nat} {l1 : List UInt8} {e1 : Int} (h1 : numS l' e' 1 = (v1, l1, e1)) {x l2 : List UInt8} {e2 : Int} (h2 : sizedS l1 e1 = (x, l2, e2)) {y l3 : List UInt8} {e3 : Int} (h3 : rawS l2 e2 32 = (y, l3, e3)) :
    runE s (j + 1) = (es ++ [⟨x, decide (v1 = 1), pad32 y⟩], l3, e3) := by
  rw [runE, h, stepE]
  simp only [h1, h2, h3]

set_option maxRecDepth 100000 in
set_option maxHeartbeats 4000000 in
theorem readEnts_any (w : World) (rb : Nat) (d : List UInt8) (hl : d.length ≤ 1000000) (h : Rd w rb d 0) :
    Calls Tryd.prog 27 #[.pointer (some ⟨rb, 0, none⟩)] w fun e w' => ∃ v, e = .returned v ∧ w'.ownsRow w.heap.size 41 34 v (readT d).length ((readT d).flatMap enC) ∧ w.grownBy w' (some rb) := by
  have hrb := h.lt
  have cn := num_at w rb d 0 2 h
  have hll := numS_len d 0 2
  have hn6 := numS_lt2 d 0
  have hRT : readT d = (runE (numS d 0 2).2 (min (numS d 0 2).1 32)).1 := rfl
  obtain ⟨⟨n0, l0, e0⟩, ha⟩ : ∃ a, a = numS d 0 2 := ⟨_, rfl⟩
  rw [← ha] at cn hll hn6 hRT
  simp only at cn hll hn6 hRT
  obtain ⟨m, hm⟩ : ∃ m, m = min n0 32 := ⟨_, rfl⟩
  have hm32 : m ≤ 32 := by omega
  rw [← hm] at hRT
  have HRT := hide hRT
  have HLL := hide (Nat.le_trans hll hl)
  have hcase : (32 < n0 ∧ m = 32) ∨ n0 = m := by omega
  clear ha hRT hll hl h hm
  rcases hcase with ⟨hc, hm⟩ | hm
  · have hci : (32 : Int) < (n0 : Int) := by omega
    have h32 : Value.int IntKind.u64 32 = Value.int IntKind.u64 (m : Int) := by rw [hm]; rfl
    have H32 := hide h32
    clear h32 hm hc
    go_enter Tryd.func27, Tryd.ntmps27
    go_wp2_with fail
    refine cn.mono ?_
    rintro e w1 ⟨rfl, hR1, g1⟩
    clear cn
    go_wp2
    rw [unhide H32]
    clear H32 hci
    go_loopw [3, 8] (fun v i wr => ∃ (j : Nat) (es : List EntL) (l' : List UInt8) (e' : Int), j ≤ m ∧ i = .int .u64 (j : Int) ∧ Hid (runE (l0, e0) j = (es, l', e')) ∧ wr.ownsRow w.heap.size 41 34 v es.length (es.flatMap enC) ∧ Rd wr rb l' e' ∧ w.grownBy wr (some rb)) (fun _ i _ => m - (intOf i).toNat)
    case atStart => exact ⟨0, [], l0, e0, Nat.zero_le _, rfl, rfl, World.ownsRow_nil _ _ _ _, hR1, g1⟩
    case round =>
      obtain ⟨j, es, l', e', hj, rfl, HE, ho, hR, hg⟩ := hrel
      by_cases hlt : j < m
      · have hel : es.length = j := by have := runE_len (l0, e0) j; rw [unhide HE] at this; exact this
        have hlf : l'.length ≤ 1000000 := by have := runE_left (l0, e0) j; rw [unhide HE] at this; exact Nat.le_trans this (unhide HLL)
        have cn := num_at wr rb l' e' 1 hR
        have hl1 := numS_len l' e' 1
        have hsl1 : ∀ l1 e1, (sizedS l1 e1).2.1.length ≤ l1.length := sizedS_len
        obtain ⟨⟨v1, l1, e1⟩, ha⟩ : ∃ a, a = numS l' e' 1 := ⟨_, rfl⟩
        rw [← ha] at cn hl1
        simp only at cn hl1
        have H1 := hide ha.symm
        clear ha
        go_wp2_with fail
        refine cn.mono ?_
        rintro e w2 ⟨rfl, hR2, g2⟩
        have ho2 := own_ent ho g2 (fun x e => by cases e; omega)
        have G2 : w.grownBy w2 (some rb) := gb_trans hg g2 (fun x e => Or.inr e)
        clear cn hR hg ho g2
        go_upto_region 5 with fail
        have cs : ∀ V, Rd V rb l1 e1 → Calls Tryd.prog 38 #[.pointer (some ⟨rb, 0, none⟩)] V fun e w' => ∃ v, e = .returned v ∧ NewB V w' v (sizedS l1 e1).1 ∧ Rd w' rb (sizedS l1 e1).2.1 (sizedS l1 e1).2.2 ∧ V.grownBy w' (some rb) := fun V hV => sized_at V rb l1 e1 (by omega) hV
        have hsz1 := sizedS_len l1 e1
        obtain ⟨⟨x, l2, e2⟩, ha⟩ : ∃ a, a = sizedS l1 e1 := ⟨_, rfl⟩
        rw [← ha] at cs hsz1
        simp only at cs hsz1
        have H2 := hide ha.symm
        clear ha
        have ci : ∀ V, Rd V rb l2 e2 → Calls Tryd.prog 43 #[.pointer (some ⟨rb, 0, none⟩)] V fun e w' => e = .returned (.agg ((pad32 (rawS l2 e2 32).1).map bv).toArray) ∧ Rd w' rb (rawS l2 e2 32).2.1 (rawS l2 e2 32).2.2 ∧ V.grownBy w' (some rb) := fun V hV => readId_any V rb l2 e2 (by omega) hV
        have hy32 := raw32_len l2 e2
        obtain ⟨⟨y, l3, e3⟩, ha⟩ : ∃ a, a = rawS l2 e2 32 := ⟨_, rfl⟩
        rw [← ha] at ci hy32
        simp only at ci hy32
        have H3 := hide ha.symm
        clear ha
        obtain ⟨D, hD⟩ : ∃ D, D = decide (v1 = 1) := ⟨_, rfl⟩
        have hD2 : ((v1 : Int) == 1) = D := by rw [hD]; by_cases q : v1 = 1 <;> simp [q] <;> omega
        have hrd := runE_round (unhide HE) (unhide H1) (unhide H2) (unhide H3)
        rw [← hD] at hrd
        obtain ⟨I, hI⟩ : ∃ I, I = pad32 y := ⟨_, rfl⟩
        rw [← hI] at ci hy32 hrd
        have hbt := built_ent (str x) D I hy32
        have hbs := bs_ent (str x) D I hy32
        obtain ⟨IV, hIV⟩ : ∃ V, V = Value.agg (I.map bv).toArray := ⟨_, rfl⟩
        rw [← hIV] at ci hbt
        obtain ⟨EC, hEC⟩ : ∃ L, L = (Value.string (str x) :: Value.bool D :: I.map bv) := ⟨_, rfl⟩
        rw [← hEC] at hbt hbs
        have hEe : EC = enC ⟨x, D, I⟩ := hEC
        have hEl : EC.length = 34 := by rw [hEe]; exact enC_len _ hy32
        have hE1 : ∀ u ∈ EC, u.oneCell' = true := by rw [hEe]; exact enC_one _
        have hfl : (es ++ [(⟨x, D, I⟩ : EntL)]).flatMap enC = es.flatMap enC ++ EC := by rw [hEe]; simp
        obtain ⟨N, hN⟩ : ∃ N, N = str x := ⟨_, rfl⟩
        rw [← hN] at hbt
        have HN := hide hN
        have HBT := hide hbt
        have HEL := hide hEl
        have HE1 := hide hE1
        have HFL := hide hfl
        have HRD := hide hrd
        have h0 : w.grownBy w2.drew (some rb) := gb_drew G2
        have hRd : Rd w2.drew rb l1 e1 := hR2.kept (gb_drew (gb_refl _ none)) (Or.inl rfl)
        have hod : w2.drew.ownsRow w.heap.size 41 34 u3 es.length (es.flatMap enC) := own_ent ho2 (gb_drew (gb_refl _ none)) (fun x e => by cases e)
        have hj100 : es.length ≤ 100000 := by omega
        clear hD hI hIV hEC hEe hEl hE1 hfl hN hbt hrd hy32 hsz1 hl1 hsl1 ho2 hR2 G2 HE H1 H2 H3 hlf hel
        try rw [hD2]
        clear hD2
        refine wp_region_noPanic ?_
        refine wp_region_held_drew (S := fun V => w.grownBy V (some rb)) (by kernel_rfl) h0 (fun _ => ?_)
        refine wpAnyH_take (i := 0) (oi := { dst := some 13, op := Op.move (Operand.tmp 3), type := _, pos := _, after := _, guard := _ }) (v := u3) rfl (by kernel_rfl) (by kernel_rfl) (by kernel_rfl) (fun _ _ _ h => h) (Or.inl ⟨by rfl, fun V (hV : w.grownBy V (some rb)) => by go_simp⟩) h0 ?_
        (try simp only [Act.put, List.setIfInBounds_toArray, List.set_cons_zero, List.set_cons_succ])
        refine wpAnyH_take (i := 1) (oi := { dst := some 14, op := Op.move (Operand.tmp 0), type := _, pos := _, after := _, guard := _ }) (v := .pointer (some ⟨rb, 0, none⟩)) rfl (by kernel_rfl) (by kernel_rfl) (by kernel_rfl) (fun _ _ _ h => h) (Or.inl ⟨by rfl, fun V (hV : w.grownBy V (some rb)) => by go_simp⟩) h0 ?_
        (try simp only [Act.put, List.setIfInBounds_toArray, List.set_cons_zero, List.set_cons_succ])
        refine wpAnyH_take (i := 4) (oi := { dst := some 17, op := Op.move (Operand.tmp 4), type := _, pos := _, after := _, guard := _ }) (v := .bool D) rfl (by kernel_rfl) (by kernel_rfl) (by kernel_rfl) (fun _ _ _ h => h) (Or.inl ⟨by rfl, fun V (hV : w.grownBy V (some rb)) => by go_simp⟩) h0 ?_
        (try simp only [Act.put, List.setIfInBounds_toArray, List.set_cons_zero, List.set_cons_succ])
        refine wpAnyH_take (i := 5) (oi := { dst := some 18, op := Op.move (Operand.tmp 0), type := _, pos := _, after := _, guard := _ }) (v := .pointer (some ⟨rb, 0, none⟩)) rfl (by kernel_rfl) (by kernel_rfl) (by kernel_rfl) (fun _ _ _ h => h) (Or.inl ⟨by rfl, fun V (hV : w.grownBy V (some rb)) => by go_simp⟩) h0 ?_
        (try simp only [Act.put, List.setIfInBounds_toArray, List.set_cons_zero, List.set_cons_succ])
        refine wpAnyH_ready (rs := [2]) (by kernel_rfl) (by simp) ?_
        refine AllReadyH.cons (o := { dst := some 15, op := Op.call { callee := Callee.value (Operand.func 38), args := #[(Operand.tmp 14)], argTypes := #[66] }, type := _, pos := _, after := _, guard := _ }) rfl (fun K9 hK9 => ?_) AllReadyH.nil
        go_simp
        go_at_call 38
        refine (cs _ hRd).mono ?_
        rintro e w3 ⟨v3, rfl, ⟨ao, c, rfl, hb3, hn3⟩, hR3, g3⟩
        have G3 : w.grownBy w3 (some rb) := gb_trans h0 g3 (fun x e => Or.inr e)
        go_wp2_with fail
        refine hK9.out _ _ G3 (fun _ => ?_)
        clear hK9 K9
        (try simp only [Act.put, List.setIfInBounds_toArray, List.set_cons_zero, List.set_cons_succ])
        have hs0 : w.heap.size ≤ w2.drew.heap.size := h0.size
        have ho3 := own_ent hod g3 (fun x e => by cases e; exact hrb)
        have hof : Off ao rb := fun ad e e2 => by have := (hn3 ad e).1; omega
        clear hod g3 cs hRd hs0
        refine wpAnyH_ready (rs := [3, 6]) (by kernel_rfl) (by simp) ?_
        refine AllReadyH.cons (o := { dst := some 16, op := Op.convert 32 9 (Operand.tmp 15), type := _, pos := _, after := _, guard := _ }) rfl (fun K9 hK9 => ?_) (AllReadyH.cons (o := { dst := some 19, op := Op.call { callee := Callee.value (Operand.func 43), args := #[(Operand.tmp 18)], argTypes := #[66] }, type := _, pos := _, after := _, guard := _ }) rfl (fun K9 hK9 => ?_) AllReadyH.nil)
        · have hcv := conv_str hb3
          rw [← unhide HN] at hcv
          go_simp
          refine hK9.out _ _ G3 (fun _ => ?_)
          clear hK9 K9 hcv
          (try simp only [Act.put, List.setIfInBounds_toArray, List.set_cons_zero, List.set_cons_succ])
          refine wpAnyH_ready (rs := [6]) (by kernel_rfl) (by simp) ?_
          refine AllReadyH.cons (o := { dst := some 19, op := Op.call { callee := Callee.value (Operand.func 43), args := #[(Operand.tmp 18)], argTypes := #[66] }, type := _, pos := _, after := _, guard := _ }) rfl (fun K9 hK9 => ?_) AllReadyH.nil
          go_simp
          go_at_call 43
          refine (ci _ hR3).mono ?_
          rintro e w4 ⟨rfl, hR4, g4⟩
          have G4 : w.grownBy w4 (some rb) := gb_trans G3 g4 (fun x e => Or.inr e)
          go_wp2_with fail
          refine hK9.out _ _ G4 (fun _ => ?_)
          clear hK9 K9
          (try simp only [Act.put, List.setIfInBounds_toArray, List.set_cons_zero, List.set_cons_succ])
          have ho4 := own_ent ho3 g4 (fun x e => by cases e; exact hrb)
          clear ci hR3 ho3 g4
          refine wpAnyH_take (i := 7) (oi := { dst := some 20, op := Op.build 41 #[(0, (Operand.tmp 16)), (1, (Operand.tmp 17)), (2, (Operand.tmp 19))], type := _, pos := _, after := _, guard := _ }) (v := .agg EC.toArray) rfl (by kernel_rfl) (by kernel_rfl) (by kernel_rfl) (fun _ _ _ h => h) (yieldsIf_built (by rfl) _ _ rfl _ (Eq.trans (b := Tryd.prog.built 41 [(0, .string N), (1, .bool D), (2, IV)]) (by kernel_rfl) (unhide HBT))) G4 ?_
          (try simp only [Act.put, List.setIfInBounds_toArray, List.set_cons_zero, List.set_cons_succ])
          refine wpAnyH_ready (rs := [8]) (by kernel_rfl) (by simp) ?_
          refine AllReadyH.cons (o := { dst := some 21, op := Op.buildSlice 22 1 #[(0, (Operand.tmp 20))], type := _, pos := _, after := _, guard := _ }) rfl (fun K9 hK9 => ?_) AllReadyH.nil
          obtain ⟨w5, hw5, hB5, g5⟩ := box_new w4 41 EC
          refine step_build1 (by rfl) _ _ rfl _ _ rfl (hbs w4) ?_
          rw [← hw5]
          have G5 := tn G4 g5
          refine hK9.out _ _ G5 (fun _ => ?_)
          clear hK9 K9 hw5
          (try simp only [Act.put, List.setIfInBounds_toArray, List.set_cons_zero, List.set_cons_succ])
          have ho5 := own_ent ho4 g5 (fun x e => by cases e)
          have hR5 := hR4.kept g5 (Or.inl rfl)
          refine wpAnyH_ready (rs := [9]) (by kernel_rfl) (by simp) ?_
          refine AllReadyH.cons (o := { dst := some 22, op := Op.call { callee := Callee.builtin Builtin.append, args := #[(Operand.tmp 13), (Operand.tmp 21)], argTypes := #[22, 22] }, type := _, pos := _, after := _, guard := _ }) rfl (fun K9 hK9 => ?_) AllReadyH.nil
          refine step_append_ent (by rfl) _ _ rfl w.heap.size u3 _ _ rfl ho5 _ EC hB5 (unhide HEL) (unhide HE1) rfl hj100 G5.size ?_
          intro v6 w6 ho6 g6
          have G6 : w.grownBy w6 (some rb) := gb_trans G5 g6 (fun x e => Or.inl (ho5.lt x e).1)
          have hR6 : Rd w6 rb l3 e3 := hR5.keptTyp g6 (fun x e => ⟨by have := (ho5.lt x e).1; omega, own_typ ho5 e (by decide)⟩)
          refine hK9.out _ _ G6 (fun _ => ?_)
          clear hK9 K9 g6 ho5 hR5 hB5 g5
          (try simp only [Act.put, List.setIfInBounds_toArray, List.set_cons_zero, List.set_cons_succ])
          refine wpAnyH_take (i := 10) (oi := { dst := some 3, op := Op.assign (Operand.tmp 22), type := _, pos := _, after := _, guard := _ }) (v := v6) rfl (by kernel_rfl) (by kernel_rfl) (by kernel_rfl) (fun _ _ _ h => h) (Or.inl ⟨by rfl, fun V (hV : w.grownBy V (some rb)) => by go_simp⟩) G6 ?_
          (try simp only [Act.put, List.setIfInBounds_toArray, List.set_cons_zero, List.set_cons_succ])
          refine wpAnyH_done (by kernel_rfl) ?_ _
          refine NoPanic.normal ?_
          have HR6 := hide hR6
          have HO6 := hide ho6
          clear hR6 ho6
          go_wp2
          go_roundw
          case rel =>
            refine ⟨j + 1, _, l3, e3, by omega, by go_num, HRD, ?_, unhide HR6, G6⟩
            rw [List.length_append, unhide HFL]
            exact unhide HO6
          case measure => simp [intOf]; omega
        · go_simp
          go_at_call 43
          refine (ci _ hR3).mono ?_
          rintro e w4 ⟨rfl, hR4, g4⟩
          have G4 : w.grownBy w4 (some rb) := gb_trans G3 g4 (fun x e => Or.inr e)
          go_wp2_with fail
          refine hK9.out _ _ G4 (fun _ => ?_)
          clear hK9 K9
          (try simp only [Act.put, List.setIfInBounds_toArray, List.set_cons_zero, List.set_cons_succ])
          have ho4 := own_ent ho3 g4 (fun x e => by cases e; exact hrb)
          have hb4 := hb3.kept g4 (fun x e => by cases e; exact hof)
          clear ci hR3 ho3 g4
          refine wpAnyH_ready (rs := [3]) (by kernel_rfl) (by simp) ?_
          refine AllReadyH.cons (o := { dst := some 16, op := Op.convert 32 9 (Operand.tmp 15), type := _, pos := _, after := _, guard := _ }) rfl (fun K9 hK9 => ?_) AllReadyH.nil
          have hcv := conv_str hb4
          rw [← unhide HN] at hcv
          go_simp
          refine hK9.out _ _ G4 (fun _ => ?_)
          clear hK9 K9 hcv
          (try simp only [Act.put, List.setIfInBounds_toArray, List.set_cons_zero, List.set_cons_succ])
          refine wpAnyH_take (i := 7) (oi := { dst := some 20, op := Op.build 41 #[(0, (Operand.tmp 16)), (1, (Operand.tmp 17)), (2, (Operand.tmp 19))], type := _, pos := _, after := _, guard := _ }) (v := .agg EC.toArray) rfl (by kernel_rfl) (by kernel_rfl) (by kernel_rfl) (fun _ _ _ h => h) (yieldsIf_built (by rfl) _ _ rfl _ (Eq.trans (b := Tryd.prog.built 41 [(0, .string N), (1, .bool D), (2, IV)]) (by kernel_rfl) (unhide HBT))) G4 ?_
          (try simp only [Act.put, List.setIfInBounds_toArray, List.set_cons_zero, List.set_cons_succ])
          refine wpAnyH_ready (rs := [8]) (by kernel_rfl) (by simp) ?_
          refine AllReadyH.cons (o := { dst := some 21, op := Op.buildSlice 22 1 #[(0, (Operand.tmp 20))], type := _, pos := _, after := _, guard := _ }) rfl (fun K9 hK9 => ?_) AllReadyH.nil
          obtain ⟨w5, hw5, hB5, g5⟩ := box_new w4 41 EC
          refine step_build1 (by rfl) _ _ rfl _ _ rfl (hbs w4) ?_
          rw [← hw5]
          have G5 := tn G4 g5
          refine hK9.out _ _ G5 (fun _ => ?_)
          clear hK9 K9 hw5
          (try simp only [Act.put, List.setIfInBounds_toArray, List.set_cons_zero, List.set_cons_succ])
          have ho5 := own_ent ho4 g5 (fun x e => by cases e)
          have hR5 := hR4.kept g5 (Or.inl rfl)
          refine wpAnyH_ready (rs := [9]) (by kernel_rfl) (by simp) ?_
          refine AllReadyH.cons (o := { dst := some 22, op := Op.call { callee := Callee.builtin Builtin.append, args := #[(Operand.tmp 13), (Operand.tmp 21)], argTypes := #[22, 22] }, type := _, pos := _, after := _, guard := _ }) rfl (fun K9 hK9 => ?_) AllReadyH.nil
          refine step_append_ent (by rfl) _ _ rfl w.heap.size u3 _ _ rfl ho5 _ EC hB5 (unhide HEL) (unhide HE1) rfl hj100 G5.size ?_
          intro v6 w6 ho6 g6
          have G6 : w.grownBy w6 (some rb) := gb_trans G5 g6 (fun x e => Or.inl (ho5.lt x e).1)
          have hR6 : Rd w6 rb l3 e3 := hR5.keptTyp g6 (fun x e => ⟨by have := (ho5.lt x e).1; omega, own_typ ho5 e (by decide)⟩)
          refine hK9.out _ _ G6 (fun _ => ?_)
          clear hK9 K9 g6 ho5 hR5 hB5 g5
          (try simp only [Act.put, List.setIfInBounds_toArray, List.set_cons_zero, List.set_cons_succ])
          refine wpAnyH_take (i := 10) (oi := { dst := some 3, op := Op.assign (Operand.tmp 22), type := _, pos := _, after := _, guard := _ }) (v := v6) rfl (by kernel_rfl) (by kernel_rfl) (by kernel_rfl) (fun _ _ _ h => h) (Or.inl ⟨by rfl, fun V (hV : w.grownBy V (some rb)) => by go_simp⟩) G6 ?_
          (try simp only [Act.put, List.setIfInBounds_toArray, List.set_cons_zero, List.set_cons_succ])
          refine wpAnyH_done (by kernel_rfl) ?_ _
          refine NoPanic.normal ?_
          have HR6 := hide hR6
          have HO6 := hide ho6
          clear hR6 ho6
          go_wp2
          go_roundw
          case rel =>
            refine ⟨j + 1, _, l3, e3, by omega, by go_num, HRD, ?_, unhide HR6, G6⟩
            rw [List.length_append, unhide HFL]
            exact unhide HO6
          case measure => simp [intOf]; omega
      · have hjm : j = m := by omega
        have hfin : readT d = es := by
          rw [unhide HRT, ← hjm, unhide HE]
        have HF := hide hfin
        clear hfin hjm
        go_wp2
        go_ret
        exact ⟨_, rfl, by rw [unhide HF]; exact ho, hg⟩
  · subst n0
    have hci : ¬ (32 : Int) < (m : Int) := by omega
    go_enter Tryd.func27, Tryd.ntmps27
    go_wp2_with fail
    refine cn.mono ?_
    rintro e w1 ⟨rfl, hR1, g1⟩
    clear cn
    go_wp2
    clear hci
    go_loopw [3, 8] (fun v i wr => ∃ (j : Nat) (es : List EntL) (l' : List UInt8) (e' : Int), j ≤ m ∧ i = .int .u64 (j : Int) ∧ Hid (runE (l0, e0) j = (es, l', e')) ∧ wr.ownsRow w.heap.size 41 34 v es.length (es.flatMap enC) ∧ Rd wr rb l' e' ∧ w.grownBy wr (some rb)) (fun _ i _ => m - (intOf i).toNat)
    case atStart => exact ⟨0, [], l0, e0, Nat.zero_le _, rfl, rfl, World.ownsRow_nil _ _ _ _, hR1, g1⟩
    case round =>
      obtain ⟨j, es, l', e', hj, rfl, HE, ho, hR, hg⟩ := hrel
      by_cases hlt : j < m
      · have hel : es.length = j := by have := runE_len (l0, e0) j; rw [unhide HE] at this; exact this
        have hlf : l'.length ≤ 1000000 := by have := runE_left (l0, e0) j; rw [unhide HE] at this; exact Nat.le_trans this (unhide HLL)
        have cn := num_at wr rb l' e' 1 hR
        have hl1 := numS_len l' e' 1
        have hsl1 : ∀ l1 e1, (sizedS l1 e1).2.1.length ≤ l1.length := sizedS_len
        obtain ⟨⟨v1, l1, e1⟩, ha⟩ : ∃ a, a = numS l' e' 1 := ⟨_, rfl⟩
        rw [← ha] at cn hl1
        simp only at cn hl1
        have H1 := hide ha.symm
        clear ha
        go_wp2_with fail
        refine cn.mono ?_
        rintro e w2 ⟨rfl, hR2, g2⟩
        have ho2 := own_ent ho g2 (fun x e => by cases e; omega)
        have G2 : w.grownBy w2 (some rb) := gb_trans hg g2 (fun x e => Or.inr e)
        clear cn hR hg ho g2
        go_upto_region 5 with fail
        have cs : ∀ V, Rd V rb l1 e1 → Calls Tryd.prog 38 #[.pointer (some ⟨rb, 0, none⟩)] V fun e w' => ∃ v, e = .returned v ∧ NewB V w' v (sizedS l1 e1).1 ∧ Rd w' rb (sizedS l1 e1).2.1 (sizedS l1 e1).2.2 ∧ V.grownBy w' (some rb) := fun V hV => sized_at V rb l1 e1 (by omega) hV
        have hsz1 := sizedS_len l1 e1
        obtain ⟨⟨x, l2, e2⟩, ha⟩ : ∃ a, a = sizedS l1 e1 := ⟨_, rfl⟩
        rw [← ha] at cs hsz1
        simp only at cs hsz1
        have H2 := hide ha.symm
        clear ha
        have ci : ∀ V, Rd V rb l2 e2 → Calls Tryd.prog 43 #[.pointer (some ⟨rb, 0, none⟩)] V fun e w' => e = .returned (.agg ((pad32 (rawS l2 e2 32).1).map bv).toArray) ∧ Rd w' rb (rawS l2 e2 32).2.1 (rawS l2 e2 32).2.2 ∧ V.grownBy w' (some rb) := fun V hV => readId_any V rb l2 e2 (by omega) hV
        have hy32 := raw32_len l2 e2
        obtain ⟨⟨y, l3, e3⟩, ha⟩ : ∃ a, a = rawS l2 e2 32 := ⟨_, rfl⟩
        rw [← ha] at ci hy32
        simp only at ci hy32
        have H3 := hide ha.symm
        clear ha
        obtain ⟨D, hD⟩ : ∃ D, D = decide (v1 = 1) := ⟨_, rfl⟩
        have hD2 : ((v1 : Int) == 1) = D := by rw [hD]; by_cases q : v1 = 1 <;> simp [q] <;> omega
        have hrd := runE_round (unhide HE) (unhide H1) (unhide H2) (unhide H3)
        rw [← hD] at hrd
        obtain ⟨I, hI⟩ : ∃ I, I = pad32 y := ⟨_, rfl⟩
        rw [← hI] at ci hy32 hrd
        have hbt := built_ent (str x) D I hy32
        have hbs := bs_ent (str x) D I hy32
        obtain ⟨IV, hIV⟩ : ∃ V, V = Value.agg (I.map bv).toArray := ⟨_, rfl⟩
        rw [← hIV] at ci hbt
        obtain ⟨EC, hEC⟩ : ∃ L, L = (Value.string (str x) :: Value.bool D :: I.map bv) := ⟨_, rfl⟩
        rw [← hEC] at hbt hbs
        have hEe : EC = enC ⟨x, D, I⟩ := hEC
        have hEl : EC.length = 34 := by rw [hEe]; exact enC_len _ hy32
        have hE1 : ∀ u ∈ EC, u.oneCell' = true := by rw [hEe]; exact enC_one _
        have hfl : (es ++ [(⟨x, D, I⟩ : EntL)]).flatMap enC = es.flatMap enC ++ EC := by rw [hEe]; simp
        obtain ⟨N, hN⟩ : ∃ N, N = str x := ⟨_, rfl⟩
        rw [← hN] at hbt
        have HN := hide hN
        have HBT := hide hbt
        have HEL := hide hEl
        have HE1 := hide hE1
        have HFL := hide hfl
        have HRD := hide hrd
        have h0 : w.grownBy w2.drew (some rb) := gb_drew G2
        have hRd : Rd w2.drew rb l1 e1 := hR2.kept (gb_drew (gb_refl _ none)) (Or.inl rfl)
        have hod : w2.drew.ownsRow w.heap.size 41 34 u3 es.length (es.flatMap enC) := own_ent ho2 (gb_drew (gb_refl _ none)) (fun x e => by cases e)
        have hj100 : es.length ≤ 100000 := by omega
        clear hD hI hIV hEC hEe hEl hE1 hfl hN hbt hrd hy32 hsz1 hl1 hsl1 ho2 hR2 G2 HE H1 H2 H3 hlf hel
        try rw [hD2]
        clear hD2
        refine wp_region_noPanic ?_
        refine wp_region_held_drew (S := fun V => w.grownBy V (some rb)) (by kernel_rfl) h0 (fun _ => ?_)
        refine wpAnyH_take (i := 0) (oi := { dst := some 13, op := Op.move (Operand.tmp 3), type := _, pos := _, after := _, guard := _ }) (v := u3) rfl (by kernel_rfl) (by kernel_rfl) (by kernel_rfl) (fun _ _ _ h => h) (Or.inl ⟨by rfl, fun V (hV : w.grownBy V (some rb)) => by go_simp⟩) h0 ?_
        (try simp only [Act.put, List.setIfInBounds_toArray, List.set_cons_zero, List.set_cons_succ])
        refine wpAnyH_take (i := 1) (oi := { dst := some 14, op := Op.move (Operand.tmp 0), type := _, pos := _, after := _, guard := _ }) (v := .pointer (some ⟨rb, 0, none⟩)) rfl (by kernel_rfl) (by kernel_rfl) (by kernel_rfl) (fun _ _ _ h => h) (Or.inl ⟨by rfl, fun V (hV : w.grownBy V (some rb)) => by go_simp⟩) h0 ?_
        (try simp only [Act.put, List.setIfInBounds_toArray, List.set_cons_zero, List.set_cons_succ])
        refine wpAnyH_take (i := 4) (oi := { dst := some 17, op := Op.move (Operand.tmp 4), type := _, pos := _, after := _, guard := _ }) (v := .bool D) rfl (by kernel_rfl) (by kernel_rfl) (by kernel_rfl) (fun _ _ _ h => h) (Or.inl ⟨by rfl, fun V (hV : w.grownBy V (some rb)) => by go_simp⟩) h0 ?_
        (try simp only [Act.put, List.setIfInBounds_toArray, List.set_cons_zero, List.set_cons_succ])
        refine wpAnyH_take (i := 5) (oi := { dst := some 18, op := Op.move (Operand.tmp 0), type := _, pos := _, after := _, guard := _ }) (v := .pointer (some ⟨rb, 0, none⟩)) rfl (by kernel_rfl) (by kernel_rfl) (by kernel_rfl) (fun _ _ _ h => h) (Or.inl ⟨by rfl, fun V (hV : w.grownBy V (some rb)) => by go_simp⟩) h0 ?_
        (try simp only [Act.put, List.setIfInBounds_toArray, List.set_cons_zero, List.set_cons_succ])
        refine wpAnyH_ready (rs := [2]) (by kernel_rfl) (by simp) ?_
        refine AllReadyH.cons (o := { dst := some 15, op := Op.call { callee := Callee.value (Operand.func 38), args := #[(Operand.tmp 14)], argTypes := #[66] }, type := _, pos := _, after := _, guard := _ }) rfl (fun K9 hK9 => ?_) AllReadyH.nil
        go_simp
        go_at_call 38
        refine (cs _ hRd).mono ?_
        rintro e w3 ⟨v3, rfl, ⟨ao, c, rfl, hb3, hn3⟩, hR3, g3⟩
        have G3 : w.grownBy w3 (some rb) := gb_trans h0 g3 (fun x e => Or.inr e)
        go_wp2_with fail
        refine hK9.out _ _ G3 (fun _ => ?_)
        clear hK9 K9
        (try simp only [Act.put, List.setIfInBounds_toArray, List.set_cons_zero, List.set_cons_succ])
        have hs0 : w.heap.size ≤ w2.drew.heap.size := h0.size
        have ho3 := own_ent hod g3 (fun x e => by cases e; exact hrb)
        have hof : Off ao rb := fun ad e e2 => by have := (hn3 ad e).1; omega
        clear hod g3 cs hRd hs0
        refine wpAnyH_ready (rs := [3, 6]) (by kernel_rfl) (by simp) ?_
        refine AllReadyH.cons (o := { dst := some 16, op := Op.convert 32 9 (Operand.tmp 15), type := _, pos := _, after := _, guard := _ }) rfl (fun K9 hK9 => ?_) (AllReadyH.cons (o := { dst := some 19, op := Op.call { callee := Callee.value (Operand.func 43), args := #[(Operand.tmp 18)], argTypes := #[66] }, type := _, pos := _, after := _, guard := _ }) rfl (fun K9 hK9 => ?_) AllReadyH.nil)
        · have hcv := conv_str hb3
          rw [← unhide HN] at hcv
          go_simp
          refine hK9.out _ _ G3 (fun _ => ?_)
          clear hK9 K9 hcv
          (try simp only [Act.put, List.setIfInBounds_toArray, List.set_cons_zero, List.set_cons_succ])
          refine wpAnyH_ready (rs := [6]) (by kernel_rfl) (by simp) ?_
          refine AllReadyH.cons (o := { dst := some 19, op := Op.call { callee := Callee.value (Operand.func 43), args := #[(Operand.tmp 18)], argTypes := #[66] }, type := _, pos := _, after := _, guard := _ }) rfl (fun K9 hK9 => ?_) AllReadyH.nil
          go_simp
          go_at_call 43
          refine (ci _ hR3).mono ?_
          rintro e w4 ⟨rfl, hR4, g4⟩
          have G4 : w.grownBy w4 (some rb) := gb_trans G3 g4 (fun x e => Or.inr e)
          go_wp2_with fail
          refine hK9.out _ _ G4 (fun _ => ?_)
          clear hK9 K9
          (try simp only [Act.put, List.setIfInBounds_toArray, List.set_cons_zero, List.set_cons_succ])
          have ho4 := own_ent ho3 g4 (fun x e => by cases e; exact hrb)
          clear ci hR3 ho3 g4
          refine wpAnyH_take (i := 7) (oi := { dst := some 20, op := Op.build 41 #[(0, (Operand.tmp 16)), (1, (Operand.tmp 17)), (2, (Operand.tmp 19))], type := _, pos := _, after := _, guard := _ }) (v := .agg EC.toArray) rfl (by kernel_rfl) (by kernel_rfl) (by kernel_rfl) (fun _ _ _ h => h) (yieldsIf_built (by rfl) _ _ rfl _ (Eq.trans (b := Tryd.prog.built 41 [(0, .string N), (1, .bool D), (2, IV)]) (by kernel_rfl) (unhide HBT))) G4 ?_
          (try simp only [Act.put, List.setIfInBounds_toArray, List.set_cons_zero, List.set_cons_succ])
          refine wpAnyH_ready (rs := [8]) (by kernel_rfl) (by simp) ?_
          refine AllReadyH.cons (o := { dst := some 21, op := Op.buildSlice 22 1 #[(0, (Operand.tmp 20))], type := _, pos := _, after := _, guard := _ }) rfl (fun K9 hK9 => ?_) AllReadyH.nil
          obtain ⟨w5, hw5, hB5, g5⟩ := box_new w4 41 EC
          refine step_build1 (by rfl) _ _ rfl _ _ rfl (hbs w4) ?_
          rw [← hw5]
          have G5 := tn G4 g5
          refine hK9.out _ _ G5 (fun _ => ?_)
          clear hK9 K9 hw5
          (try simp only [Act.put, List.setIfInBounds_toArray, List.set_cons_zero, List.set_cons_succ])
          have ho5 := own_ent ho4 g5 (fun x e => by cases e)
          have hR5 := hR4.kept g5 (Or.inl rfl)
          refine wpAnyH_ready (rs := [9]) (by kernel_rfl) (by simp) ?_
          refine AllReadyH.cons (o := { dst := some 22, op := Op.call { callee := Callee.builtin Builtin.append, args := #[(Operand.tmp 13), (Operand.tmp 21)], argTypes := #[22, 22] }, type := _, pos := _, after := _, guard := _ }) rfl (fun K9 hK9 => ?_) AllReadyH.nil
          refine step_append_ent (by rfl) _ _ rfl w.heap.size u3 _ _ rfl ho5 _ EC hB5 (unhide HEL) (unhide HE1) rfl hj100 G5.size ?_
          intro v6 w6 ho6 g6
          have G6 : w.grownBy w6 (some rb) := gb_trans G5 g6 (fun x e => Or.inl (ho5.lt x e).1)
          have hR6 : Rd w6 rb l3 e3 := hR5.keptTyp g6 (fun x e => ⟨by have := (ho5.lt x e).1; omega, own_typ ho5 e (by decide)⟩)
          refine hK9.out _ _ G6 (fun _ => ?_)
          clear hK9 K9 g6 ho5 hR5 hB5 g5
          (try simp only [Act.put, List.setIfInBounds_toArray, List.set_cons_zero, List.set_cons_succ])
          refine wpAnyH_take (i := 10) (oi := { dst := some 3, op := Op.assign (Operand.tmp 22), type := _, pos := _, after := _, guard := _ }) (v := v6) rfl (by kernel_rfl) (by kernel_rfl) (by kernel_rfl) (fun _ _ _ h => h) (Or.inl ⟨by rfl, fun V (hV : w.grownBy V (some rb)) => by go_simp⟩) G6 ?_
          (try simp only [Act.put, List.setIfInBounds_toArray, List.set_cons_zero, List.set_cons_succ])
          refine wpAnyH_done (by kernel_rfl) ?_ _
          refine NoPanic.normal ?_
          have HR6 := hide hR6
          have HO6 := hide ho6
          clear hR6 ho6
          go_wp2
          go_roundw
          case rel =>
            refine ⟨j + 1, _, l3, e3, by omega, by go_num, HRD, ?_, unhide HR6, G6⟩
            rw [List.length_append, unhide HFL]
            exact unhide HO6
          case measure => simp [intOf]; omega
        · go_simp
          go_at_call 43
          refine (ci _ hR3).mono ?_
          rintro e w4 ⟨rfl, hR4, g4⟩
          have G4 : w.grownBy w4 (some rb) := gb_trans G3 g4 (fun x e => Or.inr e)
          go_wp2_with fail
          refine hK9.out _ _ G4 (fun _ => ?_)
          clear hK9 K9
          (try simp only [Act.put, List.setIfInBounds_toArray, List.set_cons_zero, List.set_cons_succ])
          have ho4 := own_ent ho3 g4 (fun x e => by cases e; exact hrb)
          have hb4 := hb3.kept g4 (fun x e => by cases e; exact hof)
          clear ci hR3 ho3 g4
          refine wpAnyH_ready (rs := [3]) (by kernel_rfl) (by simp) ?_
          refine AllReadyH.cons (o := { dst := some 16, op := Op.convert 32 9 (Operand.tmp 15), type := _, pos := _, after := _, guard := _ }) rfl (fun K9 hK9 => ?_) AllReadyH.nil
          have hcv := conv_str hb4
          rw [← unhide HN] at hcv
          go_simp
          refine hK9.out _ _ G4 (fun _ => ?_)
          clear hK9 K9 hcv
          (try simp only [Act.put, List.setIfInBounds_toArray, List.set_cons_zero, List.set_cons_succ])
          refine wpAnyH_take (i := 7) (oi := { dst := some 20, op := Op.build 41 #[(0, (Operand.tmp 16)), (1, (Operand.tmp 17)), (2, (Operand.tmp 19))], type := _, pos := _, after := _, guard := _ }) (v := .agg EC.toArray) rfl (by kernel_rfl) (by kernel_rfl) (by kernel_rfl) (fun _ _ _ h => h) (yieldsIf_built (by rfl) _ _ rfl _ (Eq.trans (b := Tryd.prog.built 41 [(0, .string N), (1, .bool D), (2, IV)]) (by kernel_rfl) (unhide HBT))) G4 ?_
          (try simp only [Act.put, List.setIfInBounds_toArray, List.set_cons_zero, List.set_cons_succ])
          refine wpAnyH_ready (rs := [8]) (by kernel_rfl) (by simp) ?_
          refine AllReadyH.cons (o := { dst := some 21, op := Op.buildSlice 22 1 #[(0, (Operand.tmp 20))], type := _, pos := _, after := _, guard := _ }) rfl (fun K9 hK9 => ?_) AllReadyH.nil
          obtain ⟨w5, hw5, hB5, g5⟩ := box_new w4 41 EC
          refine step_build1 (by rfl) _ _ rfl _ _ rfl (hbs w4) ?_
          rw [← hw5]
          have G5 := tn G4 g5
          refine hK9.out _ _ G5 (fun _ => ?_)
          clear hK9 K9 hw5
          (try simp only [Act.put, List.setIfInBounds_toArray, List.set_cons_zero, List.set_cons_succ])
          have ho5 := own_ent ho4 g5 (fun x e => by cases e)
          have hR5 := hR4.kept g5 (Or.inl rfl)
          refine wpAnyH_ready (rs := [9]) (by kernel_rfl) (by simp) ?_
          refine AllReadyH.cons (o := { dst := some 22, op := Op.call { callee := Callee.builtin Builtin.append, args := #[(Operand.tmp 13), (Operand.tmp 21)], argTypes := #[22, 22] }, type := _, pos := _, after := _, guard := _ }) rfl (fun K9 hK9 => ?_) AllReadyH.nil
          refine step_append_ent (by rfl) _ _ rfl w.heap.size u3 _ _ rfl ho5 _ EC hB5 (unhide HEL) (unhide HE1) rfl hj100 G5.size ?_
          intro v6 w6 ho6 g6
          have G6 : w.grownBy w6 (some rb) := gb_trans G5 g6 (fun x e => Or.inl (ho5.lt x e).1)
          have hR6 : Rd w6 rb l3 e3 := hR5.keptTyp g6 (fun x e => ⟨by have := (ho5.lt x e).1; omega, own_typ ho5 e (by decide)⟩)
          refine hK9.out _ _ G6 (fun _ => ?_)
          clear hK9 K9 g6 ho5 hR5 hB5 g5
          (try simp only [Act.put, List.setIfInBounds_toArray, List.set_cons_zero, List.set_cons_succ])
          refine wpAnyH_take (i := 10) (oi := { dst := some 3, op := Op.assign (Operand.tmp 22), type := _, pos := _, after := _, guard := _ }) (v := v6) rfl (by kernel_rfl) (by kernel_rfl) (by kernel_rfl) (fun _ _ _ h => h) (Or.inl ⟨by rfl, fun V (hV : w.grownBy V (some rb)) => by go_simp⟩) G6 ?_
          (try simp only [Act.put, List.setIfInBounds_toArray, List.set_cons_zero, List.set_cons_succ])
          refine wpAnyH_done (by kernel_rfl) ?_ _
          refine NoPanic.normal ?_
          have HR6 := hide hR6
          have HO6 := hide ho6
          clear hR6 ho6
          go_wp2
          go_roundw
          case rel =>
            refine ⟨j + 1, _, l3, e3, by omega, by go_num, HRD, ?_, unhide HR6, G6⟩
            rw [List.length_append, unhide HFL]
            exact unhide HO6
          case measure => simp [intOf]; omega
      · have hjm : j = m := by omega
        have hfin : readT d = es := by
          rw [unhide HRT, ← hjm, unhide HE]
        have HF := hide hfin
        clear hfin hjm
        go_wp2
        go_ret
        exact ⟨_, rfl, by rw [unhide HF]; exact ho, hg⟩

end Go.Proofs.YtcemdlcimhoeeaaDoor
