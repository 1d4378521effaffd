/- DrawsTell answers true: any texts, asked for any numbers of bytes, tell the document's, in their order. For every two texts and list of numbers. -/
import Derived.Test.YtkbldpigbkecpaaDoorDKeep
import Derived.Test.YtkbldpigbkecpaaDoorDRef
import Derived.Test.YtkbldpigbkecpaaDoorMNts
import Derived.Deep.DrawnRows
import Derived.Deep.CutBlock
import Derived.Deep.DeepCutAuto
namespace Go.Proofs.YtkbldpigbkecpaaDoor
open Go.RowKit
attribute [local go_sem ↓] Go.wp_at_zero Go.wp_at_succ

set_option maxRecDepth 100000 in
theorem drawsTell_big (w : World) (ao bo no : Option Addr) (la ca lb' cb ln cn : Nat) (h : 200 < la ∨ 200 < lb') :
    Calls Tryd.prog 3 #[.slice ao la ca, .slice bo lb' cb, .slice no ln cn] w fun e w' => e = .returned (.bool true) ∧ w.grownBy w' none := by
  by_cases h1 : 200 < la
  · have h1i : (200 : Int) < (la : Int) := by omega
    go_enter Tryd.func3, Tryd.ntmps3
    go_wp2
    go_ret
    exact ⟨rfl, gb_refl _ _⟩
  · have h1i : ¬ (200 : Int) < (la : Int) := by omega
    have h2i : (200 : Int) < (lb' : Int) := by omega
    go_enter Tryd.func3, Tryd.ntmps3
    go_wp2
    go_ret
    exact ⟨rfl, gb_refl _ _⟩

theorem bts_at {w : World} {ao : Option Addr} {c : Nat} {l : List UInt8} (h : Bts w ao c l) (j : Nat) (hj : j < l.length) : ∃ b o, ao = some ⟨b, o, none⟩ ∧ w.cell? ⟨b, o + j, none⟩ = some (.int .u8 ((l[j].toNat : Nat) : Int)) := by
  obtain ⟨ad, had⟩ : ∃ ad, ao = some ad := by
    cases ao with
    | none => have := (h.zip rfl).1; omega
    | some ad => exact ⟨ad, rfl⟩
  have hs := h.shape ad had (by omega)
  have hc := h.cell ad had j hj
  obtain ⟨b, o, s⟩ := ad
  simp only at hs hc
  subst hs
  exact ⟨b, o, had, hc⟩

theorem nts_at {w : World} {ao : Option Addr} {c : Nat} {l : List Int} (h : Nts w ao c l) (j : Nat) (hj : j < l.length) : ∃ b o, ao = some ⟨b, o, none⟩ ∧ w.cell? ⟨b, o + j, none⟩ = some (.int .i64 l[j]) := by
  obtain ⟨ad, had⟩ : ∃ ad, ao = some ad := by
    cases ao with
    | none => have := (h.zip rfl).1; omega
    | some ad => exact ⟨ad, rfl⟩
  have hs := h.shape ad had (by omega)
  have hc := h.cell ad had j hj
  obtain ⟨b, o, s⟩ := ad
  simp only at hs hc
  subst hs
  exact ⟨b, o, had, hc⟩

theorem alloc_keyZ (w2 : World) (Z : List Value) : ∃ W3, W3 = w2.alloc (.cells Z.toArray 30) ∧ Blk W3 w2.heap.size 30 Z ∧ w2.grownBy W3 none :=
  ⟨_, rfl, Blk.new w2 30 _, gb_alloc (gb_refl _ _) _⟩

/-- Take of any number that is not too great. -/
theorem take_int (w : World) (b : Nat) (T : List UInt8) (us : Nat) (n : Int) (h : SrcAt w b T us) (hT : Tabs w) (hn : n ≤ 65536) (hus : us ≤ 70368744177664) :
    Calls Tryd.prog 7 #[.pointer (some ⟨b, 0, none⟩), .int .i64 n] w fun e w' => ∃ ao c, e = .returned (.slice ao n.toNat c) ∧ BtT w' ao c (told T us n.toNat) ∧ SrcAt w' b T (us + n.toNat) ∧ w.grownBy w' (some b) := by
  by_cases h0 : n < 1
  · have e0 : n.toNat = 0 := by omega
    rw [e0]
    refine (take_few w b n h0).mono ?_
    rintro e w' ⟨rfl, rfl⟩
    exact ⟨none, 0, rfl, ⟨Bts.nil _, fun _ e => by cases e⟩, h, gb_refl _ _⟩
  · have := take_law w b T us n.toNat h hT (by omega) hus
    rw [show ((n.toNat : Nat) : Int) = n from by omega] at this
    exact this

set_option maxRecDepth 100000 in
set_option maxHeartbeats 4000000 in
theorem drawsTell_small (w : World) (ao bo no : Option Addr) (ca cb cn : Nat) (A B : List UInt8) (L : List Int) (ha : Bts w ao ca A) (hb : Bts w bo cb B) (hL : Nts w no cn L) (hT : Tabs w) (hA2 : A.length ≤ 200) (hB2 : B.length ≤ 200) :
    Calls Tryd.prog 3 #[.slice ao A.length ca, .slice bo B.length cb, .slice no L.length cn] w fun e w' => e = .returned (.bool true) ∧ w.grownBy w' none := by
  obtain ⟨la, hla⟩ : ∃ x, x = A.length := ⟨_, rfl⟩
  obtain ⟨lb', hlb⟩ : ∃ x, x = B.length := ⟨_, rfl⟩
  obtain ⟨q, hq⟩ : ∃ x, x = L.length := ⟨_, rfl⟩
  obtain ⟨T, hTe⟩ : ∃ T, T = A ++ B := ⟨_, rfl⟩
  have hTl : T.length ≤ 400 := by rw [hTe, List.length_append]; omega
  have cnew : ∀ V M, w.grownBy V none → Blk V M 22 [.slice ao la ca, .slice bo lb' cb] → Calls Tryd.prog 6 #[.slice (some ⟨M, 0, none⟩) 2 2] V fun e w' => ∃ b, e = .returned (.pointer (some ⟨b, 0, none⟩)) ∧ V.heap.size ≤ b ∧ SrcAt w' b T 0 ∧ V.grownBy w' none := fun V M gV hM => by
    rw [hla, hlb] at hM
    have h := dnew_any V _ 2 [A, B] (lst_two hM (ha.kept gV (fun _ e => by cases e)) (hb.kept gV (fun _ e => by cases e))) (hT.kept0 gV) (by simp; omega)
    rw [show [A, B].flatten = T by rw [hTe]; simp, show [A, B].length = 2 from rfl] at h
    exact h
  obtain ⟨sA, hsA⟩ : ∃ s, s = str A := ⟨_, rfl⟩
  obtain ⟨sB, hsB⟩ : ∃ s, s = str B := ⟨_, rfl⟩
  obtain ⟨S, hS⟩ : ∃ s, s = str T := ⟨_, rfl⟩
  have hSS : sA ++ sB = S := by rw [hsA, hsB, hS, hTe, str_app]
  have hz1 : sA.size = la := by rw [hsA, str_size, hla]
  have hz2 : sB.size = lb' := by rw [hsB, str_size, hlb]
  have hcA : ∀ V, w.grownBy V none → (convert 22 9 (.slice ao la ca)).run Tryd.prog V = .ok (.string sA) V := fun V gV => by
    rw [hla, hsA]; exact conv_str (ha.kept gV (fun _ e => by cases e))
  have hcB : ∀ V, w.grownBy V none → (convert 22 9 (.slice bo lb' cb)).run Tryd.prog V = .ok (.string sB) V := fun V gV => by
    rw [hlb, hsB]; exact conv_str (hb.kept gV (fun _ e => by cases e))
  have ctk : ∀ (V : World) (b us : Nat) (n : Int) (m : Nat), m = n.toNat → w.grownBy V none → SrcAt V b T us → n ≤ 1000 → us ≤ 10000 → Calls Tryd.prog 7 #[.pointer (some ⟨b, 0, none⟩), .int .i64 n] V fun e w' => ∃ ao c, e = .returned (.slice ao m c) ∧ BtT w' ao c (told T us m) ∧ SrcAt w' b T (us + m) ∧ V.grownBy w' (some b) := fun V b us n m hm gV hS hn hu => by
    rw [hm]; exact take_int V b T us n hS (hT.kept0 gV) (by omega) (by omega)
  have cby : ∀ (V : World) (i : Nat), i ≤ 100000 → Calls Tryd.prog 8 #[.string S, .int .i64 (i : Int)] V fun e w' => e = .returned (bv (tell T i)) ∧ V.grownBy w' none := fun V i hi => by
    rw [hS]; exact rbyte_any V T i (by omega) hi
  rw [← hla] at hA2
  rw [← hlb] at hB2
  rw [← hla, ← hlb, ← hq]
  have hA2i : ¬ (200 : Int) < (la : Int) := by omega
  have hB2i : ¬ (200 : Int) < (lb' : Int) := by omega
  have hqc : q ≤ cn := by rw [hq]; exact hL.fits
  have hqm : q ≤ maxLen := by have := hL.most; omega
  unfold maxLen at hqm
  have hszs : ¬ 9223372036854775807 < la + lb' := by omega
  have HT := hide hT
  have HL := hide hL
  have HQ := hide hq
  have HTL := hide hTl
  clear hT hL hq hTl hla hlb hTe hsA hsB hS ha hb
  go_enter Tryd.func3, Tryd.ntmps3
  go_upto_region 3 with fail
  refine region_named fun O hO => ?_
  refine wpList_val (by rw [hO]; kernel_rfl) (.slice ao la ca) (fun K9 hK9 => by go_simp; exact hK9) ?_
  (try simp only [Act.put, List.setIfInBounds_toArray, List.set_cons_zero, List.set_cons_succ])
  refine wpList_val (by rw [hO]; kernel_rfl) (.slice bo lb' cb) (fun K9 hK9 => by go_simp; exact hK9) ?_
  (try simp only [Act.put, List.setIfInBounds_toArray, List.set_cons_zero, List.set_cons_succ])
  refine wpList_want (by rw [hO]; kernel_rfl) fun K9 hK9 => ?_
  go_simp
  refine hK9 _ _ ?_
  clear hK9 K9
  (try simp only [Act.put, List.setIfInBounds_toArray, List.set_cons_zero, List.set_cons_succ])
  obtain ⟨Wa, hWa, hNa, gNa⟩ := alloc_two w (.slice ao la ca) (.slice bo lb' cb)
  rw [← hWa]
  clear hWa
  refine wpList_want (by rw [hO]; kernel_rfl) fun K9 hK9 => ?_
  go_simp
  go_at_call 6
  refine (cnew _ _ gNa hNa).mono ?_
  rintro e w2 ⟨bs, rfl, hbs, hS2, g2⟩
  have G2 := tn gNa g2
  have hws : w.heap.size ≤ bs := Nat.le_trans gNa.size hbs
  clear hNa cnew hbs gNa g2
  refine hK9 _ _ ?_
  clear hK9 K9
  (try simp only [Act.put, List.setIfInBounds_toArray, List.set_cons_zero, List.set_cons_succ])
  refine wpList_val (by rw [hO]; kernel_rfl) (.pointer (some ⟨bs, 0, none⟩)) (fun K9 hK9 => by go_simp; exact hK9) ?_
  (try simp only [Act.put, List.setIfInBounds_toArray, List.set_cons_zero, List.set_cons_succ])
  have hcA2 := hcA w2 G2
  have hcB2 := hcB w2 G2
  clear hcA hcB
  go_wp2
  go_loopw [9, 10] (fun a9 i10 wr => ∃ k us : Nat, k ≤ q ∧ k ≤ 20 ∧ us ≤ 300 * k ∧ i10 = .int .i64 k ∧ a9 = .int .i64 us ∧ SrcAt wr bs T us ∧ w.grownBy wr none) (fun _ i10 _ => q - (intOf i10).toNat)
  case atStart => exact ⟨0, 0, Nat.zero_le _, Nat.zero_le _, Nat.zero_le _, rfl, rfl, hS2, G2⟩
  case round =>
    obtain ⟨k, us, hk, hk20, hus, rfl, rfl, hSr, hg⟩ := hrel
    clear hS2 G2
    have hk0 : (0 : Int) ≤ (k : Int) := by omega
    by_cases hgo : k < q ∧ k < 20
    · obtain ⟨hkq, hk2⟩ := hgo
      have hkqi : (k : Int) < (q : Int) := by omega
      have hk2i : (k : Int) < 20 := by omega
      have hkL : k < L.length := by rw [← unhide HQ]; exact hkq
      obtain ⟨nb', nf, rfl, hcn⟩ := nts_at (unhide HL) k hkL
      obtain ⟨n, hn⟩ : ∃ n, n = L[k] := ⟨_, rfl⟩
      rw [← hn] at hcn
      have hcr := hg.cell hcn (by simp)
      clear hn hcn
      by_cases h300 : 300 < n
      · obtain ⟨m, hm⟩ : ∃ m : Nat, n % 300 = (m : Int) := ⟨(n % 300).toNat, by omega⟩
        have hnt : n.tmod 300 = (m : Int) := by rw [Int.tmod_eq_emod_of_nonneg (by omega), hm]
        have hwn : IntKind.i64.wrap (m : Int) = (m : Int) := by rw [IntKind.wrap_i64]; omega
        have hm3 : m ≤ 300 := by omega
        go_upto_region 12 with fail
        refine region_named fun O hO => ?_
        refine wpList_val (by rw [hO]; kernel_rfl) (.pointer (some ⟨bs, 0, none⟩)) (fun K9 hK9 => by go_simp; exact hK9) ?_
        (try simp only [Act.put, List.setIfInBounds_toArray, List.set_cons_zero, List.set_cons_succ])
        refine wpList_val (by rw [hO]; kernel_rfl) (.int .i64 (m : Int)) (fun K9 hK9 => by go_simp; exact hK9) ?_
        (try simp only [Act.put, List.setIfInBounds_toArray, List.set_cons_zero, List.set_cons_succ])
        refine wpList_want (by rw [hO]; kernel_rfl) fun K9 hK9 => ?_
        go_simp
        go_at_call 7
        refine (ctk _ _ _ (m : Int) m (by simp) hg hSr (by omega) (by omega)).mono ?_
        rintro e w4 ⟨xo, xc, rfl, hX4, hS4, g4⟩
        have G4 := ts hws hg g4
        clear hSr hg g4
        refine hK9 _ _ ?_
        clear hK9 K9
        (try simp only [Act.put, List.setIfInBounds_toArray, List.set_cons_zero, List.set_cons_succ])
        refine wpList_val (by rw [hO]; kernel_rfl) (.slice xo m xc) (fun K9 hK9 => by go_simp; exact hK9) ?_
        (try simp only [Act.put, List.setIfInBounds_toArray, List.set_cons_zero, List.set_cons_succ])
        go_wp2
        go_loopw [9, 13] (fun a9 k13 wr => ∃ j : Nat, j ≤ m ∧ k13 = .int .i64 j ∧ a9 = .int .i64 ((us + j : Nat) : Int) ∧ w4.grownBy wr none) (fun _ k13 _ => m - (intOf k13).toNat)
        case atStart => exact ⟨0, Nat.zero_le _, rfl, rfl, gb_refl _ _⟩
        case round =>
          obtain ⟨j, hj, rfl, rfl, hg4⟩ := hrel
          by_cases hlt : j < m
          · obtain ⟨xb, xf, rfl, hcx⟩ := bts_at hX4.bts j (by rw [told_length]; exact hlt)
            rw [told_at] at hcx
            obtain ⟨p, hp⟩ : ∃ p, p = us + j := ⟨_, rfl⟩
            rw [← hp] at hcx ⊢
            have hcr := hg4.cell hcx (by simp)
            obtain ⟨z, hz⟩ : ∃ z, z = (((tell T p).toNat : Nat) : Int) := ⟨_, rfl⟩
            have cb9 : ∀ V, Calls Tryd.prog 8 #[.string S, .int .i64 (p : Int)] V fun e w' => e = .returned (.int .u8 z) ∧ V.grownBy w' none := fun V => by
              have := cby V p (by omega)
              rw [hz]; exact this
            rw [← hz] at hcr
            have h0 : wr.grownBy wr.drew none := gb_drew (gb_refl _ _)
            have hjm : (j : Int) < (m : Int) := by omega
            have hj0 : (0 : Int) ≤ (j : Int) := by omega
            have hp1 : (p : Int) + 1 = ((us + (j + 1) : Nat) : Int) := by omega
            have hwp : IntKind.i64.wrap ((p : Int) + 1) = (p : Int) + 1 := by rw [IntKind.wrap_i64]; omega
            have HP1 := hide hp1
            clear hcx hz hp hp1
            go_upto_region 18 with fail
            refine wp_region_noPanic ?_
            refine wp_region_held_drew (S := fun V => wr.grownBy V none) (by kernel_rfl) h0 (fun _ => ?_)
            refine wpAnyH_take (i := 0) (oi := { dst := some 65, op := Op.move (Operand.tmp 12), type := _, pos := _, after := _, guard := _ }) (v := .slice (some ⟨xb, xf, none⟩) m xc) rfl (by kernel_rfl) (by kernel_rfl) (by kernel_rfl) (fun _ _ _ h => h) (Or.inl ⟨by rfl, fun V (hV : wr.grownBy V none) => by go_simp⟩) h0 ?_
            (try simp only [Act.put, List.setIfInBounds_toArray, List.set_cons_zero, List.set_cons_succ])
            refine wpAnyH_take (i := 1) (oi := { dst := some 66, op := Op.move (Operand.tmp 13), type := _, pos := _, after := _, guard := _ }) (v := .int .i64 (j : Int)) rfl (by kernel_rfl) (by kernel_rfl) (by kernel_rfl) (fun _ _ _ h => h) (Or.inl ⟨by rfl, fun V (hV : wr.grownBy V none) => by go_simp⟩) h0 ?_
            (try simp only [Act.put, List.setIfInBounds_toArray, List.set_cons_zero, List.set_cons_succ])
            refine wpAnyH_take (i := 2) (oi := { dst := some 67, op := Op.indexAddr 22 (Operand.tmp 65) (Operand.tmp 66), type := _, pos := _, after := _, guard := _ }) (v := .pointer (some ⟨xb, xf + j, none⟩)) rfl (by kernel_rfl) (by kernel_rfl) (by kernel_rfl) (fun _ _ _ h => h) (Or.inl ⟨by rfl, fun V (hV : wr.grownBy V none) => by go_simp⟩) h0 ?_
            (try simp only [Act.put, List.setIfInBounds_toArray, List.set_cons_zero, List.set_cons_succ])
            refine wpAnyH_take (i := 3) (oi := { dst := some 68, op := Op.load 5 (Operand.tmp 67), type := _, pos := _, after := _, guard := _ }) (v := .int .u8 z) rfl (by kernel_rfl) (by kernel_rfl) (by kernel_rfl) (fun _ _ _ h => h) (Or.inl ⟨by rfl, fun V (hV : wr.grownBy V none) => by (have hv1 := hV.cell hcr (by simp); go_simp)⟩) h0 ?_
            (try simp only [Act.put, List.setIfInBounds_toArray, List.set_cons_zero, List.set_cons_succ])
            refine wpAnyH_take (i := 4) (oi := { dst := some 69, op := Op.move (Operand.tmp 8), type := _, pos := _, after := _, guard := _ }) (v := .string S) rfl (by kernel_rfl) (by kernel_rfl) (by kernel_rfl) (fun _ _ _ h => h) (Or.inl ⟨by rfl, fun V (hV : wr.grownBy V none) => by go_simp⟩) h0 ?_
            (try simp only [Act.put, List.setIfInBounds_toArray, List.set_cons_zero, List.set_cons_succ])
            refine wpAnyH_take (i := 5) (oi := { dst := some 70, op := Op.move (Operand.tmp 9), type := _, pos := _, after := _, guard := _ }) (v := .int .i64 (p : Int)) rfl (by kernel_rfl) (by kernel_rfl) (by kernel_rfl) (fun _ _ _ h => h) (Or.inl ⟨by rfl, fun V (hV : wr.grownBy V none) => by go_simp⟩) h0 ?_
            (try simp only [Act.put, List.setIfInBounds_toArray, List.set_cons_zero, List.set_cons_succ])
            refine wpAnyH_ready (rs := [6]) (by kernel_rfl) (by simp) ?_
            refine AllReadyH.cons (o := { dst := some 71, op := Op.call { callee := Callee.value (Operand.func 8), args := #[(Operand.tmp 69), (Operand.tmp 70)], argTypes := #[9, 3] }, type := _, pos := _, after := _, guard := _ }) rfl (fun K9 hK9 => ?_) AllReadyH.nil
            go_simp
            go_at_call 8
            refine (cb9 _).mono ?_
            rintro e w7 ⟨rfl, g7⟩
            go_wp2_with fail
            refine hK9.out _ _ (tn h0 g7) (fun _ => ?_)
            clear hK9 K9
            (try simp only [Act.put, List.setIfInBounds_toArray, List.set_cons_zero, List.set_cons_succ])
            refine wpAnyH_take (i := 7) (oi := { dst := some 72, op := Op.binOp BinOp.neq 5 (Operand.tmp 68) (Operand.tmp 71) 5, type := _, pos := _, after := _, guard := _ }) (v := .bool false) rfl (by kernel_rfl) (by kernel_rfl) (by kernel_rfl) (fun _ _ _ h => h) (Or.inl ⟨by rfl, fun V (hV : wr.grownBy V none) => by go_simp⟩) (tn h0 g7) ?_
            (try simp only [Act.put, List.setIfInBounds_toArray, List.set_cons_zero, List.set_cons_succ])
            refine wpAnyH_done (by kernel_rfl) ?_ _
            refine NoPanic.normal ?_
            have G7 := tn (tn hg4 h0) g7
            go_wp2
            go_roundw
            case rel => exact ⟨j + 1, by omega, by go_num, by first | rw [← unhide HP1] | rw [unhide HP1], G7⟩
            case measure => simp [intOf]; omega
          · obtain rfl : j = m := by omega
            have cus9 := used_any wr bs T (us + j) (hS4.kept hg4 (by simp))
            have hS9 := hS4.kept hg4 (by simp)
            have G9 := tn G4 hg4
            have hjn : ¬ (j : Int) < (j : Int) := by omega
            obtain ⟨p, hp⟩ : ∃ p, p = us + j := ⟨_, rfl⟩
            rw [← hp] at cus9 hS9 ⊢
            have hpb : p ≤ 300 * (k + 1) := by omega
            clear hX4 hS4 hp
            go_upto_region 21 with fail
            refine region_named fun O hO => ?_
            refine wpList_val (by rw [hO]; kernel_rfl) (.pointer (some ⟨bs, 0, none⟩)) (fun K9 hK9 => by go_simp; exact hK9) ?_
            (try simp only [Act.put, List.setIfInBounds_toArray, List.set_cons_zero, List.set_cons_succ])
            refine wpList_want (by rw [hO]; kernel_rfl) fun K9 hK9 => ?_
            go_simp
            go_at_call 9
            refine (cus9).mono ?_
            rintro e w8 ⟨rfl, rfl⟩
            refine hK9 _ _ ?_
            clear hK9 K9
            (try simp only [Act.put, List.setIfInBounds_toArray, List.set_cons_zero, List.set_cons_succ])
            refine wpList_val (by rw [hO]; kernel_rfl) (.int .i64 (p : Int)) (fun K9 hK9 => by go_simp; exact hK9) ?_
            (try simp only [Act.put, List.setIfInBounds_toArray, List.set_cons_zero, List.set_cons_succ])
            refine wpList_val (by rw [hO]; kernel_rfl) (.bool false) (fun K9 hK9 => by go_simp; exact hK9) ?_
            (try simp only [Act.put, List.setIfInBounds_toArray, List.set_cons_zero, List.set_cons_succ])
            go_wp2
            go_roundw
            case rel => exact ⟨k + 1, p, by omega, by omega, hpb, by go_num, rfl, hS9, G9⟩
            case measure => simp [intOf]; omega
      · by_cases hneg : n < 0
        · obtain ⟨nn, hnn⟩ : ∃ nn, nn = n := ⟨_, rfl⟩
          rw [← hnn] at hcr h300 hneg
          obtain ⟨m, hm⟩ : ∃ m, m = nn.toNat := ⟨_, rfl⟩
          have hmax : max nn 0 = (m : Int) := by omega
          have hm3 : m ≤ 300 := by omega
          have HM := hide hm
          clear hnn hm
          go_upto_region 12 with fail
          refine region_named fun O hO => ?_
          refine wpList_val (by rw [hO]; kernel_rfl) (.pointer (some ⟨bs, 0, none⟩)) (fun K9 hK9 => by go_simp; exact hK9) ?_
          (try simp only [Act.put, List.setIfInBounds_toArray, List.set_cons_zero, List.set_cons_succ])
          refine wpList_val (by rw [hO]; kernel_rfl) (.int .i64 nn) (fun K9 hK9 => by go_simp; exact hK9) ?_
          (try simp only [Act.put, List.setIfInBounds_toArray, List.set_cons_zero, List.set_cons_succ])
          refine wpList_want (by rw [hO]; kernel_rfl) fun K9 hK9 => ?_
          go_simp
          go_at_call 7
          refine (ctk _ _ _ nn m (unhide HM) hg hSr (by omega) (by omega)).mono ?_
          rintro e w4 ⟨xo, xc, rfl, hX4, hS4, g4⟩
          have G4 := ts hws hg g4
          clear hSr hg g4
          refine hK9 _ _ ?_
          clear hK9 K9
          (try simp only [Act.put, List.setIfInBounds_toArray, List.set_cons_zero, List.set_cons_succ])
          refine wpList_val (by rw [hO]; kernel_rfl) (.slice xo m xc) (fun K9 hK9 => by go_simp; exact hK9) ?_
          (try simp only [Act.put, List.setIfInBounds_toArray, List.set_cons_zero, List.set_cons_succ])
          go_wp2
          go_loopw [9, 13] (fun a9 k13 wr => ∃ j : Nat, j ≤ m ∧ k13 = .int .i64 j ∧ a9 = .int .i64 ((us + j : Nat) : Int) ∧ w4.grownBy wr none) (fun _ k13 _ => m - (intOf k13).toNat)
          case atStart => exact ⟨0, Nat.zero_le _, rfl, rfl, gb_refl _ _⟩
          case round =>
            obtain ⟨j, hj, rfl, rfl, hg4⟩ := hrel
            by_cases hlt : j < m
            · obtain ⟨xb, xf, rfl, hcx⟩ := bts_at hX4.bts j (by rw [told_length]; exact hlt)
              rw [told_at] at hcx
              obtain ⟨p, hp⟩ : ∃ p, p = us + j := ⟨_, rfl⟩
              rw [← hp] at hcx ⊢
              have hcr := hg4.cell hcx (by simp)
              obtain ⟨z, hz⟩ : ∃ z, z = (((tell T p).toNat : Nat) : Int) := ⟨_, rfl⟩
              have cb9 : ∀ V, Calls Tryd.prog 8 #[.string S, .int .i64 (p : Int)] V fun e w' => e = .returned (.int .u8 z) ∧ V.grownBy w' none := fun V => by
                have := cby V p (by omega)
                rw [hz]; exact this
              rw [← hz] at hcr
              have h0 : wr.grownBy wr.drew none := gb_drew (gb_refl _ _)
              have hjm : (j : Int) < (m : Int) := by omega
              have hj0 : (0 : Int) ≤ (j : Int) := by omega
              have hp1 : (p : Int) + 1 = ((us + (j + 1) : Nat) : Int) := by omega
              have hwp : IntKind.i64.wrap ((p : Int) + 1) = (p : Int) + 1 := by rw [IntKind.wrap_i64]; omega
              have HP1 := hide hp1
              clear hcx hz hp hp1
              go_upto_region 18 with fail
              refine wp_region_noPanic ?_
              refine wp_region_held_drew (S := fun V => wr.grownBy V none) (by kernel_rfl) h0 (fun _ => ?_)
              refine wpAnyH_take (i := 0) (oi := { dst := some 65, op := Op.move (Operand.tmp 12), type := _, pos := _, after := _, guard := _ }) (v := .slice (some ⟨xb, xf, none⟩) m xc) rfl (by kernel_rfl) (by kernel_rfl) (by kernel_rfl) (fun _ _ _ h => h) (Or.inl ⟨by rfl, fun V (hV : wr.grownBy V none) => by go_simp⟩) h0 ?_
              (try simp only [Act.put, List.setIfInBounds_toArray, List.set_cons_zero, List.set_cons_succ])
              refine wpAnyH_take (i := 1) (oi := { dst := some 66, op := Op.move (Operand.tmp 13), type := _, pos := _, after := _, guard := _ }) (v := .int .i64 (j : Int)) rfl (by kernel_rfl) (by kernel_rfl) (by kernel_rfl) (fun _ _ _ h => h) (Or.inl ⟨by rfl, fun V (hV : wr.grownBy V none) => by go_simp⟩) h0 ?_
              (try simp only [Act.put, List.setIfInBounds_toArray, List.set_cons_zero, List.set_cons_succ])
              refine wpAnyH_take (i := 2) (oi := { dst := some 67, op := Op.indexAddr 22 (Operand.tmp 65) (Operand.tmp 66), type := _, pos := _, after := _, guard := _ }) (v := .pointer (some ⟨xb, xf + j, none⟩)) rfl (by kernel_rfl) (by kernel_rfl) (by kernel_rfl) (fun _ _ _ h => h) (Or.inl ⟨by rfl, fun V (hV : wr.grownBy V none) => by go_simp⟩) h0 ?_
              (try simp only [Act.put, List.setIfInBounds_toArray, List.set_cons_zero, List.set_cons_succ])
              refine wpAnyH_take (i := 3) (oi := { dst := some 68, op := Op.load 5 (Operand.tmp 67), type := _, pos := _, after := _, guard := _ }) (v := .int .u8 z) rfl (by kernel_rfl) (by kernel_rfl) (by kernel_rfl) (fun _ _ _ h => h) (Or.inl ⟨by rfl, fun V (hV : wr.grownBy V none) => by (have hv1 := hV.cell hcr (by simp); go_simp)⟩) h0 ?_
              (try simp only [Act.put, List.setIfInBounds_toArray, List.set_cons_zero, List.set_cons_succ])
              refine wpAnyH_take (i := 4) (oi := { dst := some 69, op := Op.move (Operand.tmp 8), type := _, pos := _, after := _, guard := _ }) (v := .string S) rfl (by kernel_rfl) (by kernel_rfl) (by kernel_rfl) (fun _ _ _ h => h) (Or.inl ⟨by rfl, fun V (hV : wr.grownBy V none) => by go_simp⟩) h0 ?_
              (try simp only [Act.put, List.setIfInBounds_toArray, List.set_cons_zero, List.set_cons_succ])
              refine wpAnyH_take (i := 5) (oi := { dst := some 70, op := Op.move (Operand.tmp 9), type := _, pos := _, after := _, guard := _ }) (v := .int .i64 (p : Int)) rfl (by kernel_rfl) (by kernel_rfl) (by kernel_rfl) (fun _ _ _ h => h) (Or.inl ⟨by rfl, fun V (hV : wr.grownBy V none) => by go_simp⟩) h0 ?_
              (try simp only [Act.put, List.setIfInBounds_toArray, List.set_cons_zero, List.set_cons_succ])
              refine wpAnyH_ready (rs := [6]) (by kernel_rfl) (by simp) ?_
              refine AllReadyH.cons (o := { dst := some 71, op := Op.call { callee := Callee.value (Operand.func 8), args := #[(Operand.tmp 69), (Operand.tmp 70)], argTypes := #[9, 3] }, type := _, pos := _, after := _, guard := _ }) rfl (fun K9 hK9 => ?_) AllReadyH.nil
              go_simp
              go_at_call 8
              refine (cb9 _).mono ?_
              rintro e w7 ⟨rfl, g7⟩
              go_wp2_with fail
              refine hK9.out _ _ (tn h0 g7) (fun _ => ?_)
              clear hK9 K9
              (try simp only [Act.put, List.setIfInBounds_toArray, List.set_cons_zero, List.set_cons_succ])
              refine wpAnyH_take (i := 7) (oi := { dst := some 72, op := Op.binOp BinOp.neq 5 (Operand.tmp 68) (Operand.tmp 71) 5, type := _, pos := _, after := _, guard := _ }) (v := .bool false) rfl (by kernel_rfl) (by kernel_rfl) (by kernel_rfl) (fun _ _ _ h => h) (Or.inl ⟨by rfl, fun V (hV : wr.grownBy V none) => by go_simp⟩) (tn h0 g7) ?_
              (try simp only [Act.put, List.setIfInBounds_toArray, List.set_cons_zero, List.set_cons_succ])
              refine wpAnyH_done (by kernel_rfl) ?_ _
              refine NoPanic.normal ?_
              have G7 := tn (tn hg4 h0) g7
              go_wp2
              go_roundw
              case rel => exact ⟨j + 1, by omega, by go_num, by first | rw [← unhide HP1] | rw [unhide HP1], G7⟩
              case measure => simp [intOf]; omega
            · obtain rfl : j = m := by omega
              have cus9 := used_any wr bs T (us + j) (hS4.kept hg4 (by simp))
              have hS9 := hS4.kept hg4 (by simp)
              have G9 := tn G4 hg4
              have hjn : ¬ (j : Int) < (j : Int) := by omega
              obtain ⟨p, hp⟩ : ∃ p, p = us + j := ⟨_, rfl⟩
              rw [← hp] at cus9 hS9 ⊢
              have hpb : p ≤ 300 * (k + 1) := by omega
              clear hX4 hS4 hp
              go_upto_region 21 with fail
              refine region_named fun O hO => ?_
              refine wpList_val (by rw [hO]; kernel_rfl) (.pointer (some ⟨bs, 0, none⟩)) (fun K9 hK9 => by go_simp; exact hK9) ?_
              (try simp only [Act.put, List.setIfInBounds_toArray, List.set_cons_zero, List.set_cons_succ])
              refine wpList_want (by rw [hO]; kernel_rfl) fun K9 hK9 => ?_
              go_simp
              go_at_call 9
              refine (cus9).mono ?_
              rintro e w8 ⟨rfl, rfl⟩
              refine hK9 _ _ ?_
              clear hK9 K9
              (try simp only [Act.put, List.setIfInBounds_toArray, List.set_cons_zero, List.set_cons_succ])
              refine wpList_val (by rw [hO]; kernel_rfl) (.int .i64 (p : Int)) (fun K9 hK9 => by go_simp; exact hK9) ?_
              (try simp only [Act.put, List.setIfInBounds_toArray, List.set_cons_zero, List.set_cons_succ])
              refine wpList_val (by rw [hO]; kernel_rfl) (.bool false) (fun K9 hK9 => by go_simp; exact hK9) ?_
              (try simp only [Act.put, List.setIfInBounds_toArray, List.set_cons_zero, List.set_cons_succ])
              go_wp2
              go_roundw
              case rel => exact ⟨k + 1, p, by omega, by omega, hpb, by go_num, rfl, hS9, G9⟩
              case measure => simp [intOf]; omega
        · obtain ⟨m, hm⟩ : ∃ m : Nat, n = (m : Int) := ⟨n.toNat, by omega⟩
          rw [hm] at hcr h300
          have hm3 : m ≤ 300 := by omega
          have hmi : ¬ (300 : Int) < (m : Int) := by omega
          clear hm hneg h300
          go_upto_region 12 with fail
          refine region_named fun O hO => ?_
          refine wpList_val (by rw [hO]; kernel_rfl) (.pointer (some ⟨bs, 0, none⟩)) (fun K9 hK9 => by go_simp; exact hK9) ?_
          (try simp only [Act.put, List.setIfInBounds_toArray, List.set_cons_zero, List.set_cons_succ])
          refine wpList_val (by rw [hO]; kernel_rfl) (.int .i64 (m : Int)) (fun K9 hK9 => by go_simp; exact hK9) ?_
          (try simp only [Act.put, List.setIfInBounds_toArray, List.set_cons_zero, List.set_cons_succ])
          refine wpList_want (by rw [hO]; kernel_rfl) fun K9 hK9 => ?_
          go_simp
          go_at_call 7
          refine (ctk _ _ _ (m : Int) m (by simp) hg hSr (by omega) (by omega)).mono ?_
          rintro e w4 ⟨xo, xc, rfl, hX4, hS4, g4⟩
          have G4 := ts hws hg g4
          clear hSr hg g4
          refine hK9 _ _ ?_
          clear hK9 K9
          (try simp only [Act.put, List.setIfInBounds_toArray, List.set_cons_zero, List.set_cons_succ])
          refine wpList_val (by rw [hO]; kernel_rfl) (.slice xo m xc) (fun K9 hK9 => by go_simp; exact hK9) ?_
          (try simp only [Act.put, List.setIfInBounds_toArray, List.set_cons_zero, List.set_cons_succ])
          go_wp2
          go_loopw [9, 13] (fun a9 k13 wr => ∃ j : Nat, j ≤ m ∧ k13 = .int .i64 j ∧ a9 = .int .i64 ((us + j : Nat) : Int) ∧ w4.grownBy wr none) (fun _ k13 _ => m - (intOf k13).toNat)
          case atStart => exact ⟨0, Nat.zero_le _, rfl, rfl, gb_refl _ _⟩
          case round =>
            obtain ⟨j, hj, rfl, rfl, hg4⟩ := hrel
            by_cases hlt : j < m
            · obtain ⟨xb, xf, rfl, hcx⟩ := bts_at hX4.bts j (by rw [told_length]; exact hlt)
              rw [told_at] at hcx
              obtain ⟨p, hp⟩ : ∃ p, p = us + j := ⟨_, rfl⟩
              rw [← hp] at hcx ⊢
              have hcr := hg4.cell hcx (by simp)
              obtain ⟨z, hz⟩ : ∃ z, z = (((tell T p).toNat : Nat) : Int) := ⟨_, rfl⟩
              have cb9 : ∀ V, Calls Tryd.prog 8 #[.string S, .int .i64 (p : Int)] V fun e w' => e = .returned (.int .u8 z) ∧ V.grownBy w' none := fun V => by
                have := cby V p (by omega)
                rw [hz]; exact this
              rw [← hz] at hcr
              have h0 : wr.grownBy wr.drew none := gb_drew (gb_refl _ _)
              have hjm : (j : Int) < (m : Int) := by omega
              have hj0 : (0 : Int) ≤ (j : Int) := by omega
              have hp1 : (p : Int) + 1 = ((us + (j + 1) : Nat) : Int) := by omega
              have hwp : IntKind.i64.wrap ((p : Int) + 1) = (p : Int) + 1 := by rw [IntKind.wrap_i64]; omega
              have HP1 := hide hp1
              clear hcx hz hp hp1
              go_upto_region 18 with fail
              refine wp_region_noPanic ?_
              refine wp_region_held_drew (S := fun V => wr.grownBy V none) (by kernel_rfl) h0 (fun _ => ?_)
              refine wpAnyH_take (i := 0) (oi := { dst := some 65, op := Op.move (Operand.tmp 12), type := _, pos := _, after := _, guard := _ }) (v := .slice (some ⟨xb, xf, none⟩) m xc) rfl (by kernel_rfl) (by kernel_rfl) (by kernel_rfl) (fun _ _ _ h => h) (Or.inl ⟨by rfl, fun V (hV : wr.grownBy V none) => by go_simp⟩) h0 ?_
              (try simp only [Act.put, List.setIfInBounds_toArray, List.set_cons_zero, List.set_cons_succ])
              refine wpAnyH_take (i := 1) (oi := { dst := some 66, op := Op.move (Operand.tmp 13), type := _, pos := _, after := _, guard := _ }) (v := .int .i64 (j : Int)) rfl (by kernel_rfl) (by kernel_rfl) (by kernel_rfl) (fun _ _ _ h => h) (Or.inl ⟨by rfl, fun V (hV : wr.grownBy V none) => by go_simp⟩) h0 ?_
              (try simp only [Act.put, List.setIfInBounds_toArray, List.set_cons_zero, List.set_cons_succ])
              refine wpAnyH_take (i := 2) (oi := { dst := some 67, op := Op.indexAddr 22 (Operand.tmp 65) (Operand.tmp 66), type := _, pos := _, after := _, guard := _ }) (v := .pointer (some ⟨xb, xf + j, none⟩)) rfl (by kernel_rfl) (by kernel_rfl) (by kernel_rfl) (fun _ _ _ h => h) (Or.inl ⟨by rfl, fun V (hV : wr.grownBy V none) => by go_simp⟩) h0 ?_
              (try simp only [Act.put, List.setIfInBounds_toArray, List.set_cons_zero, List.set_cons_succ])
              refine wpAnyH_take (i := 3) (oi := { dst := some 68, op := Op.load 5 (Operand.tmp 67), type := _, pos := _, after := _, guard := _ }) (v := .int .u8 z) rfl (by kernel_rfl) (by kernel_rfl) (by kernel_rfl) (fun _ _ _ h => h) (Or.inl ⟨by rfl, fun V (hV : wr.grownBy V none) => by (have hv1 := hV.cell hcr (by simp); go_simp)⟩) h0 ?_
              (try simp only [Act.put, List.setIfInBounds_toArray, List.set_cons_zero, List.set_cons_succ])
              refine wpAnyH_take (i := 4) (oi := { dst := some 69, op := Op.move (Operand.tmp 8), type := _, pos := _, after := _, guard := _ }) (v := .string S) rfl (by kernel_rfl) (by kernel_rfl) (by kernel_rfl) (fun _ _ _ h => h) (Or.inl ⟨by rfl, fun V (hV : wr.grownBy V none) => by go_simp⟩) h0 ?_
              (try simp only [Act.put, List.setIfInBounds_toArray, List.set_cons_zero, List.set_cons_succ])
              refine wpAnyH_take (i := 5) (oi := { dst := some 70, op := Op.move (Operand.tmp 9), type := _, pos := _, after := _, guard := _ }) (v := .int .i64 (p : Int)) rfl (by kernel_rfl) (by kernel_rfl) (by kernel_rfl) (fun _ _ _ h => h) (Or.inl ⟨by rfl, fun V (hV : wr.grownBy V none) => by go_simp⟩) h0 ?_
              (try simp only [Act.put, List.setIfInBounds_toArray, List.set_cons_zero, List.set_cons_succ])
              refine wpAnyH_ready (rs := [6]) (by kernel_rfl) (by simp) ?_
              refine AllReadyH.cons (o := { dst := some 71, op := Op.call { callee := Callee.value (Operand.func 8), args := #[(Operand.tmp 69), (Operand.tmp 70)], argTypes := #[9, 3] }, type := _, pos := _, after := _, guard := _ }) rfl (fun K9 hK9 => ?_) AllReadyH.nil
              go_simp
              go_at_call 8
              refine (cb9 _).mono ?_
              rintro e w7 ⟨rfl, g7⟩
              go_wp2_with fail
              refine hK9.out _ _ (tn h0 g7) (fun _ => ?_)
              clear hK9 K9
              (try simp only [Act.put, List.setIfInBounds_toArray, List.set_cons_zero, List.set_cons_succ])
              refine wpAnyH_take (i := 7) (oi := { dst := some 72, op := Op.binOp BinOp.neq 5 (Operand.tmp 68) (Operand.tmp 71) 5, type := _, pos := _, after := _, guard := _ }) (v := .bool false) rfl (by kernel_rfl) (by kernel_rfl) (by kernel_rfl) (fun _ _ _ h => h) (Or.inl ⟨by rfl, fun V (hV : wr.grownBy V none) => by go_simp⟩) (tn h0 g7) ?_
              (try simp only [Act.put, List.setIfInBounds_toArray, List.set_cons_zero, List.set_cons_succ])
              refine wpAnyH_done (by kernel_rfl) ?_ _
              refine NoPanic.normal ?_
              have G7 := tn (tn hg4 h0) g7
              go_wp2
              go_roundw
              case rel => exact ⟨j + 1, by omega, by go_num, by first | rw [← unhide HP1] | rw [unhide HP1], G7⟩
              case measure => simp [intOf]; omega
            · obtain rfl : j = m := by omega
              have cus9 := used_any wr bs T (us + j) (hS4.kept hg4 (by simp))
              have hS9 := hS4.kept hg4 (by simp)
              have G9 := tn G4 hg4
              have hjn : ¬ (j : Int) < (j : Int) := by omega
              obtain ⟨p, hp⟩ : ∃ p, p = us + j := ⟨_, rfl⟩
              rw [← hp] at cus9 hS9 ⊢
              have hpb : p ≤ 300 * (k + 1) := by omega
              clear hX4 hS4 hp
              go_upto_region 21 with fail
              refine region_named fun O hO => ?_
              refine wpList_val (by rw [hO]; kernel_rfl) (.pointer (some ⟨bs, 0, none⟩)) (fun K9 hK9 => by go_simp; exact hK9) ?_
              (try simp only [Act.put, List.setIfInBounds_toArray, List.set_cons_zero, List.set_cons_succ])
              refine wpList_want (by rw [hO]; kernel_rfl) fun K9 hK9 => ?_
              go_simp
              go_at_call 9
              refine (cus9).mono ?_
              rintro e w8 ⟨rfl, rfl⟩
              refine hK9 _ _ ?_
              clear hK9 K9
              (try simp only [Act.put, List.setIfInBounds_toArray, List.set_cons_zero, List.set_cons_succ])
              refine wpList_val (by rw [hO]; kernel_rfl) (.int .i64 (p : Int)) (fun K9 hK9 => by go_simp; exact hK9) ?_
              (try simp only [Act.put, List.setIfInBounds_toArray, List.set_cons_zero, List.set_cons_succ])
              refine wpList_val (by rw [hO]; kernel_rfl) (.bool false) (fun K9 hK9 => by go_simp; exact hK9) ?_
              (try simp only [Act.put, List.setIfInBounds_toArray, List.set_cons_zero, List.set_cons_succ])
              go_wp2
              go_roundw
              case rel => exact ⟨k + 1, p, by omega, by omega, hpb, by go_num, rfl, hS9, G9⟩
              case measure => simp [intOf]; omega
    · go_upto_region 7 with fail
      go_cut [40] (fun x40 wx => x40 = .bool false ∧ wx = wr)
      case first =>
        by_cases h1 : k < q
        · have h1i : (k : Int) < (q : Int) := by omega
          have h2i : ¬ (k : Int) < 20 := by omega
          go_wp2
          go_meet
          case rel => exact ⟨rfl, rfl⟩
        · have h1i : ¬ (k : Int) < (q : Int) := by omega
          go_wp2
          go_meet
          case rel => exact ⟨rfl, rfl⟩
      case rest =>
        obtain ⟨rfl, hwc⟩ := hcut
        rw [hwc]
        have hT' := unhide HT
        obtain ⟨KV, hKV⟩ : ∃ l, l = told T us 32 := ⟨_, rfl⟩
        have hKl : KV.length = 32 := by rw [hKV]; exact told_length _ _ _
        have cky := key_any wr bs T us hSr.fit (hT'.kept0 hg) (by omega)
        rw [← hKV] at cky
        have hsk : ((KV.map bv).toArray).size = 32 := by simp [hKl]
        have hzv := zero_key
        obtain ⟨Z, hZ⟩ : ∃ Z : List Value, Z = (List.replicate 32 (0 : UInt8)).map bv := ⟨_, rfl⟩
        rw [← hZ] at hzv
        have hsz : Z.toArray.size = 32 := by rw [hZ]; rfl
        have HSK := hide hsk
        have HSZ := hide hsz
        have HKV := hide hKV
        have HKL := hide hKl
        have hus6 : us ≤ 6000 := by omega
        clear hgo hwc hSr hsk hsz hZ hKV hKl hT' ctk HL HQ
        go_upto_region 23 with fail
        refine region_named fun O hO => ?_
        refine wpList_val (by rw [hO]; kernel_rfl) (.pointer (some ⟨bs, 0, none⟩)) (fun K9 hK9 => by go_simp; exact hK9) ?_
        (try simp only [Act.put, List.setIfInBounds_toArray, List.set_cons_zero, List.set_cons_succ])
        refine wpList_want (by rw [hO]; kernel_rfl) fun K9 hK9 => ?_
        go_simp
        go_at_call 10
        refine (cky).mono ?_
        rintro e w5 ⟨rfl, hS5, g5⟩
        have G5 := ts hws hg g5
        refine hK9 _ _ ?_
        clear hK9 K9
        (try simp only [Act.put, List.setIfInBounds_toArray, List.set_cons_zero, List.set_cons_succ])
        refine wpList_want (by rw [hO]; kernel_rfl) fun K9 hK9 => ?_
        go_simp
        refine hK9 _ _ ?_
        clear hK9 K9
        (try simp only [Act.put, List.setIfInBounds_toArray, List.set_cons_zero, List.set_cons_succ])
        obtain ⟨Wk, hWk, hBk, gk⟩ := alloc_keyZ w5 Z
        rw [← hWk]
        clear hWk
        refine wpList_store_row rfl 30 _ _ rfl w5.heap.size _ rfl rfl _ _ hBk (by rw [unhide HSK]; exact info_key) (by rw [unhide HSK, unhide HSZ]) (all_oneCell_toArray (bv_one _)) ?_
        have hB6 := hBk.row (KV.map bv)
        have G6 : w.grownBy (Wk.setRow w5.heap.size (KV.map bv).toArray) none := gb_row (tn G5 gk) _ (Or.inl G5.size)
        obtain ⟨w6, hW6⟩ : ∃ w6, w6 = Wk.setRow w5.heap.size (KV.map bv).toArray := ⟨_, rfl⟩
        rw [← hW6] at hB6 G6 ⊢
        clear hW6 hBk gk hS5 g5
        (try simp only [Act.put])
        clear hzv
        go_wp2
        go_loopw [15] (fun i15 wr => ∃ j : Nat, j ≤ 32 ∧ i15 = .int .i64 j ∧ w6.grownBy wr none) (fun i15 _ => 32 - (intOf i15).toNat)
        case atStart => exact ⟨0, Nat.zero_le _, rfl, gb_refl _ _⟩
        case round =>
          obtain ⟨j, hj, rfl, hg6⟩ := hrel
          by_cases hlt : j < 32
          · have hjK : j < KV.length := by rw [unhide HKL]; exact hlt
            have hcx : w6.cell? ⟨w5.heap.size, j, none⟩ = some (bv (tell T (us + j))) := by
              rw [hB6.cell, List.getElem?_map, List.getElem?_eq_getElem hjK]
              have h9 : KV[j] = tell T (us + j) := by
                have h8 : ∀ (l : List UInt8) (h : j < l.length), l = told T us 32 → l[j] = tell T (us + j) := fun l h e => by subst e; exact told_at T us 32 j h
                exact h8 KV hjK (unhide HKV)
              rw [h9]; rfl
            obtain ⟨p, hp⟩ : ∃ p, p = us + j := ⟨_, rfl⟩
            rw [← hp] at hcx
            have hcr : wr.cell? ⟨w5.heap.size, j, none⟩ = some (.int .u8 (((tell T p).toNat : Nat) : Int)) := hg6.cell hcx (by simp)
            obtain ⟨z, hz⟩ : ∃ z, z = (((tell T p).toNat : Nat) : Int) := ⟨_, rfl⟩
            have cb9 : ∀ V, Calls Tryd.prog 8 #[.string S, .int .i64 (p : Int)] V fun e w' => e = .returned (.int .u8 z) ∧ V.grownBy w' none := fun V => by
              have := cby V p (by omega)
              rw [hz]; exact this
            rw [← hz] at hcr
            have h0 : wr.grownBy wr.drew none := gb_drew (gb_refl _ _)
            have hji : (j : Int) < 32 := by omega
            have hj0 : (0 : Int) ≤ (j : Int) := by omega
            have hpi : (us : Int) + (j : Int) = (p : Int) := by omega
            have hwp : IntKind.i64.wrap (p : Int) = (p : Int) := by rw [IntKind.wrap_i64]; omega
            clear hcx hz hp
            go_upto_region 27 with fail
            refine wp_region_noPanic ?_
            refine wp_region_held_drew (S := fun V => wr.grownBy V none) (by kernel_rfl) h0 (fun _ => ?_)
            refine wpAnyH_take (i := 0) (oi := { dst := some 85, op := Op.move (Operand.tmp 15), type := _, pos := _, after := _, guard := _ }) (v := .int .i64 (j : Int)) rfl (by kernel_rfl) (by kernel_rfl) (by kernel_rfl) (fun _ _ _ h => h) (Or.inl ⟨by rfl, fun V (hV : wr.grownBy V none) => by go_simp⟩) h0 ?_
            (try simp only [Act.put, List.setIfInBounds_toArray, List.set_cons_zero, List.set_cons_succ])
            refine wpAnyH_take (i := 1) (oi := { dst := some 86, op := Op.indexAddr 30 (Operand.tmp 14) (Operand.tmp 85), type := _, pos := _, after := _, guard := _ }) (v := .pointer (some ⟨w5.heap.size, j, none⟩)) rfl (by kernel_rfl) (by kernel_rfl) (by kernel_rfl) (fun _ _ _ h => h) (Or.inl ⟨by rfl, fun V (hV : wr.grownBy V none) => by go_simp⟩) h0 ?_
            (try simp only [Act.put, List.setIfInBounds_toArray, List.set_cons_zero, List.set_cons_succ])
            refine wpAnyH_take (i := 2) (oi := { dst := some 87, op := Op.load 5 (Operand.tmp 86), type := _, pos := _, after := _, guard := _ }) (v := .int .u8 z) rfl (by kernel_rfl) (by kernel_rfl) (by kernel_rfl) (fun _ _ _ h => h) (Or.inl ⟨by rfl, fun V (hV : wr.grownBy V none) => by (have hv1 := hV.cell hcr (by simp); go_simp)⟩) h0 ?_
            (try simp only [Act.put, List.setIfInBounds_toArray, List.set_cons_zero, List.set_cons_succ])
            refine wpAnyH_take (i := 3) (oi := { dst := some 88, op := Op.move (Operand.tmp 8), type := _, pos := _, after := _, guard := _ }) (v := .string S) rfl (by kernel_rfl) (by kernel_rfl) (by kernel_rfl) (fun _ _ _ h => h) (Or.inl ⟨by rfl, fun V (hV : wr.grownBy V none) => by go_simp⟩) h0 ?_
            (try simp only [Act.put, List.setIfInBounds_toArray, List.set_cons_zero, List.set_cons_succ])
            refine wpAnyH_take (i := 4) (oi := { dst := some 89, op := Op.move (Operand.tmp 9), type := _, pos := _, after := _, guard := _ }) (v := .int .i64 (us : Int)) rfl (by kernel_rfl) (by kernel_rfl) (by kernel_rfl) (fun _ _ _ h => h) (Or.inl ⟨by rfl, fun V (hV : wr.grownBy V none) => by go_simp⟩) h0 ?_
            (try simp only [Act.put, List.setIfInBounds_toArray, List.set_cons_zero, List.set_cons_succ])
            refine wpAnyH_take (i := 5) (oi := { dst := some 90, op := Op.move (Operand.tmp 15), type := _, pos := _, after := _, guard := _ }) (v := .int .i64 (j : Int)) rfl (by kernel_rfl) (by kernel_rfl) (by kernel_rfl) (fun _ _ _ h => h) (Or.inl ⟨by rfl, fun V (hV : wr.grownBy V none) => by go_simp⟩) h0 ?_
            (try simp only [Act.put, List.setIfInBounds_toArray, List.set_cons_zero, List.set_cons_succ])
            refine wpAnyH_take (i := 6) (oi := { dst := some 91, op := Op.binOp BinOp.add 3 (Operand.tmp 89) (Operand.tmp 90) 3, type := _, pos := _, after := _, guard := _ }) (v := .int .i64 (p : Int)) rfl (by kernel_rfl) (by kernel_rfl) (by kernel_rfl) (fun _ _ _ h => h) (Or.inl ⟨by rfl, fun V (hV : wr.grownBy V none) => by go_simp⟩) h0 ?_
            (try simp only [Act.put, List.setIfInBounds_toArray, List.set_cons_zero, List.set_cons_succ])
            refine wpAnyH_ready (rs := [7]) (by kernel_rfl) (by simp) ?_
            refine AllReadyH.cons (o := { dst := some 92, op := Op.call { callee := Callee.value (Operand.func 8), args := #[(Operand.tmp 88), (Operand.tmp 91)], argTypes := #[9, 3] }, type := _, pos := _, after := _, guard := _ }) rfl (fun K9 hK9 => ?_) AllReadyH.nil
            go_simp
            go_at_call 8
            refine (cb9 _).mono ?_
            rintro e w7 ⟨rfl, g7⟩
            go_wp2_with fail
            refine hK9.out _ _ (tn h0 g7) (fun _ => ?_)
            clear hK9 K9
            (try simp only [Act.put, List.setIfInBounds_toArray, List.set_cons_zero, List.set_cons_succ])
            refine wpAnyH_take (i := 8) (oi := { dst := some 93, op := Op.binOp BinOp.neq 5 (Operand.tmp 87) (Operand.tmp 92) 5, type := _, pos := _, after := _, guard := _ }) (v := .bool false) rfl (by kernel_rfl) (by kernel_rfl) (by kernel_rfl) (fun _ _ _ h => h) (Or.inl ⟨by rfl, fun V (hV : wr.grownBy V none) => by go_simp⟩) (tn h0 g7) ?_
            (try simp only [Act.put, List.setIfInBounds_toArray, List.set_cons_zero, List.set_cons_succ])
            refine wpAnyH_done (by kernel_rfl) ?_ _
            refine NoPanic.normal ?_
            have G7 := tn (tn hg6 h0) g7
            go_wp2
            go_roundw
            case rel => exact ⟨j + 1, by omega, by go_num, G7⟩
            case measure => simp [intOf]; omega
          · obtain rfl : j = 32 := by omega
            have G9 := tn G6 hg6
            have cone := done_any wr ((unhide HT).kept0 G9)
            clear hB6
            go_wp2_with (go_at_call 11; refine cone.mono ?_; rintro e w9 ⟨rfl, g9⟩)
            go_ret
            exact ⟨rfl, tn G9 g9⟩

theorem drawsTell_any (w : World) (ao : Option Addr) (ca : Nat) (A : List UInt8) (ha : Bts w ao ca A) (bo : Option Addr) (cb : Nat) (B : List UInt8) (hb : Bts w bo cb B) (no : Option Addr) (cn : Nat) (L : List Int) (hL : Nts w no cn L) (hT : Tabs w) :
    Calls Tryd.prog 3 #[.slice ao A.length ca, .slice bo B.length cb, .slice no L.length cn] w fun e w' => e = .returned (.bool true) ∧ w.grownBy w' none := by
  by_cases h : A.length ≤ 200 ∧ B.length ≤ 200
  · exact drawsTell_small w ao bo no ca cb cn A B L ha hb hL hT h.1 h.2
  · exact drawsTell_big w ao bo no A.length ca B.length cb L.length cn (by omega)

end Go.Proofs.YtkbldpigbkecpaaDoor
