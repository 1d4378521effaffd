/- What the law package's same answers: whether two rows of texts are the same. Of rows that lie in memory. -/
import Derived.Test.YtcemdlcimhoeeaaDoorMStg
import Derived.Test.YtcemdlcimhoeeaaDoorMGrd
import Derived.Deep.RegionHeld3
import Derived.Deep.DrawnRows
import Derived.Deep.DeepCutAuto
namespace Go.Proofs.YtcemdlcimhoeeaaDoor
open Go.RowKit

set_option maxRecDepth 100000 in
set_option maxHeartbeats 4000000 in
theorem lsame_any (w : World) (a0 b0 : Nat) (ao bo : Option Addr) (ac bc : Nat) (A B : List (List UInt8)) (hA : Stl w a0 ao ac A) (hB : Stl w b0 bo bc B) (hm : A.length ≤ 1000000) : Calls Tryd.prog 9 #[.slice ao A.length ac, .slice bo B.length bc] w fun e w' => e = .returned (.bool (decide (A = B))) ∧ w.grownBy w' none := by
  obtain ⟨n, hn⟩ : ∃ n, n = A.length := ⟨_, rfl⟩
  obtain ⟨m, hmm⟩ : ∃ n, n = B.length := ⟨_, rfl⟩
  obtain ⟨R, hR⟩ : ∃ R, R = decide (A = B) := ⟨_, rfl⟩
  rw [← hn, ← hmm, ← hR]
  by_cases hl : n = m
  · have HA := hide hA
    have HB := hide hB
    have HN := hide hn
    have HM : Hid (n = B.length) := by rw [hl]; exact hmm
    have HR := hide hR
    have hn9 : n ≤ 1000000 := by omega
    clear hA hB hn hmm hR hm
    subst hl
    go_enter Tryd.func9, Tryd.ntmps9
    go_wp2
    go_loopw [5] (fun i wr => ∃ j : Nat, i = .int .i64 j ∧ j ≤ n ∧ Hid (A.take j = B.take j) ∧ w.grownBy wr none) (fun i _ => n - (intOf i).toNat)
    case atStart => exact ⟨0, rfl, Nat.zero_le _, rfl, gb_refl _ _⟩
    case round =>
      obtain ⟨j, rfl, hj, HE, hg⟩ := hrel
      by_cases hlt : j < n
      · have hla : j < A.length := by have := unhide HN; omega
        have hlb : j < B.length := by have := unhide HM; omega
        obtain ⟨x, hxo, hcx⟩ := (unhide HA).at j hla
        obtain ⟨y, hyo, hcy⟩ := (unhide HB).at j hlb
        have hta := List.take_succ_eq_append_getElem hla
        have htb := List.take_succ_eq_append_getElem hlb
        have hne : A[j] ≠ B[j] → A ≠ B := fun h e => h (by subst e; rfl)
        obtain ⟨F, hF⟩ : ∃ F, F = A[j] := ⟨_, rfl⟩
        obtain ⟨G, hG⟩ : ∃ F, F = B[j] := ⟨_, rfl⟩
        rw [← hF] at hcx hta hne
        rw [← hG] at hcy htb hne
        obtain ⟨TF, hTF⟩ : ∃ T, T = str F := ⟨_, rfl⟩
        obtain ⟨TG, hTG⟩ : ∃ T, T = str G := ⟨_, rfl⟩
        rw [← hTF] at hcx
        rw [← hTG] at hcy
        have hLF : TF.toList = F := by rw [hTF, str_list]
        have hLG : TG.toList = G := by rw [hTG, str_list]
        have h0 : w.grownBy wr.drew none := gb_drew hg
        subst hxo hyo
        by_cases hFG : F = G
        · have hTT : TF = TG := by rw [hTF, hTG, hFG]
          have hnew : A.take (j + 1) = B.take (j + 1) := by rw [hta, htb, unhide HE, hFG]
          have HNW := hide hnew
          subst hTT
          clear hLF hLG hTF hTG hta htb hne hFG hnew hF hG hla hlb
          go_upto_region 6 with fail
          refine wp_region_noPanic ?_
          refine wp_region_held_drew (S := fun V => w.grownBy V none) (by kernel_rfl) h0 (fun _ => ?_)
          refine wpAnyH_take (i := 0) (oi := { dst := some 17, op := Op.move (Operand.tmp 0), type := _, pos := _, after := _, guard := _ }) (v := .slice (some ⟨x, 0, none⟩) n ac) rfl (by kernel_rfl) (by kernel_rfl) (by kernel_rfl) (fun _ _ _ h => h) (Or.inl ⟨by rfl, fun V (hV : w.grownBy V none) => by go_simp⟩) h0 ?_
          (try simp only [Act.put, List.setIfInBounds_toArray, List.set_cons_zero, List.set_cons_succ])
          refine wpAnyH_take (i := 1) (oi := { dst := some 18, op := Op.move (Operand.tmp 5), type := _, pos := _, after := _, guard := _ }) (v := .int .i64 (j : Int)) rfl (by kernel_rfl) (by kernel_rfl) (by kernel_rfl) (fun _ _ _ h => h) (Or.inl ⟨by rfl, fun V (hV : w.grownBy V none) => by go_simp⟩) h0 ?_
          (try simp only [Act.put, List.setIfInBounds_toArray, List.set_cons_zero, List.set_cons_succ])
          refine wpAnyH_take (i := 2) (oi := { dst := some 19, op := Op.indexAddr 46 (Operand.tmp 17) (Operand.tmp 18), type := _, pos := _, after := _, guard := _ }) (v := .pointer (some ⟨x, j, none⟩)) rfl (by kernel_rfl) (by kernel_rfl) (by kernel_rfl) (fun _ _ _ h => h) (Or.inl ⟨by rfl, fun V (hV : w.grownBy V none) => by go_simp⟩) h0 ?_
          (try simp only [Act.put, List.setIfInBounds_toArray, List.set_cons_zero, List.set_cons_succ])
          refine wpAnyH_take (i := 3) (oi := { dst := some 20, op := Op.load 9 (Operand.tmp 19), type := _, pos := _, after := _, guard := _ }) (v := .string TF) rfl (by kernel_rfl) (by kernel_rfl) (by kernel_rfl) (fun _ _ _ h => h) (Or.inl ⟨by rfl, fun V (hV : w.grownBy V none) => by (have q9 := hV.cell hcx (by simp); go_simp)⟩) h0 ?_
          (try simp only [Act.put, List.setIfInBounds_toArray, List.set_cons_zero, List.set_cons_succ])
          refine wpAnyH_take (i := 4) (oi := { dst := some 21, op := Op.move (Operand.tmp 1), type := _, pos := _, after := _, guard := _ }) (v := .slice (some ⟨y, 0, none⟩) n bc) rfl (by kernel_rfl) (by kernel_rfl) (by kernel_rfl) (fun _ _ _ h => h) (Or.inl ⟨by rfl, fun V (hV : w.grownBy V none) => by go_simp⟩) h0 ?_
          (try simp only [Act.put, List.setIfInBounds_toArray, List.set_cons_zero, List.set_cons_succ])
          refine wpAnyH_take (i := 5) (oi := { dst := some 22, op := Op.move (Operand.tmp 5), type := _, pos := _, after := _, guard := _ }) (v := .int .i64 (j : Int)) rfl (by kernel_rfl) (by kernel_rfl) (by kernel_rfl) (fun _ _ _ h => h) (Or.inl ⟨by rfl, fun V (hV : w.grownBy V none) => by go_simp⟩) h0 ?_
          (try simp only [Act.put, List.setIfInBounds_toArray, List.set_cons_zero, List.set_cons_succ])
          refine wpAnyH_take (i := 6) (oi := { dst := some 23, op := Op.indexAddr 46 (Operand.tmp 21) (Operand.tmp 22), type := _, pos := _, after := _, guard := _ }) (v := .pointer (some ⟨y, j, none⟩)) rfl (by kernel_rfl) (by kernel_rfl) (by kernel_rfl) (fun _ _ _ h => h) (Or.inl ⟨by rfl, fun V (hV : w.grownBy V none) => by go_simp⟩) h0 ?_
          (try simp only [Act.put, List.setIfInBounds_toArray, List.set_cons_zero, List.set_cons_succ])
          refine wpAnyH_take (i := 7) (oi := { dst := some 24, op := Op.load 9 (Operand.tmp 23), type := _, pos := _, after := _, guard := _ }) (v := .string TF) rfl (by kernel_rfl) (by kernel_rfl) (by kernel_rfl) (fun _ _ _ h => h) (Or.inl ⟨by rfl, fun V (hV : w.grownBy V none) => by (have q9 := hV.cell hcy (by simp); go_simp)⟩) h0 ?_
          (try simp only [Act.put, List.setIfInBounds_toArray, List.set_cons_zero, List.set_cons_succ])
          refine wpAnyH_take (i := 8) (oi := { dst := some 25, op := Op.binOp BinOp.neq 9 (Operand.tmp 20) (Operand.tmp 24) 9, type := _, pos := _, after := _, guard := _ }) (v := .bool false) rfl (by kernel_rfl) (by kernel_rfl) (by kernel_rfl) (fun _ _ _ h => h) (Or.inl ⟨by rfl, fun V (hV : w.grownBy V none) => by go_simp⟩) h0 ?_
          (try simp only [Act.put, List.setIfInBounds_toArray, List.set_cons_zero, List.set_cons_succ])
          refine wpAnyH_done (by kernel_rfl) ?_ _
          refine NoPanic.normal ?_
          go_wp2
          go_roundw
          case rel => exact ⟨j + 1, by go_num, by omega, HNW, h0⟩
          case measure => simp [intOf]; omega
        · have h1 : ¬ TF.toList = TG.toList := by rw [hLF, hLG]; exact hFG
          have h2 : (F == G) = false := by simpa using hFG
          have hRf : R = false := by rw [unhide HR]; exact decide_eq_false (hne hFG)
          subst hRf
          clear hTF hTG hta htb hne hF hG hla hlb
          go_upto_region 6 with fail
          refine wp_region_noPanic ?_
          refine wp_region_held_drew (S := fun V => w.grownBy V none) (by kernel_rfl) h0 (fun _ => ?_)
          refine wpAnyH_take (i := 0) (oi := { dst := some 17, op := Op.move (Operand.tmp 0), type := _, pos := _, after := _, guard := _ }) (v := .slice (some ⟨x, 0, none⟩) n ac) rfl (by kernel_rfl) (by kernel_rfl) (by kernel_rfl) (fun _ _ _ h => h) (Or.inl ⟨by rfl, fun V (hV : w.grownBy V none) => by go_simp⟩) h0 ?_
          (try simp only [Act.put, List.setIfInBounds_toArray, List.set_cons_zero, List.set_cons_succ])
          refine wpAnyH_take (i := 1) (oi := { dst := some 18, op := Op.move (Operand.tmp 5), type := _, pos := _, after := _, guard := _ }) (v := .int .i64 (j : Int)) rfl (by kernel_rfl) (by kernel_rfl) (by kernel_rfl) (fun _ _ _ h => h) (Or.inl ⟨by rfl, fun V (hV : w.grownBy V none) => by go_simp⟩) h0 ?_
          (try simp only [Act.put, List.setIfInBounds_toArray, List.set_cons_zero, List.set_cons_succ])
          refine wpAnyH_take (i := 2) (oi := { dst := some 19, op := Op.indexAddr 46 (Operand.tmp 17) (Operand.tmp 18), type := _, pos := _, after := _, guard := _ }) (v := .pointer (some ⟨x, j, none⟩)) rfl (by kernel_rfl) (by kernel_rfl) (by kernel_rfl) (fun _ _ _ h => h) (Or.inl ⟨by rfl, fun V (hV : w.grownBy V none) => by go_simp⟩) h0 ?_
          (try simp only [Act.put, List.setIfInBounds_toArray, List.set_cons_zero, List.set_cons_succ])
          refine wpAnyH_take (i := 3) (oi := { dst := some 20, op := Op.load 9 (Operand.tmp 19), type := _, pos := _, after := _, guard := _ }) (v := .string TF) rfl (by kernel_rfl) (by kernel_rfl) (by kernel_rfl) (fun _ _ _ h => h) (Or.inl ⟨by rfl, fun V (hV : w.grownBy V none) => by (have q9 := hV.cell hcx (by simp); go_simp)⟩) h0 ?_
          (try simp only [Act.put, List.setIfInBounds_toArray, List.set_cons_zero, List.set_cons_succ])
          refine wpAnyH_take (i := 4) (oi := { dst := some 21, op := Op.move (Operand.tmp 1), type := _, pos := _, after := _, guard := _ }) (v := .slice (some ⟨y, 0, none⟩) n bc) rfl (by kernel_rfl) (by kernel_rfl) (by kernel_rfl) (fun _ _ _ h => h) (Or.inl ⟨by rfl, fun V (hV : w.grownBy V none) => by go_simp⟩) h0 ?_
          (try simp only [Act.put, List.setIfInBounds_toArray, List.set_cons_zero, List.set_cons_succ])
          refine wpAnyH_take (i := 5) (oi := { dst := some 22, op := Op.move (Operand.tmp 5), type := _, pos := _, after := _, guard := _ }) (v := .int .i64 (j : Int)) rfl (by kernel_rfl) (by kernel_rfl) (by kernel_rfl) (fun _ _ _ h => h) (Or.inl ⟨by rfl, fun V (hV : w.grownBy V none) => by go_simp⟩) h0 ?_
          (try simp only [Act.put, List.setIfInBounds_toArray, List.set_cons_zero, List.set_cons_succ])
          refine wpAnyH_take (i := 6) (oi := { dst := some 23, op := Op.indexAddr 46 (Operand.tmp 21) (Operand.tmp 22), type := _, pos := _, after := _, guard := _ }) (v := .pointer (some ⟨y, j, none⟩)) rfl (by kernel_rfl) (by kernel_rfl) (by kernel_rfl) (fun _ _ _ h => h) (Or.inl ⟨by rfl, fun V (hV : w.grownBy V none) => by go_simp⟩) h0 ?_
          (try simp only [Act.put, List.setIfInBounds_toArray, List.set_cons_zero, List.set_cons_succ])
          refine wpAnyH_take (i := 7) (oi := { dst := some 24, op := Op.load 9 (Operand.tmp 23), type := _, pos := _, after := _, guard := _ }) (v := .string TG) rfl (by kernel_rfl) (by kernel_rfl) (by kernel_rfl) (fun _ _ _ h => h) (Or.inl ⟨by rfl, fun V (hV : w.grownBy V none) => by (have q9 := hV.cell hcy (by simp); go_simp)⟩) h0 ?_
          (try simp only [Act.put, List.setIfInBounds_toArray, List.set_cons_zero, List.set_cons_succ])
          refine wpAnyH_take (i := 8) (oi := { dst := some 25, op := Op.binOp BinOp.neq 9 (Operand.tmp 20) (Operand.tmp 24) 9, type := _, pos := _, after := _, guard := _ }) (v := .bool true) rfl (by kernel_rfl) (by kernel_rfl) (by kernel_rfl) (fun _ _ _ h => h) (Or.inl ⟨by rfl, fun V (hV : w.grownBy V none) => by go_simp⟩) h0 ?_
          (try simp only [Act.put, List.setIfInBounds_toArray, List.set_cons_zero, List.set_cons_succ])
          refine wpAnyH_done (by kernel_rfl) ?_ _
          refine NoPanic.normal ?_
          go_wp2
          go_ret
          exact ⟨rfl, h0⟩
      · have hRt : R = true := by
          rw [unhide HR]
          have h1 := unhide HE
          rw [List.take_of_length_le (by have := unhide HN; omega), List.take_of_length_le (by have := unhide HM; omega)] at h1
          exact decide_eq_true h1
        subst hRt
        go_wp2
        go_ret
        exact ⟨rfl, hg⟩
  · have hRf : R = false := by rw [hR]; exact decide_eq_false (fun e => hl (by rw [hn, hmm, e]))
    have h1 : ¬ (n : Int) = (m : Int) := by omega
    have h2 : ((n : Int) == (m : Int)) = false := by simpa using h1
    subst hRf
    clear hR hn hmm hA hB
    go_enter Tryd.func9, Tryd.ntmps9
    go_wp2
    go_ret
    exact ⟨rfl, gb_refl _ _⟩

end Go.Proofs.YtcemdlcimhoeeaaDoor
