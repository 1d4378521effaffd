/- What slices.Clone and chunk.Cut answer of ints: parts of a list of the call's own. Of at most 1000000 items. -/
import Derived.Test.YtadkpkdojbhigaaCtA
import Derived.Deep.DeepCutAuto
namespace Go.Proofs.Ytadkpkdojbhigaa
open Go.RowKit

theorem ci_nil (W : World) : (binOp .eql 32 (.slice none 0 0) (.slice none 0 0)).run Try.prog W = .ok (.bool true) W := by kernel_rfl
theorem ci_ne (ad : Addr) (n c : Nat) (W : World) : (binOp .eql 32 (.slice (some ad) n c) (.slice none 0 0)).run Try.prog W = .ok (.bool false) W := by kernel_rfl
theorem ci_info : (Try.prog.info? 3).map (fun i => (i.zero, i.size, i.bytes)) = some (some (.int .i64 0), 1, 8) := by kernel_rfl
theorem ci_infos : (Try.prog.info? 32).map (fun i => (i.zero, i.size, i.bytes)) = some (some (.slice none 0 0), 1, 24) := by kernel_rfl
theorem ci_size (w : World) : (Go.sizeOf 3).run Try.prog w = .ok 1 w := by kernel_rfl

set_option maxRecDepth 100000 in
theorem ci_clone (w : World) (ao : Option Addr) (c : Nat) (L : List Value) (h : Cel0 w ao c L) (hl : L.length ≤ 1000000) :
    Calls Try.prog 26 #[.slice ao L.length c] w fun e w' => ∃ v, e = .returned v ∧ w'.ownsRow w.heap.size 3 1 v L.length L ∧ w.grownBy w' none := by
  obtain ⟨n, hn⟩ : ∃ n, n = L.length := ⟨_, rfl⟩
  cases ao with
  | none =>
    obtain ⟨h1, h2⟩ := h.zip rfl
    have h3 : L = [] := List.eq_nil_of_length_eq_zero h1
    subst h3 h2
    have hq := ci_nil
    clear hn
    go_enter Try.func26, Try.ntmps26
    go_wp2
    go_ret
    exact ⟨_, rfl, ⟨rfl, Or.inl ⟨rfl, rfl⟩⟩, gb_refl _ _⟩
  | some ad =>
    rw [← hn] at hl ⊢
    have hq := ci_ne ad n c
    obtain ⟨W1, hW1, ho1, g1⟩ : ∃ Wb, Wb = w.alloc (.cells #[] 3) ∧ Wb.ownsRow w.heap.size 3 1 (.slice (some ⟨w.heap.size, 0, none⟩) 0 0) 0 [] ∧ w.grownBy Wb none :=
      ⟨_, rfl, World.ownsRow_made w #[] 0 (Nat.le_refl _) (by unfold maxLen; omega) rfl, gb_alloc (gb_refl _ _) _⟩
    have hb1 := h.kept g1
    have HN := hide hn
    have HW1 := hide hW1
    clear hn hW1 h
    go_enter Try.func26, Try.ntmps26
    go_wp2_with (rw [← unhide HW1]; refine wpList_append_cel rfl _ _ _ _ _ _ Try.underlying32 ci_info rfl rfl w.heap.size _ 0 [] rfl ho1 _ _ L hb1 n (unhide HN) rfl (by omega) (by unfold maxLen; omega) g1.size ?_; intro v5 w5 ho5 g5; have G5 := hide (gb_trans g1 g5 (fun x e => Or.inl (ho1.lt x e).1)); have HO5 := hide ho5; clear g5 ho5 ho1 hb1)
    go_ret
    exact ⟨_, rfl, by simpa using unhide HO5, unhide G5⟩

/-- What Cut answers: parts of a list of the call's own. -/
def ciCut (w w' : World) (L : List Value) (s : Nat) (v : Value) : Prop := ∃ w1 PS CS, w.grownBy w1 none ∧ Prts w1 PS CS ∧ Cuts L s L.length CS ∧ w'.ownsRow w1.heap.size 32 1 v PS.length PS ∧ w1.grownBy w' none

set_option maxRecDepth 100000 in
set_option maxHeartbeats 2000000 in
theorem ci_cut (w : World) (ao : Option Addr) (c : Nat) (L : List Value) (h : Cel0 w ao c L) (hl : L.length ≤ 1000000) (z : Int) (s : Nat) (hs : (s : Int) = max z 1) :
    Calls Try.prog 16 #[.slice ao L.length c, .int .i64 z] w fun e w' => ∃ v, e = .returned v ∧ ciCut w w' L s v := by
  have cc := ci_clone w ao c L h hl
  obtain ⟨N, hN⟩ : ∃ N, N = L.length := ⟨_, rfl⟩
  rw [← hN] at cc hl ⊢
  have hone := h.one
  have HN := hide hN
  have HONE := hide hone
  have hs0 : 0 < s := by omega
  have HS := hide hs
  clear hN hone h hs
  go_enter Try.func16, Try.ntmps16
  go_upto_region 1 with fail
  go_cut [1] (fun v wx => v = .int .i64 (s : Int) ∧ wx = w)
  case first =>
    have hs := unhide HS
    clear cc
    by_cases hz : z < 1
    · have e1 : s = 1 := by omega
      have E1 := hide e1
      clear hs e1
      go_wp2
      go_meet
      case rel => exact ⟨by rw [unhide E1]; rfl, rfl⟩
    · have e1 : z = (s : Int) := by omega
      subst e1
      have hz2 : ¬ s < 1 := by omega
      clear hs
      go_wp2
      go_meet
      case rel => exact ⟨rfl, rfl⟩
  case rest =>
    obtain ⟨rfl, hwx⟩ := hcut
    rw [hwx]
    clear hwx HS
    go_wp2_with fail
    refine cc.mono ?_
    rintro e w1 ⟨v1, rfl, ho1, g1⟩
    clear cc
    rw [unhide HN] at ho1
    obtain ⟨oa0, oc0, rfl, hC1, -⟩ := Cel.own ho1 (unhide HONE)
    rw [← unhide HN]
    have HC1 := hide hC1
    clear ho1 hC1
    go_wp2_with fail
    go_loopw [5, 6, 7] (fun pv ov _n wr => ∃ PS CS k oa oc r, Prts w1 PS CS ∧ Cuts L s k CS ∧ ov = .slice oa r oc ∧ r + k = N ∧ Cel w1 oa oc (L.drop k) ∧ wr.ownsRow w1.heap.size 32 1 pv PS.length PS ∧ w1.grownBy wr none) (fun _ ov _ _ => match ov with | .slice _ n _ => n | _ => 0)
    case atStart => exact ⟨[], [], 0, oa0, oc0, N, .nil, Cuts.start L s hs0, rfl, rfl, by simpa using unhide HC1, ⟨rfl, Or.inl ⟨rfl, rfl⟩⟩, gb_refl _ _⟩
    case round =>
      clear HC1
      obtain ⟨PS, CS, k, oa, oc, r, hP, hQ, rfl, hrk, hC, hO, hG⟩ := hrel
      have HP := hide hP
      have HQ := hide hQ
      have HC := hide hC
      have HO := hide hO
      have HG := hide hG
      have HRK := hide hrk
      clear hP hQ hC hO hG
      by_cases hr : 0 < r
      · have hri : (0 : Int) < (r : Int) := by omega
        obtain ⟨q, hq⟩ : ∃ q, q = min s r := ⟨_, rfl⟩
        have hqr : q ≤ r := by omega
        have hq0 : 0 < q := by omega
        have hqs : q ≤ s := by omega
        have hlen : (L.drop k).length = r := by rw [List.length_drop, ← unhide HN]; omega
        have hfit := (unhide HC).1.fits
        rw [hlen] at hfit
        have s1 := fun W => slice_hmK (P := Try.prog) W 32 3 Try.underlying32 ci_size oa r oc q (by omega) (unhide HC).1.spot
        have s2 := fun W => slice_fromK (P := Try.prog) W 32 3 1 Try.underlying32 ci_size oa r oc q hqr
        have HQE := hide hq
        clear hrk hlen hfit
        go_upto_region 5 with fail
        go_cut [7] (fun v wx => v = .int .i64 (q : Int) ∧ wx = wr)
        case first =>
          clear s1 s2
          by_cases hlt : r < s
          · have e1 : q = r := by omega
            have hlti : (r : Int) < (s : Int) := by omega
            have E1 := hide e1
            clear e1 hq HQE hqr hqs hq0
            go_wp2
            go_meet
            case rel => exact ⟨by rw [unhide E1], rfl⟩
          · have e1 : q = s := by omega
            have hlti : ¬ (r : Int) < (s : Int) := by omega
            have E1 := hide e1
            clear e1 hq HQE hqr hqs hq0
            go_wp2
            go_meet
            case rel => exact ⟨by rw [unhide E1], rfl⟩
        case rest =>
          obtain ⟨rfl, hwx⟩ := hcut
          rw [hwx]
          clear hwx hq
          obtain ⟨W2, hW2⟩ : ∃ W, W = wr.alloc (.cells #[.slice oa q q] 32) := ⟨_, rfl⟩
          have g2 : wr.grownBy W2 none := by rw [hW2]; exact gb_alloc (gb_refl _ _) _
          have hB2 : Blk W2 wr.heap.size 32 [.slice oa q q] := by rw [hW2]; exact Blk.new _ _ _
          have hE2 : Cel W2 (some ⟨wr.heap.size, 0, none⟩) 1 [.slice oa q q] := ⟨⟨(fun e => by cases e), Nat.le_refl _, by unfold maxLen; omega, (fun ad e => by cases e; rfl), fun ad e i hi => by
            cases e
            have hi0 : i = 0 := by simpa using hi
            subst hi0
            intro j v hv
            simp [cl1] at hv
            obtain ⟨rfl, rfl⟩ : j = 0 ∧ v = .slice oa q q := by
              cases j with
              | zero => simpa [eq_comm] using hv
              | succ j => simp at hv
            rw [hB2.cell]
            rfl⟩, fun v hv => by rw [List.mem_singleton.1 hv]; rfl⟩
          have ho2 := own_keepT (unhide HO) g2
          have hps : PS.length ≤ 1000000 := by
            rw [(unhide HP).len]
            have h1 := (unhide HQ).le
            have h2 := (unhide HQ).k
            have h4 : CS.length * 1 ≤ CS.length * s := Nat.mul_le_mul_left _ hs0
            have h3 := unhide HN
            have h5 := unhide HRK
            omega
          have HW2 := hide hW2
          have HG2 := hide g2
          clear hW2 hB2
          go_upto_region 7 with (rw [← unhide HW2]; refine wpList_append_cel rfl _ _ _ _ _ _ Try.underlying33 ci_infos rfl rfl w1.heap.size _ PS.length PS rfl ho2 _ _ _ hE2.zero 1 rfl rfl (by omega) (by unfold maxLen; omega) (Nat.le_trans (unhide HG).size (unhide HG2).size) ?_; intro v3 w3 ho3 g3; have HO3 := hide ho3; have HG3 := hide (gb_trans (tn (unhide HG) (unhide HG2)) g3 (fun x e => Or.inl (ho2.lt x e).1)); clear ho3 g3 hE2 ho2)
          go_wp2
          go_roundw
          case rel =>
            have h5 := unhide HRK
            have h6 := unhide HN
            have hqe : q = min s (L.length - k) := by rw [unhide HQE]; omega
            have hcel := ((unhide HC).shut q hq0 (by rw [List.length_drop]; omega))
            have hl2 : ((L.drop k).take q).length = q := by rw [List.length_take, List.length_drop]; omega
            refine ⟨PS ++ [.slice oa q q], CS ++ [(L.drop k).take q], k + q, cutK oa oc q 1, oc - q, r - q, ?_, ?_, rfl, by omega, ?_, ?_, unhide HG3⟩
            · have := Prts.snoc (unhide HP) hcel
              rw [hl2] at this
              exact this
            · have := (unhide HQ).step hs0 (by omega)
              rw [← hqe] at this
              exact this
            · have := (unhide HC).drop q (by rw [List.length_drop]; omega)
              rw [List.drop_drop] at this
              exact this
            · simpa using unhide HO3
          case measure => simp; omega
      · have hr0 : r = 0 := by omega
        subst hr0
        have hkN : k = N := by omega
        have hfin : Cuts L s L.length CS := by
          have := unhide HQ
          rw [hkN, unhide HN] at this
          exact this
        have HF := hide hfin
        clear hfin hkN hrk
        go_wp2
        go_ret
        exact ⟨_, rfl, w1, PS, CS, g1, unhide HP, unhide HF, unhide HO, unhide HG⟩

end Go.Proofs.Ytadkpkdojbhigaa
