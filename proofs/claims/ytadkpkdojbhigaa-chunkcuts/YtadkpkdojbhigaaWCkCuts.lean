/- The walk of ChunkCuts. -/
import Derived.Test.YtadkpkdojbhigaaCkO
import Derived.Test.YtadkpkdojbhigaaCtJ
import Derived.Test.YtadkpkdojbhigaaCtU
import Derived.Test.YtadkpkdojbhigaaMNts
import Derived.Test.YtadkpkdojbhigaaMGrd
import Derived.Deep.DeepCutAuto
import Derived.BigQuiet
namespace Go.Proofs.Ytadkpkdojbhigaa
open Go.RowKit

/-- An int as a value. -/
def iv (z : Int) : Value := .int .i64 z
theorem Nts.cel {w : World} {ao : Option Addr} {c : Nat} {l : List Int} (h : Nts w ao c l) : Cel0 w ao c (l.map iv) := by
  refine ⟨fun e => by simpa using h.zip e, fun ad e j u hu => ?_, fun v hv => ?_⟩
  · obtain ⟨hj, rfl⟩ := List.getElem?_eq_some_iff.1 hu
    have hj2 : j < l.length := by simpa using hj
    have hs := h.shape ad e (by omega)
    have hc := h.cell ad e j hj2
    obtain ⟨b, o, s⟩ := ad
    simp only at hs hc
    subst hs
    rw [Addr.add_lit, hc]
    simp [iv]
  · obtain ⟨z, _, rfl⟩ := List.mem_map.1 hv
    rfl
theorem Bts.cel {w : World} {ao : Option Addr} {c : Nat} {l : List UInt8} (h : Bts w ao c l) : Cel0 w ao c (l.map bv) :=
  ⟨fun e => by simpa using h.zip e, fun ad e j u hu => h.news ad e j u hu, bv_one l⟩
theorem Nts.take {w : World} {ao : Option Addr} {c : Nat} {l : List Int} (h : Nts w ao c l) (n : Nat) : Nts w ao c (l.take n) := by
  refine ⟨fun e => ?_, ?_, h.most, fun ad e hp => h.shape ad e (by simp at hp; omega), fun ad e i hi => ?_⟩
  · have := h.zip e; exact ⟨by rw [List.length_take]; omega, this.2⟩
  · have := h.fits; rw [List.length_take]; omega
  · have hi' : i < l.length := by simp at hi; omega
    have := h.cell ad e i hi'
    simpa using this
theorem cuts_len {VS : List Value} {s : Nat} {CS : List (List Value)} (h : Cuts VS s VS.length CS) (hs : 0 < s) : CS.length = (VS.length + s - 1) / s := by
  have h1 := h.k
  have h2 := h.le
  have h3 : VS.length ≤ CS.length * s := by omega
  apply Nat.le_antisymm
  · apply (Nat.le_div_iff_mul_le hs).2
    omega
  · apply Nat.lt_succ_iff.1
    apply (Nat.div_lt_iff_lt_mul hs).2
    rw [Nat.succ_mul]
    omega

set_option maxRecDepth 100000 in
set_option maxHeartbeats 4000000 in
theorem walk_cuts (w : World) (ao0 : Option Addr) (c0 : Nat) (l0 : List Int) (hl0 : Nts w ao0 c0 l0) (z : Int) : Calls Try.prog 5 #[.slice ao0 l0.length c0, .int .i64 z] w fun e w' => e = .returned (.bool true) ∧ w.grownBy w' none := by
  obtain ⟨n0, hn0⟩ : ∃ n, n = l0.length := ⟨_, rfl⟩
  rw [← hn0]
  obtain ⟨ao, c, l, hl, n, hn, hle, hcase⟩ : ∃ ao c l, Nts w ao c l ∧ ∃ n, n = l.length ∧ n ≤ 3000 ∧ ((n0 ≤ 3000 ∧ ao = ao0 ∧ c = c0 ∧ n = n0) ∨ (3000 < n0 ∧ ao = ao0 ∧ c = c0 ∧ n = 3000)) := by
    by_cases h : n0 ≤ 3000
    · exact ⟨ao0, c0, l0, hl0, n0, hn0, h, Or.inl ⟨h, rfl, rfl, rfl⟩⟩
    · exact ⟨ao0, c0, l0.take 3000, hl0.take 3000, 3000, by simp; omega, Nat.le_refl _, Or.inr ⟨by omega, rfl, rfl, rfl⟩⟩
  have s1 := fun W (h : 3000 < n0) => slice_to (P := Try.prog) W 32 3 Try.underlying32 ci_size ao0 n0 c0 3000 (by have := hl0.fits; omega)
  obtain ⟨s, hs⟩ : ∃ s : Nat, (s : Int) = max z 1 := ⟨(max z 1).toNat, by omega⟩
  have hs0 : 0 < s := by omega
  have cc := ci_cut w ao c (l.map iv) hl.cel (by simp; omega) z s hs
  rw [List.length_map, ← hn] at cc
  have HL := hide hl
  have HN := hide hn
  have HS := hide hs
  clear hl hn hl0 hn0 l0 hs
  go_enter Try.func5, Try.ntmps5
  go_upto_if 14 with fail
  go_cut [0] (fun v wx => v = .slice ao n c ∧ wx = w)
  case first =>
    clear cc
    rcases hcase with ⟨h1, rfl, rfl, rfl⟩ | ⟨h1, rfl, rfl, rfl⟩
    · have h2 : ¬ 3000 < n := by omega
      have h3 : ¬ (3000 : Int) < (n : Int) := by omega
      go_wp2
      go_meet
      case rel => exact ⟨rfl, rfl⟩
    · have h3 : (3000 : Int) < (n0 : Int) := by omega
      have s2 : ∀ W, (Instr.slice 32 (.slice ao n0 c) none (some (.int .i64 3000)) none).run Try.prog W = .ok (.slice ao 3000 c) W := fun W => s1 W h1
      clear s1
      go_wp2
      go_meet
      case rel => exact ⟨rfl, rfl⟩
  case rest =>
    obtain ⟨rfl, hwx⟩ := hcut
    rw [hwx]
    clear hwx hcase s1
    go_wp2_with fail
    refine cc.mono ?_
    rintro e w2 ⟨v2, rfl, w1, PS, CS, g1, hP, hQ, hO, g2⟩
    clear cc
    obtain ⟨pa, pc, rfl, hC, -⟩ := Cel.own hO hP.one
    have hPl := hP.len
    obtain ⟨np, hnp⟩ : ∃ m, m = PS.length := ⟨_, rfl⟩
    rw [← hnp]
    have hflat : CS.flatten = l.map iv := by have := hQ.flat; rw [List.take_length] at this; exact this
    have hnpb : np ≤ 3000 := by
      have h1 := hQ.k
      have h2 := hQ.le
      rw [List.length_map, ← unhide HN] at h1 h2
      have h3 : CS.length * 1 ≤ CS.length * s := Nat.mul_le_mul_left _ hs0
      rcases Nat.eq_zero_or_pos CS.length with h0 | h0
      · omega
      · have h4 : (CS.length - 1) * s < n := by
          have : CS.length * s = (CS.length - 1) * s + s := by rw [← Nat.succ_mul]; congr 1; omega
          omega
        have h5 : (CS.length - 1) * 1 ≤ (CS.length - 1) * s := Nat.mul_le_mul_left _ hs0
        omega
    have HP := hide (hP.kept g2)
    have HQ := hide hQ
    have HC := hide hC
    have HG2 := hide (tn g1 g2)
    have HNP := hide hnp
    have HPL2 := hide hPl
    have HFL := hide hflat
    clear hP hQ hO hC g1 g2 hnp hPl hflat
    go_upto_region 4 with fail
    go_cut [6] (fun v wx => v = .int .i64 (s : Int) ∧ wx = w2)
    case first =>
      go_wp2
      go_meet
      case rel => exact ⟨by rw [unhide HS], rfl⟩
    case rest =>
      obtain ⟨rfl, hwx⟩ := hcut
      rw [hwx]
      clear hwx
      go_wp2_with fail
      go_loopw [7] (fun i wr => wr = w2 ∧ ∃ j : Nat, i = .int .i64 j ∧ j ≤ np) (fun i _ => np - (intOf i).toNat)
      case atStart => exact ⟨rfl, 0, rfl, Nat.zero_le _⟩
      case round =>
        obtain ⟨hwr, j, rfl, hj⟩ := hrel
        subst wr
        by_cases hlt : j < np
        · have hjp : j < PS.length := by rw [← unhide HNP]; exact hlt
          have hjc : j < CS.length := by rw [← unhide HPL2]; exact hjp
          obtain ⟨pb, po, rfl, hc⟩ := (unhide HC).at j hjp
          obtain ⟨ai, ci, hpe, hce⟩ := (unhide HP).at j hjp hjc
          obtain ⟨q1, q2, q3⟩ := (unhide HQ).each j hjc
          rw [hpe] at hc
          obtain ⟨mi, hmi⟩ : ∃ m, m = CS[j].length := ⟨_, rfl⟩
          rw [← hmi] at hc q1 q2 q3
          rw [← unhide HPL2, ← unhide HNP] at q3
          have hjw : IntKind.i64.wrap ((j : Int) + 1) = (j : Int) + 1 := by rw [IntKind.wrap_i64]; omega
          have hnw : IntKind.i64.wrap ((np : Int) - 1) = (np : Int) - 1 := by rw [IntKind.wrap_i64]; omega
          have hjlt : (j : Int) < (np : Int) := by omega
          have d1 : ¬ (mi : Int) = 0 := by omega
          have d2 : ¬ mi = 0 := by omega
          have d3 : ((mi : Int) == 0) = false := by simp; omega
          have d4 : ¬ (s : Int) < (mi : Int) := by omega
          have d5 : ¬ s < mi := by omega
          clear hpe hce hmi
          go_upto_region 8 with fail
          go_cut [58] (fun v wx => v = .bool false ∧ wx = w2)
          case first =>
            by_cases hf : j + 1 < np
            · have e1 := q3 hf
              subst e1
              have f1 : (j : Int) < (np : Int) - 1 := by omega
              have hf2 := hide hf
              clear q3 hf
              refine region_named fun O hO => ?_
              refine wpList_val (by rw [hO]; kernel_rfl) (.int .i64 ((j : Int))) (fun K9 hK9 => by go_simp; exact hK9) ?_
              (try simp only [Act.put, pq1, pq2, pq3])
              refine wpList_val (by rw [hO]; kernel_rfl) (.slice (some ⟨pb, po, none⟩) np pc) (fun K9 hK9 => by go_simp; exact hK9) ?_
              (try simp only [Act.put, pq1, pq2, pq3])
              refine wpList_val (by rw [hO]; kernel_rfl) (.int .i64 (np : Int)) (fun K9 hK9 => by go_simp; exact hK9) ?_
              (try simp only [Act.put, pq1, pq2, pq3])
              refine wpList_val (by rw [hO]; kernel_rfl) (.int .i64 ((np : Int) - 1)) (fun K9 hK9 => by go_simp; exact hK9) ?_
              (try simp only [Act.put, pq1, pq2, pq3])
              refine wpList_val (by rw [hO]; kernel_rfl) (.bool true) (fun K9 hK9 => by go_simp; exact hK9) ?_
              (try simp only [Act.put, pq1, pq2, pq3])
              refine wpList_val (by rw [hO]; kernel_rfl) (.bool true) (fun K9 hK9 => by go_simp; exact hK9) ?_
              (try simp only [Act.put, pq1, pq2, pq3])
              refine wpList_val (by rw [hO]; kernel_rfl) (.slice (some ⟨pb, po, none⟩) np pc) (fun K9 hK9 => by go_simp; exact hK9) ?_
              (try simp only [Act.put, pq1, pq2, pq3])
              refine wpList_val (by rw [hO]; kernel_rfl) (.int .i64 ((j : Int))) (fun K9 hK9 => by go_simp; exact hK9) ?_
              (try simp only [Act.put, pq1, pq2, pq3])
              refine wpList_val (by rw [hO]; kernel_rfl) (.pointer (some ⟨pb, po + j, none⟩)) (fun K9 hK9 => by go_simp; exact hK9) ?_
              (try simp only [Act.put, pq1, pq2, pq3])
              refine wpList_val (by rw [hO]; kernel_rfl) (.slice ai mi ci) (fun K9 hK9 => by go_simp; exact hK9) ?_
              (try simp only [Act.put, pq1, pq2, pq3])
              refine wpList_val (by rw [hO]; kernel_rfl) (.int .i64 (mi : Int)) (fun K9 hK9 => by go_simp; exact hK9) ?_
              (try simp only [Act.put, pq1, pq2, pq3])
              refine wpList_val (by rw [hO]; kernel_rfl) (.int .i64 ((mi : Int))) (fun K9 hK9 => by go_simp; exact hK9) ?_
              (try simp only [Act.put, pq1, pq2, pq3])
              refine wpList_val (by rw [hO]; kernel_rfl) (.bool false) (fun K9 hK9 => by go_simp; exact hK9) ?_
              (try simp only [Act.put, pq1, pq2, pq3])
              refine wpList_val (by rw [hO]; kernel_rfl) (.bool false) (fun K9 hK9 => by go_simp; exact hK9) ?_
              (try simp only [Act.put, pq1, pq2, pq3])
              refine wpList_val (by rw [hO]; kernel_rfl) (.bool false) (fun K9 hK9 => by go_simp; exact hK9) ?_
              (try simp only [Act.put, pq1, pq2, pq3])
              refine wpList_val (by rw [hO]; kernel_rfl) (.slice (some ⟨pb, po, none⟩) np pc) (fun K9 hK9 => by go_simp; exact hK9) ?_
              (try simp only [Act.put, pq1, pq2, pq3])
              refine wpList_val (by rw [hO]; kernel_rfl) (.int .i64 ((j : Int))) (fun K9 hK9 => by go_simp; exact hK9) ?_
              (try simp only [Act.put, pq1, pq2, pq3])
              refine wpList_val (by rw [hO]; kernel_rfl) (.pointer (some ⟨pb, po + j, none⟩)) (fun K9 hK9 => by go_simp; exact hK9) ?_
              (try simp only [Act.put, pq1, pq2, pq3])
              refine wpList_val (by rw [hO]; kernel_rfl) (.slice ai mi ci) (fun K9 hK9 => by go_simp; exact hK9) ?_
              (try simp only [Act.put, pq1, pq2, pq3])
              refine wpList_val (by rw [hO]; kernel_rfl) (.int .i64 (mi : Int)) (fun K9 hK9 => by go_simp; exact hK9) ?_
              (try simp only [Act.put, pq1, pq2, pq3])
              refine wpList_val (by rw [hO]; kernel_rfl) (.bool false) (fun K9 hK9 => by go_simp; exact hK9) ?_
              (try simp only [Act.put, pq1, pq2, pq3])
              refine wpList_val (by rw [hO]; kernel_rfl) (.bool false) (fun K9 hK9 => by go_simp; exact hK9) ?_
              (try simp only [Act.put, pq1, pq2, pq3])
              refine wpList_val (by rw [hO]; kernel_rfl) (.bool false) (fun K9 hK9 => by go_simp; exact hK9) ?_
              (try simp only [Act.put, pq1, pq2, pq3])
              refine wpList_val (by rw [hO]; kernel_rfl) (.slice (some ⟨pb, po, none⟩) np pc) (fun K9 hK9 => by go_simp; exact hK9) ?_
              (try simp only [Act.put, pq1, pq2, pq3])
              refine wpList_val (by rw [hO]; kernel_rfl) (.int .i64 ((j : Int))) (fun K9 hK9 => by go_simp; exact hK9) ?_
              (try simp only [Act.put, pq1, pq2, pq3])
              refine wpList_val (by rw [hO]; kernel_rfl) (.pointer (some ⟨pb, po + j, none⟩)) (fun K9 hK9 => by go_simp; exact hK9) ?_
              (try simp only [Act.put, pq1, pq2, pq3])
              refine wpList_val (by rw [hO]; kernel_rfl) (.slice ai mi ci) (fun K9 hK9 => by go_simp; exact hK9) ?_
              (try simp only [Act.put, pq1, pq2, pq3])
              refine wpList_val (by rw [hO]; kernel_rfl) (.int .i64 (mi : Int)) (fun K9 hK9 => by go_simp; exact hK9) ?_
              (try simp only [Act.put, pq1, pq2, pq3])
              refine wpList_val (by rw [hO]; kernel_rfl) (.int .i64 ((mi : Int))) (fun K9 hK9 => by go_simp; exact hK9) ?_
              (try simp only [Act.put, pq1, pq2, pq3])
              refine wpList_val (by rw [hO]; kernel_rfl) (.bool false) (fun K9 hK9 => by go_simp; exact hK9) ?_
              (try simp only [Act.put, pq1, pq2, pq3])
              refine wpList_val (by rw [hO]; kernel_rfl) (.bool false) (fun K9 hK9 => by go_simp; exact hK9) ?_
              (try simp only [Act.put, pq1, pq2, pq3])
              go_wp2
              go_meet
              case rel => exact ⟨rfl, rfl⟩
            · have f1 : ¬ (j : Int) < (np : Int) - 1 := by omega
              clear q3 hf
              refine region_named fun O hO => ?_
              refine wpList_val (by rw [hO]; kernel_rfl) (.int .i64 ((j : Int))) (fun K9 hK9 => by go_simp; exact hK9) ?_
              (try simp only [Act.put, pq1, pq2, pq3])
              refine wpList_val (by rw [hO]; kernel_rfl) (.slice (some ⟨pb, po, none⟩) np pc) (fun K9 hK9 => by go_simp; exact hK9) ?_
              (try simp only [Act.put, pq1, pq2, pq3])
              refine wpList_val (by rw [hO]; kernel_rfl) (.int .i64 (np : Int)) (fun K9 hK9 => by go_simp; exact hK9) ?_
              (try simp only [Act.put, pq1, pq2, pq3])
              refine wpList_val (by rw [hO]; kernel_rfl) (.int .i64 ((np : Int) - 1)) (fun K9 hK9 => by go_simp; exact hK9) ?_
              (try simp only [Act.put, pq1, pq2, pq3])
              refine wpList_val (by rw [hO]; kernel_rfl) (.bool false) (fun K9 hK9 => by go_simp; exact hK9) ?_
              (try simp only [Act.put, pq1, pq2, pq3])
              refine wpList_val (by rw [hO]; kernel_rfl) (.bool false) (fun K9 hK9 => by go_simp; exact hK9) ?_
              (try simp only [Act.put, pq1, pq2, pq3])
              refine wpList_skip (by rw [hO]; kernel_rfl) ?_
              (try simp only [Act.put, pq1, pq2, pq3])
              refine wpList_skip (by rw [hO]; kernel_rfl) ?_
              (try simp only [Act.put, pq1, pq2, pq3])
              refine wpList_skip (by rw [hO]; kernel_rfl) ?_
              (try simp only [Act.put, pq1, pq2, pq3])
              refine wpList_skip (by rw [hO]; kernel_rfl) ?_
              (try simp only [Act.put, pq1, pq2, pq3])
              refine wpList_skip (by rw [hO]; kernel_rfl) ?_
              (try simp only [Act.put, pq1, pq2, pq3])
              refine wpList_skip (by rw [hO]; kernel_rfl) ?_
              (try simp only [Act.put, pq1, pq2, pq3])
              refine wpList_skip (by rw [hO]; kernel_rfl) ?_
              (try simp only [Act.put, pq1, pq2, pq3])
              refine wpList_val (by rw [hO]; kernel_rfl) (.bool false) (fun K9 hK9 => by go_simp; exact hK9) ?_
              (try simp only [Act.put, pq1, pq2, pq3])
              refine wpList_val (by rw [hO]; kernel_rfl) (.bool false) (fun K9 hK9 => by go_simp; exact hK9) ?_
              (try simp only [Act.put, pq1, pq2, pq3])
              refine wpList_val (by rw [hO]; kernel_rfl) (.slice (some ⟨pb, po, none⟩) np pc) (fun K9 hK9 => by go_simp; exact hK9) ?_
              (try simp only [Act.put, pq1, pq2, pq3])
              refine wpList_val (by rw [hO]; kernel_rfl) (.int .i64 ((j : Int))) (fun K9 hK9 => by go_simp; exact hK9) ?_
              (try simp only [Act.put, pq1, pq2, pq3])
              refine wpList_val (by rw [hO]; kernel_rfl) (.pointer (some ⟨pb, po + j, none⟩)) (fun K9 hK9 => by go_simp; exact hK9) ?_
              (try simp only [Act.put, pq1, pq2, pq3])
              refine wpList_val (by rw [hO]; kernel_rfl) (.slice ai mi ci) (fun K9 hK9 => by go_simp; exact hK9) ?_
              (try simp only [Act.put, pq1, pq2, pq3])
              refine wpList_val (by rw [hO]; kernel_rfl) (.int .i64 (mi : Int)) (fun K9 hK9 => by go_simp; exact hK9) ?_
              (try simp only [Act.put, pq1, pq2, pq3])
              refine wpList_val (by rw [hO]; kernel_rfl) (.bool false) (fun K9 hK9 => by go_simp; exact hK9) ?_
              (try simp only [Act.put, pq1, pq2, pq3])
              refine wpList_val (by rw [hO]; kernel_rfl) (.bool false) (fun K9 hK9 => by go_simp; exact hK9) ?_
              (try simp only [Act.put, pq1, pq2, pq3])
              refine wpList_val (by rw [hO]; kernel_rfl) (.bool false) (fun K9 hK9 => by go_simp; exact hK9) ?_
              (try simp only [Act.put, pq1, pq2, pq3])
              refine wpList_val (by rw [hO]; kernel_rfl) (.slice (some ⟨pb, po, none⟩) np pc) (fun K9 hK9 => by go_simp; exact hK9) ?_
              (try simp only [Act.put, pq1, pq2, pq3])
              refine wpList_val (by rw [hO]; kernel_rfl) (.int .i64 ((j : Int))) (fun K9 hK9 => by go_simp; exact hK9) ?_
              (try simp only [Act.put, pq1, pq2, pq3])
              refine wpList_val (by rw [hO]; kernel_rfl) (.pointer (some ⟨pb, po + j, none⟩)) (fun K9 hK9 => by go_simp; exact hK9) ?_
              (try simp only [Act.put, pq1, pq2, pq3])
              refine wpList_val (by rw [hO]; kernel_rfl) (.slice ai mi ci) (fun K9 hK9 => by go_simp; exact hK9) ?_
              (try simp only [Act.put, pq1, pq2, pq3])
              refine wpList_val (by rw [hO]; kernel_rfl) (.int .i64 (mi : Int)) (fun K9 hK9 => by go_simp; exact hK9) ?_
              (try simp only [Act.put, pq1, pq2, pq3])
              refine wpList_val (by rw [hO]; kernel_rfl) (.int .i64 ((s : Int))) (fun K9 hK9 => by go_simp; exact hK9) ?_
              (try simp only [Act.put, pq1, pq2, pq3])
              refine wpList_val (by rw [hO]; kernel_rfl) (.bool false) (fun K9 hK9 => by go_simp; exact hK9) ?_
              (try simp only [Act.put, pq1, pq2, pq3])
              refine wpList_val (by rw [hO]; kernel_rfl) (.bool false) (fun K9 hK9 => by go_simp; exact hK9) ?_
              (try simp only [Act.put, pq1, pq2, pq3])
              go_wp2
              go_meet
              case rel => exact ⟨rfl, rfl⟩
          case rest =>
            obtain ⟨rfl, hwx⟩ := hcut
            rw [hwx]
            clear hwx q3
            go_wp2
            go_roundw
            case rel => exact ⟨trivial, j + 1, by go_num, by omega⟩
            case measure => simp [intOf]; omega
        · have hjlt : ¬ (j : Int) < (np : Int) := by omega
          have cj := join_any w2 pa pc PS CS (unhide HC) (unhide HP) (by rw [unhide HFL, List.length_map, ← unhide HN]; omega) (by rw [← unhide HNP]; omega)
          rw [unhide HFL, ← unhide HNP] at cj
          go_wp2_with fail
          refine cj.mono ?_
          rintro e w4 ⟨v4, rfl, ho4, g4⟩
          clear cj
          obtain ⟨ja, jc, rfl, hJ, -⟩ := Cel.own ho4 (fun v hv => by obtain ⟨z, _, rfl⟩ := List.mem_map.1 hv; rfl)
          rw [List.length_map, ← unhide HN]
          have HJ := hide hJ
          have HG4 := hide (tn (unhide HG2) g4)
          have HL4 := hide ((unhide HL).kept (tn (unhide HG2) g4))
          clear ho4 hJ g4
          go_wp2_with fail
          go_loopw [9] (fun i wr => w4.grownBy wr none ∧ ∃ j : Nat, i = .int .i64 j ∧ j ≤ n) (fun i _ => n - (intOf i).toNat)
          case atStart => exact ⟨gb_refl _ _, 0, rfl, Nat.zero_le _⟩
          case round =>
            obtain ⟨hgr, k, rfl, hk⟩ := hrel
            have HGR := hide hgr
            clear hgr
            by_cases hlk : k < n
            · have hkl : k < l.length := by rw [← unhide HN]; exact hlk
              obtain ⟨jb, jo, rfl, hc1⟩ := ((unhide HJ).kept (unhide HGR)).at k (by simpa using hkl)
              obtain ⟨lb', lo', rfl, hc2⟩ := ((unhide HL4).kept (unhide HGR)).at k hkl
              rw [List.getElem_map] at hc1
              obtain ⟨x, hx⟩ : ∃ x, x = l[k] := ⟨_, rfl⟩
              rw [← hx] at hc1 hc2
              have hc1' : wr.cell? ⟨jb, jo + k, none⟩ = some (.int .i64 x) := hc1
              have hkw : IntKind.i64.wrap ((k : Int) + 1) = (k : Int) + 1 := by rw [IntKind.wrap_i64]; omega
              have hki : (k : Int) < (n : Int) := by omega
              clear hc1 hx
              go_upto_region 16 with fail
              go_quiet (fail)
              go_wp2
              go_roundw
              case rel => exact ⟨gb_drewN (unhide HGR) _, k + 1, by go_num, by omega⟩
              case measure => simp [intOf]; omega
            · have hki : ¬ (k : Int) < (n : Int) := by omega
              have hmk := make_bytes wr n (by omega)
              obtain ⟨W5, hW5⟩ : ∃ W, W = wr.alloc (.cells ((List.replicate n (0 : UInt8)).map bv).toArray 5) := ⟨_, rfl⟩
              have hB5 : Blk W5 wr.heap.size 5 ((List.replicate n (0 : UInt8)).map bv) := by rw [hW5]; exact Blk.new _ _ _
              have g5 : wr.grownBy W5 none := by rw [hW5]; exact gb_alloc (gb_refl _ _) _
              rw [← hW5] at hmk
              have hb5 := bts_blk hB5 (by simp; unfold maxLen; omega)
              have cp := pad_any W5 _ _ _ hb5 (by simp; omega)
              rw [List.length_replicate] at cp
              obtain ⟨pn, hpn⟩ : ∃ p, p = pdN n := ⟨_, rfl⟩
              rw [← hpn] at cp
              have hpb := pdN_lt n
              have HPE := hide hpn
              obtain ⟨PZ, hPZ⟩ : ∃ P, P = padL (List.replicate n 0) := ⟨_, rfl⟩
              have hPZl : PZ.length = pn := by rw [hPZ, padL_length, List.length_replicate, hpn]
              rw [← hPZ] at cp
              have hcn : cnI (n : Int) = (((pn + 2048 - 1) / 2048 : Nat) : Int) := by unfold cnI; rw [pdI_nat n (by omega), ← hpn]; omega
              have HCN := hide hcn
              have HPL := hide hPZl
              have hpnb : pn ≤ 3260 := by omega
              clear hW5 hB5 hb5 hpn hPZ hPZl hcn hpb
              go_wp2_with fail
              refine cp.mono ?_
              rintro e w6 ⟨xb, rfl, hxb, hX, g6⟩
              clear cp hmk
              have HG6 := hide (tn (tn (unhide HG4) (unhide HGR)) (tn g5 g6))
              have hbx := bts_blk hX (by rw [unhide HPL]; unfold maxLen; omega)
              have cb := cu_cut w6 _ _ _ hbx.cel (by rw [List.length_map, unhide HPL]; omega) 2048 2048 (by omega)
              rw [List.length_map, unhide HPL] at cb
              have HCB := hide cb
              clear cb hX hbx g5 g6
              go_upto_region 19 with fail
              refine region_named fun O hO => ?_
              refine wpList_val (by rw [hO]; kernel_rfl) (.slice (some ⟨xb, 0, none⟩) pn pn) (fun K9 hK9 => by go_simp; exact hK9) ?_
              (try simp only [Act.put, pq1, pq2, pq3])
              refine wpList_want (by rw [hO]; kernel_rfl) fun K9 hK9 => ?_
              go_simp
              go_at_call 18
              refine (unhide HCB).mono ?_
              rintro e w8 ⟨v8, rfl, hu8⟩
              obtain ⟨w7, PU, CU, g7, hPU, hCU, hoU, g8⟩ := hu8
              obtain ⟨ua, uc, rfl, -, -⟩ := Cel.own hoU hPU.one
              have hun := cuts_len hCU (by omega)
              rw [← hPU.len, List.length_map, unhide HPL] at hun
              have HG8 := hide (tn (unhide HG6) (tn g7 g8))
              obtain ⟨un, hune⟩ : ∃ u, u = PU.length := ⟨_, rfl⟩
              rw [← hune] at hun ⊢
              have HUN := hide hun
              clear g7 hPU hCU hoU g8 hun hune
              refine hK9 _ _ ?_
              clear hK9 K9
              (try simp only [Act.put, pq1, pq2, pq3])
              refine wpList_val (by rw [hO]; kernel_rfl) (.int .i64 (un : Int)) (fun K9 hK9 => by go_simp; exact hK9) ?_
              (try simp only [Act.put, pq1, pq2, pq3])
              refine wpList_val (by rw [hO]; kernel_rfl) (.slice ao n c) (fun K9 hK9 => by go_simp; exact hK9) ?_
              (try simp only [Act.put, pq1, pq2, pq3])
              refine wpList_val (by rw [hO]; kernel_rfl) (.int .i64 (n : Int)) (fun K9 hK9 => by go_simp; exact hK9) ?_
              (try simp only [Act.put, pq1, pq2, pq3])
              refine wpList_want (by rw [hO]; kernel_rfl) fun K9 hK9 => ?_
              go_simp
              go_at_call 13
              refine (count_any w8 (n : Int)).mono ?_
              rintro e w9 ⟨rfl, hw9⟩
              subst w9
              rw [show cnI (n : Int) = (un : Int) from by rw [unhide HUN]; exact unhide HCN]
              refine hK9 _ _ ?_
              clear hK9 K9
              (try simp only [Act.put, pq1, pq2, pq3])
              refine wpList_val (by rw [hO]; kernel_rfl) (.bool true) (fun K9 hK9 => by go_simp; exact hK9) ?_
              (try simp only [Act.put, pq1, pq2, pq3])
              refine wpList_val (by rw [hO]; kernel_rfl) (.bool true) (fun K9 hK9 => by go_simp; exact hK9) ?_
              (try simp only [Act.put, pq1, pq2, pq3])
              refine wpList_want (by rw [hO]; kernel_rfl) fun K9 hK9 => ?_
              go_simp
              go_at_call 15
              refine (ckone_any w8).mono ?_
              rintro e w9 ⟨rfl, g9⟩
              have G9 := tn (unhide HG8) g9
              refine hK9 _ _ ?_
              clear hK9 K9
              (try simp only [Act.put, pq1, pq2, pq3])
              refine wpList_val (by rw [hO]; kernel_rfl) (.bool true) (fun K9 hK9 => by go_simp; exact hK9) ?_
              (try simp only [Act.put, pq1, pq2, pq3])
              refine wpList_val (by rw [hO]; kernel_rfl) (.bool true) (fun K9 hK9 => by go_simp; exact hK9) ?_
              (try simp only [Act.put, pq1, pq2, pq3])
              go_wp2
              go_ret
              exact ⟨rfl, G9⟩

end Go.Proofs.Ytadkpkdojbhigaa
