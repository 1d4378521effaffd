/- DiskClones: the walk. -/
import Derived.Test.YtfaipdifkmjdeaaDkU
namespace Go.Proofs.Ytfaipdifkmjdeaa
open Go.RowKit

theorem padS_take (b : List UInt8) : (padS b).take b.length = b := by
  unfold padS
  rw [List.take_left']
  rfl
/-- What the other one is. -/
def cl4 (j : Nat) (x : List UInt8) : Dsk := { newD 4 with U := (newD 4).U ++ [(j, x)] }
theorem cl4_last (j : Nat) (x : List UInt8) : lastD (cl4 j x) j = x := by
  unfold lastD cl4 newD
  rw [rowsU_snoc, if_pos rfl]
  rfl
theorem cl4_kept (j : Nat) (hj : j ≤ 3) (x : List UInt8) (hx : x.length = 256) : keptD (settleD (fun _ => 256) (cl4 j x)) j = x := by
  have e : settleD (fun _ => 256) (cl4 j x) = ⟨(List.replicate 4 zsec).set j x, [], -1, false⟩ := by
    simp only [cl4, settleD, newD, List.nil_append, layAll, clampN_256]
    rw [lay_full (x := (j, x)) hx (by simp; omega) (fun s hs => by rw [List.eq_of_mem_replicate hs]; exact zsec_len)]
  rw [e]
  unfold keptD
  simp only
  rw [List.getElem?_set_self (by simp; omega)]
  rfl

set_option maxRecDepth 100000 in
set_option maxHeartbeats 8000000 in
theorem walk_dclones (w : World) (a : Int) (bo : Option Addr) (bc : Nat) (be : List UInt8) (hb0 : Bts w bo bc be) (lo : Option Addr) (lc : Nat) (L : List ActD) (hL0 : ActsD w lo lc L) :
    Calls Try.prog 7 #[.int .i64 a, .slice bo be.length bc, .slice lo L.length lc] w fun e w' => e = .returned (.bool true) ∧ w.grownBy w' none := by
  obtain ⟨n1, hn1⟩ : ∃ n, n = be.length := ⟨_, rfl⟩
  obtain ⟨n2, hn2⟩ : ∃ n, n = L.length := ⟨_, rfl⟩
  rw [← hn1, ← hn2]
  have cn := lnew (gb_refl w none) 4 (by decide) (by decide)
  obtain ⟨j, hj, hand⟩ := and_mask 3 (by decide) a
  have hand2 : bits .and .i64 a 3 = (j : Int) := hand
  by_cases hl1 : n1 ≤ 256
  case neg =>
    have hd1 : decide ((256 : Int) < (n1 : Int)) = true := decide_eq_true (by omega)
    clear hb0 hL0 hn1 hn2 hl1 hand
    go_enter Try.func7, Try.ntmps7
    go_upto_region 3 with (go_at_call 8; refine cn.mono ?_; rintro e w1 ⟨d, F1, rfl, h1, -, -⟩; have HG := hide h1.gb; clear cn h1)
    clear hand2
    refine region_named fun O hO => ?_
    refine wpList_val (by rw [hO]; kernel_rfl) (.int .i64 0) (fun K9 hK9 => by go_simp; exact hK9) ?_
    (try simp only [Act.put, pq1, pq2, pq3])
    refine wpList_val (by rw [hO]; kernel_rfl) (.bool false) (fun K9 hK9 => by go_simp; exact hK9) ?_
    (try simp only [Act.put, pq1, pq2, pq3])
    refine wpList_val (by rw [hO]; kernel_rfl) (.bool false) (fun K9 hK9 => by go_simp; exact hK9) ?_
    (try simp only [Act.put, pq1, pq2, pq3])
    refine wpList_val (by rw [hO]; kernel_rfl) (.pointer (some ⟨d, 0, none⟩)) (fun K9 hK9 => by go_simp; exact hK9) ?_
    (try simp only [Act.put, pq1, pq2, pq3])
    refine wpList_val (by rw [hO]; kernel_rfl) (.bool false) (fun K9 hK9 => by go_simp; exact hK9) ?_
    (try simp only [Act.put, pq1, pq2, pq3])
    refine wpList_val (by rw [hO]; kernel_rfl) (.bool false) (fun K9 hK9 => by go_simp; exact hK9) ?_
    (try simp only [Act.put, pq1, pq2, pq3])
    refine wpList_val (by rw [hO]; kernel_rfl) (.bool false) (fun K9 hK9 => by go_simp; exact hK9) ?_
    (try simp only [Act.put, pq1, pq2, pq3])
    refine wpList_val (by rw [hO]; kernel_rfl) (.slice bo n1 bc) (fun K9 hK9 => by go_simp; exact hK9) ?_
    (try simp only [Act.put, pq1, pq2, pq3])
    refine wpList_val (by rw [hO]; kernel_rfl) (.int .i64 (n1 : Int)) (fun K9 hK9 => by go_simp; exact hK9) ?_
    (try simp only [Act.put, pq1, pq2, pq3])
    refine wpList_val (by rw [hO]; kernel_rfl) (.bool true) (fun K9 hK9 => by go_simp; exact hK9) ?_
    (try simp only [Act.put, pq1, pq2, pq3])
    refine wpList_val (by rw [hO]; kernel_rfl) (.bool true) (fun K9 hK9 => by go_simp; exact hK9) ?_
    (try simp only [Act.put, pq1, pq2, pq3])
    refine wpList_val (by rw [hO]; kernel_rfl) (.bool true) (fun K9 hK9 => by go_simp; exact hK9) ?_
    (try simp only [Act.put, pq1, pq2, pq3])
    refine wpList_skip (by rw [hO]; kernel_rfl) ?_
    (try simp only [Act.put, pq1, pq2, pq3])
    refine wpList_skip (by rw [hO]; kernel_rfl) ?_
    (try simp only [Act.put, pq1, pq2, pq3])
    refine wpList_skip (by rw [hO]; kernel_rfl) ?_
    (try simp only [Act.put, pq1, pq2, pq3])
    refine wpList_skip (by rw [hO]; kernel_rfl) ?_
    (try simp only [Act.put, pq1, pq2, pq3])
    refine wpList_skip (by rw [hO]; kernel_rfl) ?_
    (try simp only [Act.put, pq1, pq2, pq3])
    refine wpList_val (by rw [hO]; kernel_rfl) (.bool true) (fun K9 hK9 => by go_simp; exact hK9) ?_
    (try simp only [Act.put, pq1, pq2, pq3])
    go_wp2
    go_ret
    exact ⟨rfl, unhide HG⟩
  have hd1 : decide ((256 : Int) < (n1 : Int)) = false := decide_eq_false (by omega)
  have hw1 : be.length ≤ 256 := by omega
  have hx := padS_len hw1
  obtain ⟨x, hxx⟩ : ∃ x, x = padS be := ⟨_, rfl⟩
  have HB0 := hide hb0
  have HL0 := hide hL0
  have HN1 := hide hn1
  have HN2 := hide hn2
  have HW1 := hide hw1
  have HX := hide hx
  have HXX := hide hxx
  clear hb0 hL0 hn1 hn2 hl1 hw1 hx hxx hand
  go_enter Try.func7, Try.ntmps7
  go_upto_region 3 with (go_at_call 8; refine cn.mono ?_; rintro e w1 ⟨d, F1, rfl, h1, -, -⟩; clear cn)
  clear hand2
  refine region_named fun O hO => ?_
  refine wpList_val (by rw [hO]; kernel_rfl) (.int .i64 0) (fun K9 hK9 => by go_simp; exact hK9) ?_
  (try simp only [Act.put, pq1, pq2, pq3])
  refine wpList_val (by rw [hO]; kernel_rfl) (.bool false) (fun K9 hK9 => by go_simp; exact hK9) ?_
  (try simp only [Act.put, pq1, pq2, pq3])
  refine wpList_val (by rw [hO]; kernel_rfl) (.bool false) (fun K9 hK9 => by go_simp; exact hK9) ?_
  (try simp only [Act.put, pq1, pq2, pq3])
  refine wpList_val (by rw [hO]; kernel_rfl) (.pointer (some ⟨d, 0, none⟩)) (fun K9 hK9 => by go_simp; exact hK9) ?_
  (try simp only [Act.put, pq1, pq2, pq3])
  refine wpList_val (by rw [hO]; kernel_rfl) (.bool false) (fun K9 hK9 => by go_simp; exact hK9) ?_
  (try simp only [Act.put, pq1, pq2, pq3])
  refine wpList_val (by rw [hO]; kernel_rfl) (.bool false) (fun K9 hK9 => by go_simp; exact hK9) ?_
  (try simp only [Act.put, pq1, pq2, pq3])
  refine wpList_val (by rw [hO]; kernel_rfl) (.bool false) (fun K9 hK9 => by go_simp; exact hK9) ?_
  (try simp only [Act.put, pq1, pq2, pq3])
  refine wpList_val (by rw [hO]; kernel_rfl) (.slice bo n1 bc) (fun K9 hK9 => by go_simp; exact hK9) ?_
  (try simp only [Act.put, pq1, pq2, pq3])
  refine wpList_val (by rw [hO]; kernel_rfl) (.int .i64 (n1 : Int)) (fun K9 hK9 => by go_simp; exact hK9) ?_
  (try simp only [Act.put, pq1, pq2, pq3])
  refine wpList_val (by rw [hO]; kernel_rfl) (.bool false) (fun K9 hK9 => by go_simp; exact hK9) ?_
  (try simp only [Act.put, pq1, pq2, pq3])
  refine wpList_val (by rw [hO]; kernel_rfl) (.bool false) (fun K9 hK9 => by go_simp; exact hK9) ?_
  (try simp only [Act.put, pq1, pq2, pq3])
  refine wpList_val (by rw [hO]; kernel_rfl) (.bool false) (fun K9 hK9 => by go_simp; exact hK9) ?_
  (try simp only [Act.put, pq1, pq2, pq3])
  refine wpList_val (by rw [hO]; kernel_rfl) (.pointer (some ⟨d, 0, none⟩)) (fun K9 hK9 => by go_simp; exact hK9) ?_
  (try simp only [Act.put, pq1, pq2, pq3])
  refine wpList_val (by rw [hO]; kernel_rfl) (.int .i64 (j : Int)) (fun K9 hK9 => by go_simp; exact hK9) ?_
  (try simp only [Act.put, pq1, pq2, pq3])
  refine wpList_val (by rw [hO]; kernel_rfl) (.slice bo n1 bc) (fun K9 hK9 => by go_simp; exact hK9) ?_
  (try simp only [Act.put, pq1, pq2, pq3])
  refine wpList_want (by rw [hO]; kernel_rfl) fun K9 hK9 => ?_
  go_simp
  go_at_call 11
  refine (lwrite_free h1 rfl (show (-1 : Int) < 0 by decide) (j : Int) j rfl (by simp [newD]; omega) _ _ be (h1.bts (unhide HB0)) n1 (unhide HN1) (unhide HW1) (by simp [newD])).mono ?_
  rintro e w2 ⟨rfl, F2, h2, -⟩
  rw [← unhide HXX] at h2
  clear h1
  refine hK9 _ _ ?_
  clear hK9 K9
  (try simp only [Act.put, pq1, pq2, pq3])
  refine wpList_val (by rw [hO]; kernel_rfl) (.bool false) (fun K9 hK9 => by go_simp; exact hK9) ?_
  (try simp only [Act.put, pq1, pq2, pq3])
  refine wpList_val (by rw [hO]; kernel_rfl) (.bool false) (fun K9 hK9 => by go_simp; exact hK9) ?_
  (try simp only [Act.put, pq1, pq2, pq3])
  have h2b : Dw w w2 F2 d (cl4 j x) := h2
  have cc := lclone h2b (by unfold cl4; simp [newD])
  clear h2
  go_upto_region 6 with (go_at_call 25; refine cc.mono ?_; rintro e w5 ⟨c, G, rfl, h5, hG5, g5⟩; clear cc)
  have hst2 : Two w w5 F2 d (cl4 j x) G c (cl4 j x) ∧ (cl4 j x).U.length ≤ 0 + 1 := ⟨Two.made h2b h5 hG5 g5, by unfold cl4; simp [newD]⟩
  have HST := hide hst2
  clear hst2 h2b h5 hG5 g5 hd1
  go_wp2
  go_loopw [10] (fun i wr => ∃ (k : Nat) (D : Dsk) (F : List Nat), i = .int .i64 k ∧ k ≤ n2 ∧ k ≤ 30 ∧ Hid (Two w wr F d D G c (cl4 j x) ∧ D.U.length ≤ k + 1)) (fun i _ => n2 - (intOf i).toNat)
  case atStart => exact ⟨0, cl4 j x, F2, rfl, Nat.zero_le _, Nat.zero_le _, HST⟩
  case round =>
    obtain ⟨k, D, F, rfl, hk, hk4, HR⟩ := hrel
    by_cases hlt : k < n2
    · have hdk : decide ((k : Int) < (n2 : Int)) = true := by simp; omega
      by_cases h40 : k < 30
      · have hlt' : k < L.length := by have := unhide HN2; omega
        obtain ⟨b, o, hlo, hrow, hact⟩ := ((unhide HL0).kept (unhide HR).1.a.gb).at k hlt'
        obtain ⟨p, hp⟩ : ∃ p, p = L[k] := ⟨_, rfl⟩
        rw [← hp] at hrow hact
        obtain ⟨Z, hZ, hzv⟩ := zero_act
        obtain ⟨EB, hEB⟩ : ∃ EB, EB = acC p := ⟨_, rfl⟩
        obtain ⟨W1, hW1, hB1, g1⟩ := row_new wr 36 Z EB
        have hBZ : Blk (wr.alloc (.cells Z 36)) wr.heap.size 36 Z.toList := by simpa using Blk.new wr 36 Z.toList
        have hiE : (Try.prog.info? 36).map (·.size) = some EB.length := by rw [hEB]; exact info_act
        have hiE2 : (Try.prog.info? 36).map (·.size) = some EB.toArray.size := by rw [hEB]; exact info_act
        have hZE : Z.toList.toArray.size = EB.toArray.size := by rw [hEB]; simp [hZ, acC]
        have hEo : EB.toArray.all (·.oneCell') = true := by rw [hEB]; exact all_oneCell_toArray (acC_one p)
        obtain ⟨q, hq⟩ : ∃ q, q = wr.heap.size := ⟨_, rfl⟩
        rw [← hq] at hB1
        have hx0 : W1.cell? ⟨q, 0, none⟩ = some (.int .i64 p.kind) := by rw [hB1.cell, hEB]; rfl
        have hx1 : W1.cell? ⟨q, 1, none⟩ = some (.int .i64 p.n) := by rw [hB1.cell, hEB]; rfl
        have hx2 : W1.cell? ⟨q, 2, none⟩ = some (.slice p.bo p.be.length p.bc) := by rw [hB1.cell, hEB]; rfl
        have hx3 : W1.cell? ⟨q, 3, none⟩ = some (.slice p.fo p.fl.length p.fc) := by rw [hB1.cell, hEB]; rfl
        have hS1 := (unhide HR).1.nn g1
        have hA1 := hact.kept g1
        have hK1 := (unhide HR).2
        rw [← hEB] at hrow
        have HW1 := hide hW1
        have HBZ := hide hBZ
        have HIE := hide hiE
        have HIE2 := hide hiE2
        have HZE := hide hZE
        have HEO := hide hEo
        have HS1 := hide hS1
        have HA1 := hide hA1
        have HK1 := hide hK1
        have HQ := hide hq
        have hkw : IntKind.i64.wrap ((k : Int) + 1) = (k : Int) + 1 := by rw [IntKind.wrap_i64]; omega
        clear hp hEB hW1 hB1 g1 hBZ hiE hiE2 hZE hEo hq hS1 hA1 hK1 hact hZ HR hlt'
        subst hlo
        go_upto_region 10 with (first
          | (refine wpList_load_mid rfl 36 _ rfl b (o + k * 4) rfl EB _ hrow Try.underlying36 rfl (unhide HIE) ?_; clear hrow)
          | (have hB9 := unhide HBZ; refine wpList_store_row rfl 36 _ _ rfl wr.heap.size EB.toArray rfl rfl _ _ hB9 (unhide HIE2) (unhide HZE) (unhide HEO) ?_; clear hB9; rw [← unhide HW1, ← unhide HQ]))
        clear HBZ HIE HIE2 HZE HEO HW1
        by_cases k0 : p.kind = 0
        · by_cases kl : p.be.length < 300
          · have e0 : (p.kind == 0) = true := beq_iff_eq.2 (by omega)
            have d0 : decide (p.kind = 0) = true := decide_eq_true (by omega)
            have e1 : (p.kind == 1) = false := beq_eq_false_iff_ne.2 (by omega)
            have d1 : decide (p.kind = 1) = false := decide_eq_false (by omega)
            have e2 : (p.kind == 2) = false := beq_eq_false_iff_ne.2 (by omega)
            have d2 : decide (p.kind = 2) = false := decide_eq_false (by omega)
            have e3 : (p.kind == 3) = false := beq_eq_false_iff_ne.2 (by omega)
            have d3 : decide (p.kind = 3) = false := decide_eq_false (by omega)
            have dl : (p.be.length : Int) < 300 := by omega
            have cw := lwrite (unhide HS1).a p.n p.bo p.bc p.be (unhide HA1).b (by have := unhide HK1; omega)
            clear k0 kl
            go_wp2_with (go_at_call 11; refine cw.mono ?_; rintro e w2 ⟨rfl, hlf⟩; obtain ⟨F2, hs2⟩ := (unhide HS1).step hlf; have HS2 := hide hs2; clear cw hlf hs2)
            go_roundw
            case rel => exact ⟨k + 1, _, F2, by go_num, by omega, by omega, unhide HS2, Nat.le_trans (wr_u _ _ _) (Nat.succ_le_succ (unhide HK1))⟩
            case measure => simp [intOf]; omega
          · have e0 : (p.kind == 0) = true := beq_iff_eq.2 (by omega)
            have d0 : decide (p.kind = 0) = true := decide_eq_true (by omega)
            have e1 : (p.kind == 1) = false := beq_eq_false_iff_ne.2 (by omega)
            have d1 : decide (p.kind = 1) = false := decide_eq_false (by omega)
            have e2 : (p.kind == 2) = false := beq_eq_false_iff_ne.2 (by omega)
            have d2 : decide (p.kind = 2) = false := decide_eq_false (by omega)
            have e3 : (p.kind == 3) = false := beq_eq_false_iff_ne.2 (by omega)
            have d3 : decide (p.kind = 3) = false := decide_eq_false (by omega)
            have dl : ¬ (p.be.length : Int) < 300 := by omega
            clear k0 kl
            go_wp2
            go_roundw
            case rel => exact ⟨k + 1, D, F, by go_num, by omega, by omega, unhide HS1, Nat.le_succ_of_le (unhide HK1)⟩
            case measure => simp [intOf]; omega
        · by_cases k1 : p.kind = 1
          · have e0 : (p.kind == 0) = false := beq_eq_false_iff_ne.2 (by omega)
            have d0 : decide (p.kind = 0) = false := decide_eq_false (by omega)
            have e1 : (p.kind == 1) = true := beq_iff_eq.2 (by omega)
            have d1 : decide (p.kind = 1) = true := decide_eq_true (by omega)
            have e2 : (p.kind == 2) = false := beq_eq_false_iff_ne.2 (by omega)
            have d2 : decide (p.kind = 2) = false := decide_eq_false (by omega)
            have e3 : (p.kind == 3) = false := beq_eq_false_iff_ne.2 (by omega)
            have d3 : decide (p.kind = 3) = false := decide_eq_false (by omega)
            have cw := lsync (unhide HS1).a (by have := unhide HK1; omega)
            clear k0 k1
            go_wp2_with (go_at_call 13; refine cw.mono ?_; rintro e w2 ⟨rfl, hlf⟩; obtain ⟨F2, hs2⟩ := (unhide HS1).step hlf; have HS2 := hide hs2; clear cw hlf hs2)
            go_roundw
            case rel => exact ⟨k + 1, _, F2, by go_num, by omega, by omega, unhide HS2, Nat.le_succ_of_le (Nat.le_trans (sy_u _) (unhide HK1))⟩
            case measure => simp [intOf]; omega
          · by_cases k2 : p.kind = 2
            · have e0 : (p.kind == 0) = false := beq_eq_false_iff_ne.2 (by omega)
              have d0 : decide (p.kind = 0) = false := decide_eq_false (by omega)
              have e1 : (p.kind == 1) = false := beq_eq_false_iff_ne.2 (by omega)
              have d1 : decide (p.kind = 1) = false := decide_eq_false (by omega)
              have e2 : (p.kind == 2) = true := beq_iff_eq.2 (by omega)
              have d2 : decide (p.kind = 2) = true := decide_eq_true (by omega)
              have e3 : (p.kind == 3) = false := beq_eq_false_iff_ne.2 (by omega)
              have d3 : decide (p.kind = 3) = false := decide_eq_false (by omega)
              have cw := larm (unhide HS1).a p.n (unhide HA1).hi
              clear k0 k1 k2
              go_wp2_with (go_at_call 14; refine cw.mono ?_; rintro e w2 ⟨rfl, hlf⟩; obtain ⟨F2, hs2⟩ := (unhide HS1).step hlf; have HS2 := hide hs2; clear cw hlf hs2)
              go_roundw
              case rel => exact ⟨k + 1, _, F2, by go_num, by omega, by omega, unhide HS2, Nat.le_succ_of_le (unhide HK1)⟩
              case measure => simp [intOf]; omega
            · by_cases k3 : p.kind = 3
              · by_cases kl : p.fl.length < 100
                · have e0 : (p.kind == 0) = false := beq_eq_false_iff_ne.2 (by omega)
                  have d0 : decide (p.kind = 0) = false := decide_eq_false (by omega)
                  have e1 : (p.kind == 1) = false := beq_eq_false_iff_ne.2 (by omega)
                  have d1 : decide (p.kind = 1) = false := decide_eq_false (by omega)
                  have e2 : (p.kind == 2) = false := beq_eq_false_iff_ne.2 (by omega)
                  have d2 : decide (p.kind = 2) = false := decide_eq_false (by omega)
                  have e3 : (p.kind == 3) = true := beq_iff_eq.2 (by omega)
                  have d3 : decide (p.kind = 3) = true := decide_eq_true (by omega)
                  have dl : (p.fl.length : Int) < 100 := by omega
                  have cf := lfates_any W1 p.fo p.fc p.fl (unhide HA1).f
                  have ht : p.fl.take 500 = p.fl := List.take_of_length_le (by omega)
                  rw [ht] at cf
                  clear k0 k1 k2 k3 kl ht
                  go_wp2_with fail
                  refine cf.mono ?_
                  rintro e w2 ⟨fo2, fc2, rfl, hf2, hn2, g2⟩
                  have hs2 := (unhide HS1).nn g2
                  have hoff2 : ∀ ad, fo2 = some ad → ad.block ∉ F := fun ad e hm => by have := hn2 ad e; have := ((unhide HS1).a.lo _ hm).2; omega
                  have cw := lfall hs2.a (by have := unhide HK1; omega) fo2 fc2 _ hf2 hoff2
                  have HS2 := hide hs2
                  clear cf hf2 hn2 g2 hs2 hoff2
                  go_wp2_with (go_at_call 15; refine cw.mono ?_; rintro e w3 ⟨rfl, hlf⟩; obtain ⟨F3, hs3⟩ := (unhide HS2).step hlf; have HS3 := hide hs3; clear cw hlf hs3)
                  go_roundw
                  case rel => exact ⟨k + 1, _, F3, by go_num, by omega, by omega, unhide HS3, by rw [fa_u]; exact Nat.zero_le _⟩
                  case measure => simp [intOf]; omega
                · have e0 : (p.kind == 0) = false := beq_eq_false_iff_ne.2 (by omega)
                  have d0 : decide (p.kind = 0) = false := decide_eq_false (by omega)
                  have e1 : (p.kind == 1) = false := beq_eq_false_iff_ne.2 (by omega)
                  have d1 : decide (p.kind = 1) = false := decide_eq_false (by omega)
                  have e2 : (p.kind == 2) = false := beq_eq_false_iff_ne.2 (by omega)
                  have d2 : decide (p.kind = 2) = false := decide_eq_false (by omega)
                  have e3 : (p.kind == 3) = true := beq_iff_eq.2 (by omega)
                  have d3 : decide (p.kind = 3) = true := decide_eq_true (by omega)
                  have dl : ¬ (p.fl.length : Int) < 100 := by omega
                  clear k0 k1 k2 k3 kl
                  go_wp2
                  go_roundw
                  case rel => exact ⟨k + 1, D, F, by go_num, by omega, by omega, unhide HS1, Nat.le_succ_of_le (unhide HK1)⟩
                  case measure => simp [intOf]; omega
              · have e0 : (p.kind == 0) = false := beq_eq_false_iff_ne.2 (by omega)
                have d0 : decide (p.kind = 0) = false := decide_eq_false (by omega)
                have e1 : (p.kind == 1) = false := beq_eq_false_iff_ne.2 (by omega)
                have d1 : decide (p.kind = 1) = false := decide_eq_false (by omega)
                have e2 : (p.kind == 2) = false := beq_eq_false_iff_ne.2 (by omega)
                have d2 : decide (p.kind = 2) = false := decide_eq_false (by omega)
                have e3 : (p.kind == 3) = false := beq_eq_false_iff_ne.2 (by omega)
                have d3 : decide (p.kind = 3) = false := decide_eq_false (by omega)
                clear k0 k1 k2 k3
                go_wp2
                go_roundw
                case rel => exact ⟨k + 1, D, F, by go_num, by omega, by omega, unhide HS1, Nat.le_succ_of_le (unhide HK1)⟩
                case measure => simp [intOf]; omega
      · have h40i : ¬ (k : Int) < 30 := by omega
        clear hdk
        have hdk : (k : Int) < (n2 : Int) := by omega
        have hr := (unhide HR).1
        have cu := lunder hr.b (by unfold cl4; simp [newD])
        have e1 : (cl4 j x).U.length = 1 := rfl
        have e2 : ((cl4 j x).U.map fun y => (y.1 : Int)) = [(j : Int)] := rfl
        rw [e1, e2] at cu
        clear e1 e2
        have HS := hide hr
        clear hr HR
        go_upto_region 22 with (go_at_call 20; refine cu.mono ?_; rintro e w2 ⟨uo, uc, rfl, hu2, hun, g2⟩; clear cu)
        have hs2 := (unhide HS).nn g2
        have cr := lread_up hs2.b (show (cl4 j x).down = false from rfl) (j : Int) j rfl (by unfold cl4; simp [newD]; try omega) (by unfold cl4; simp [newD])
        rw [cl4_last] at cr
        go_upto_region 23 with (go_at_call 18; refine cr.mono ?_; rintro e w3 ⟨ao, ac, rfl, hb3, hn3, g3⟩; clear cr)
        have hs3 := hs2.nn g3
        have hu3 := hu2.kept g3
        have hx := unhide HX
        have hxx := unhide HXX
        have hn1 := unhide HN1
        have hw1 := unhide HW1
        have hxl : (256 : Nat) = x.length := by rw [hxx]; exact hx.symm
        have hoff : ∀ ad, ao = some ad → ad.block ∉ G := fun ad e hm => by have := hn3 ad e; have := (hs2.b.lo _ hm).2; omega
        have hofu : ∀ ad, uo = some ad → ad.block ∉ G := fun ad e hm => by have := hun ad e; have := ((unhide HS).b.lo _ hm).2; omega
        obtain ⟨ub, uo2, huo, hcell⟩ := hu3.at 0 (by simp)
        have hlo := fun x hx => (hs3.b.lo x hx).1
        have hgb := hs3.b.gb
        have hsl : ∀ V, (Instr.slice 33 (.slice ao 256 ac) none (some (.int .i64 (n1 : Int))) none).run Try.prog V = .ok (.slice ao n1 ac) V := fun V => slice_to V 33 5 Try.underlying33 size_byte ao 256 ac n1 (by have := hb3.fits; omega)
        have hca : ∀ V, Fr w3 V G → (convert 33 9 (.slice ao n1 ac)).run Try.prog V = .ok (.string (str be)) V := fun V hV => by
          have := conv_len (n := n1) ((hV.bts hb3 hoff).take n1 (by omega)) (by rw [List.length_take]; omega)
          rw [show x.take n1 = be by rw [hn1, hxx, padS_take]] at this
          exact this
        have hcb : ∀ V, Fr w3 V G → (convert 33 9 (.slice bo n1 bc)).run Try.prog V = .ok (.string (str be)) V := fun V hV => conv_len ((unhide HB0).kept (gb_fr hgb hV hlo) (fun _ e => by cases e)) hn1
        have hld : ∀ V, Fr w3 V G → V.cell? ⟨ub, uo2, none⟩ = some (.int .i64 (j : Int)) := fun V hV => by have := hV.cell hcell (hofu _ huo); simpa using this
        have hcd : ∀ V, w3.grownBy V none → Calls Try.prog 21 #[.pointer (some ⟨c, 0, none⟩)] V (fun e w5 => e = .returned (.bool false) ∧ w5 = V) := fun V hV => ddown_any _ V G c _ (hs3.nn hV).b.at_
        have hcs : ∀ V, w3.grownBy V none → Calls Try.prog 13 #[.pointer (some ⟨c, 0, none⟩)] V (fun e w5 => e = .returned (.int .i64 0) ∧ Lf w V w5 G c (settleD (fun _ => 256) (cl4 j x))) := fun V hV => lsync_free (hs3.nn hV).b rfl (show (-1 : Int) < 0 by decide) (by unfold cl4; simp [newD])
        have hcx : ∀ V, Fr w3 V G → Bts V ao ac x := fun V hV => hV.bts hb3 hoff
        have hxk := cl4_kept j hj x (by rw [hxx]; exact hx)
        obtain ⟨S, hS⟩ : ∃ S, S = str be := ⟨_, rfl⟩
        rw [← hS] at hca hcb
        subst huo
        have HSL := hide hsl
        have HCA := hide hca
        have HCB := hide hcb
        have HLD := hide hld
        have HCD := hide hcd
        have HCS := hide hcs
        have HCX := hide hcx
        have HXL := hide hxl
        have HXK := hide hxk
        clear hsl hca hcb hld hcd hcs hS hb3 hxl hoff hofu hs3 hs2 hu2 hu3 hn3 hun g2 g3 hcell hx hxx hn1 hw1 HS hcx hxk hlo hgb
        refine wp_region_noPanic ?_
        refine wp_region_held_drew (S := fun V => Fr w3 V G) (by kernel_rfl) (Fr.none (gb_drew (gb_refl _ _)) G) (fun _ => ?_)
        refine wpAnyH_take (i := 0) (oi := ⟨some 106, .move (.tmp 14), _, _, _, _⟩) (v := (.int .i64 0)) rfl (by kernel_rfl) (by kernel_rfl) (by kernel_rfl) (fun _ _ _ h => h) (Or.inl ⟨by rfl, fun V (hV : Fr w3 V G) => by go_simp⟩) (Fr.none (gb_drew (gb_refl _ _)) G) ?_
        (try simp only [Act.put, pq1, pq2, pq3])
        refine wpAnyH_take (i := 1) (oi := ⟨some 107, .binOp .neq 24 (.tmp 106) (.const (.int .i64 0)) 24, _, _, _, _⟩) (v := (.bool false)) rfl (by kernel_rfl) (by kernel_rfl) (by kernel_rfl) (fun _ _ _ h => h) (Or.inl ⟨by rfl, fun V (hV : Fr w3 V G) => by go_simp⟩) (Fr.none (gb_drew (gb_refl _ _)) G) ?_
        (try simp only [Act.put, pq1, pq2, pq3])
        refine wpAnyH_take (i := 2) (oi := ⟨some 108, .move (.tmp 107), _, _, _, _⟩) (v := (.bool false)) rfl (by kernel_rfl) (by kernel_rfl) (by kernel_rfl) (fun _ _ _ h => h) (Or.inl ⟨by rfl, fun V (hV : Fr w3 V G) => by go_simp⟩) (Fr.none (gb_drew (gb_refl _ _)) G) ?_
        (try simp only [Act.put, pq1, pq2, pq3])
        refine wpAnyH_take (i := 3) (oi := ⟨some 109, .move (.tmp 13), _, _, _, _⟩) (v := (.slice ao 256 ac)) rfl (by kernel_rfl) (by kernel_rfl) (by kernel_rfl) (fun _ _ _ h => h) (Or.inl ⟨by rfl, fun V (hV : Fr w3 V G) => by go_simp⟩) (Fr.none (gb_drew (gb_refl _ _)) G) ?_
        (try simp only [Act.put, pq1, pq2, pq3])
        refine wpAnyH_take (i := 4) (oi := ⟨some 110, .call { callee := .builtin .len, args := #[(.tmp 109)], argTypes := #[33] }, _, _, _, _⟩) (v := (.int .i64 (256 : Int))) rfl (by kernel_rfl) (by kernel_rfl) (by kernel_rfl) (fun _ _ _ h => h) (Or.inl ⟨by rfl, fun V (hV : Fr w3 V G) => by go_simp⟩) (Fr.none (gb_drew (gb_refl _ _)) G) ?_
        (try simp only [Act.put, pq1, pq2, pq3])
        refine wpAnyH_take (i := 5) (oi := ⟨some 111, .binOp .neq 3 (.tmp 110) (.const (.int .i64 256)) 3, _, _, _, _⟩) (v := (.bool false)) rfl (by kernel_rfl) (by kernel_rfl) (by kernel_rfl) (fun _ _ _ h => h) (Or.inl ⟨by rfl, fun V (hV : Fr w3 V G) => by go_simp⟩) (Fr.none (gb_drew (gb_refl _ _)) G) ?_
        (try simp only [Act.put, pq1, pq2, pq3])
        refine wpAnyH_take (i := 6) (oi := ⟨some 112, .pick (.tmp 108) (.const (.bool true)) (.tmp 111), _, _, _, _⟩) (v := (.bool false)) rfl (by kernel_rfl) (by kernel_rfl) (by kernel_rfl) (fun _ _ _ h => h) (Or.inl ⟨by rfl, fun V (hV : Fr w3 V G) => by go_simp⟩) (Fr.none (gb_drew (gb_refl _ _)) G) ?_
        (try simp only [Act.put, pq1, pq2, pq3])
        refine wpAnyH_take (i := 7) (oi := ⟨some 113, .move (.tmp 112), _, _, _, _⟩) (v := (.bool false)) rfl (by kernel_rfl) (by kernel_rfl) (by kernel_rfl) (fun _ _ _ h => h) (Or.inl ⟨by rfl, fun V (hV : Fr w3 V G) => by go_simp⟩) (Fr.none (gb_drew (gb_refl _ _)) G) ?_
        (try simp only [Act.put, pq1, pq2, pq3])
        refine wpAnyH_take (i := 8) (oi := ⟨some 114, .move (.tmp 13), _, _, _, _⟩) (v := (.slice ao 256 ac)) rfl (by kernel_rfl) (by kernel_rfl) (by kernel_rfl) (fun _ _ _ h => h) (Or.inl ⟨by rfl, fun V (hV : Fr w3 V G) => by go_simp⟩) (Fr.none (gb_drew (gb_refl _ _)) G) ?_
        (try simp only [Act.put, pq1, pq2, pq3])
        refine wpAnyH_take (i := 9) (oi := ⟨some 115, .move (.tmp 1), _, _, _, _⟩) (v := (.slice bo n1 bc)) rfl (by kernel_rfl) (by kernel_rfl) (by kernel_rfl) (fun _ _ _ h => h) (Or.inl ⟨by rfl, fun V (hV : Fr w3 V G) => by go_simp⟩) (Fr.none (gb_drew (gb_refl _ _)) G) ?_
        (try simp only [Act.put, pq1, pq2, pq3])
        refine wpAnyH_take (i := 10) (oi := ⟨some 116, .call { callee := .builtin .len, args := #[(.tmp 115)], argTypes := #[33] }, _, _, _, _⟩) (v := (.int .i64 (n1 : Int))) rfl (by kernel_rfl) (by kernel_rfl) (by kernel_rfl) (fun _ _ _ h => h) (Or.inl ⟨by rfl, fun V (hV : Fr w3 V G) => by go_simp⟩) (Fr.none (gb_drew (gb_refl _ _)) G) ?_
        (try simp only [Act.put, pq1, pq2, pq3])
        refine wpAnyH_take (i := 11) (oi := ⟨some 117, .slice 33 (.tmp 114) none (some (.tmp 116)) none, _, _, _, _⟩) (v := (.slice ao n1 ac)) rfl (by kernel_rfl) (by kernel_rfl) (by kernel_rfl) (fun _ _ _ h => h) (Or.inl ⟨by rfl, fun V (hV : Fr w3 V G) => by (have hv1 := unhide HSL V; go_simp)⟩) (Fr.none (gb_drew (gb_refl _ _)) G) ?_
        (try simp only [Act.put, pq1, pq2, pq3])
        refine wpAnyH_take (i := 12) (oi := ⟨some 118, .convert 33 9 (.tmp 117), _, _, _, _⟩) (v := (.string S)) rfl (by kernel_rfl) (by kernel_rfl) (by kernel_rfl) (fun _ _ _ h => h) (Or.inl ⟨by rfl, fun V (hV : Fr w3 V G) => by (have hv1 := unhide HCA V hV; go_simp)⟩) (Fr.none (gb_drew (gb_refl _ _)) G) ?_
        (try simp only [Act.put, pq1, pq2, pq3])
        refine wpAnyH_take (i := 13) (oi := ⟨some 119, .move (.tmp 1), _, _, _, _⟩) (v := (.slice bo n1 bc)) rfl (by kernel_rfl) (by kernel_rfl) (by kernel_rfl) (fun _ _ _ h => h) (Or.inl ⟨by rfl, fun V (hV : Fr w3 V G) => by go_simp⟩) (Fr.none (gb_drew (gb_refl _ _)) G) ?_
        (try simp only [Act.put, pq1, pq2, pq3])
        refine wpAnyH_take (i := 14) (oi := ⟨some 120, .convert 33 9 (.tmp 119), _, _, _, _⟩) (v := (.string S)) rfl (by kernel_rfl) (by kernel_rfl) (by kernel_rfl) (fun _ _ _ h => h) (Or.inl ⟨by rfl, fun V (hV : Fr w3 V G) => by (have hv1 := unhide HCB V hV; go_simp)⟩) (Fr.none (gb_drew (gb_refl _ _)) G) ?_
        (try simp only [Act.put, pq1, pq2, pq3])
        refine wpAnyH_take (i := 15) (oi := ⟨some 121, .binOp .neq 9 (.tmp 118) (.tmp 120) 9, _, _, _, _⟩) (v := (.bool false)) rfl (by kernel_rfl) (by kernel_rfl) (by kernel_rfl) (fun _ _ _ h => h) (Or.inl ⟨by rfl, fun V (hV : Fr w3 V G) => by go_simp⟩) (Fr.none (gb_drew (gb_refl _ _)) G) ?_
        (try simp only [Act.put, pq1, pq2, pq3])
        refine wpAnyH_take (i := 16) (oi := ⟨some 122, .pick (.tmp 113) (.const (.bool true)) (.tmp 121), _, _, _, _⟩) (v := (.bool false)) rfl (by kernel_rfl) (by kernel_rfl) (by kernel_rfl) (fun _ _ _ h => h) (Or.inl ⟨by rfl, fun V (hV : Fr w3 V G) => by go_simp⟩) (Fr.none (gb_drew (gb_refl _ _)) G) ?_
        (try simp only [Act.put, pq1, pq2, pq3])
        refine wpAnyH_take (i := 17) (oi := ⟨some 123, .move (.tmp 122), _, _, _, _⟩) (v := (.bool false)) rfl (by kernel_rfl) (by kernel_rfl) (by kernel_rfl) (fun _ _ _ h => h) (Or.inl ⟨by rfl, fun V (hV : Fr w3 V G) => by go_simp⟩) (Fr.none (gb_drew (gb_refl _ _)) G) ?_
        (try simp only [Act.put, pq1, pq2, pq3])
        refine wpAnyH_take (i := 18) (oi := ⟨some 124, .move (.tmp 12), _, _, _, _⟩) (v := (.slice (some ⟨ub, uo2, none⟩) 1 uc)) rfl (by kernel_rfl) (by kernel_rfl) (by kernel_rfl) (fun _ _ _ h => h) (Or.inl ⟨by rfl, fun V (hV : Fr w3 V G) => by go_simp⟩) (Fr.none (gb_drew (gb_refl _ _)) G) ?_
        (try simp only [Act.put, pq1, pq2, pq3])
        refine wpAnyH_take (i := 19) (oi := ⟨some 125, .call { callee := .builtin .len, args := #[(.tmp 124)], argTypes := #[34] }, _, _, _, _⟩) (v := (.int .i64 (1 : Int))) rfl (by kernel_rfl) (by kernel_rfl) (by kernel_rfl) (fun _ _ _ h => h) (Or.inl ⟨by rfl, fun V (hV : Fr w3 V G) => by go_simp⟩) (Fr.none (gb_drew (gb_refl _ _)) G) ?_
        (try simp only [Act.put, pq1, pq2, pq3])
        refine wpAnyH_take (i := 20) (oi := ⟨some 126, .binOp .neq 3 (.tmp 125) (.const (.int .i64 1)) 3, _, _, _, _⟩) (v := (.bool false)) rfl (by kernel_rfl) (by kernel_rfl) (by kernel_rfl) (fun _ _ _ h => h) (Or.inl ⟨by rfl, fun V (hV : Fr w3 V G) => by go_simp⟩) (Fr.none (gb_drew (gb_refl _ _)) G) ?_
        (try simp only [Act.put, pq1, pq2, pq3])
        refine wpAnyH_take (i := 21) (oi := ⟨some 127, .pick (.tmp 123) (.const (.bool true)) (.tmp 126), _, _, _, _⟩) (v := (.bool false)) rfl (by kernel_rfl) (by kernel_rfl) (by kernel_rfl) (fun _ _ _ h => h) (Or.inl ⟨by rfl, fun V (hV : Fr w3 V G) => by go_simp⟩) (Fr.none (gb_drew (gb_refl _ _)) G) ?_
        (try simp only [Act.put, pq1, pq2, pq3])
        refine wpAnyH_take (i := 22) (oi := ⟨some 128, .move (.tmp 127), _, _, _, _⟩) (v := (.bool false)) rfl (by kernel_rfl) (by kernel_rfl) (by kernel_rfl) (fun _ _ _ h => h) (Or.inl ⟨by rfl, fun V (hV : Fr w3 V G) => by go_simp⟩) (Fr.none (gb_drew (gb_refl _ _)) G) ?_
        (try simp only [Act.put, pq1, pq2, pq3])
        refine wpAnyH_take (i := 23) (oi := ⟨some 129, .move (.tmp 12), _, _, _, _⟩) (v := (.slice (some ⟨ub, uo2, none⟩) 1 uc)) rfl (by kernel_rfl) (by kernel_rfl) (by kernel_rfl) (fun _ _ _ h => h) (Or.inl ⟨by rfl, fun V (hV : Fr w3 V G) => by go_simp⟩) (Fr.none (gb_drew (gb_refl _ _)) G) ?_
        (try simp only [Act.put, pq1, pq2, pq3])
        refine wpAnyH_take (i := 24) (oi := ⟨some 130, .indexAddr 34 (.tmp 129) (.const (.int .i64 0)), _, _, _, _⟩) (v := (.pointer (some ⟨ub, uo2, none⟩))) rfl (by kernel_rfl) (by kernel_rfl) (by kernel_rfl) (fun _ _ _ h => h) (Or.inl ⟨by rfl, fun V (hV : Fr w3 V G) => by go_simp⟩) (Fr.none (gb_drew (gb_refl _ _)) G) ?_
        (try simp only [Act.put, pq1, pq2, pq3])
        refine wpAnyH_take (i := 25) (oi := ⟨some 131, .load 3 (.tmp 130), _, _, _, _⟩) (v := (.int .i64 (j : Int))) rfl (by kernel_rfl) (by kernel_rfl) (by kernel_rfl) (fun _ _ _ h => h) (Or.inl ⟨by rfl, fun V (hV : Fr w3 V G) => by (have hv1 := unhide HLD V hV; go_simp)⟩) (Fr.none (gb_drew (gb_refl _ _)) G) ?_
        (try simp only [Act.put, pq1, pq2, pq3])
        refine wpAnyH_take (i := 26) (oi := ⟨some 132, .move (.tmp 0), _, _, _, _⟩) (v := (.int .i64 (j : Int))) rfl (by kernel_rfl) (by kernel_rfl) (by kernel_rfl) (fun _ _ _ h => h) (Or.inl ⟨by rfl, fun V (hV : Fr w3 V G) => by go_simp⟩) (Fr.none (gb_drew (gb_refl _ _)) G) ?_
        (try simp only [Act.put, pq1, pq2, pq3])
        refine wpAnyH_take (i := 27) (oi := ⟨some 133, .binOp .neq 3 (.tmp 131) (.tmp 132) 3, _, _, _, _⟩) (v := (.bool false)) rfl (by kernel_rfl) (by kernel_rfl) (by kernel_rfl) (fun _ _ _ h => h) (Or.inl ⟨by rfl, fun V (hV : Fr w3 V G) => by go_simp⟩) (Fr.none (gb_drew (gb_refl _ _)) G) ?_
        (try simp only [Act.put, pq1, pq2, pq3])
        refine wpAnyH_take (i := 28) (oi := ⟨some 134, .pick (.tmp 128) (.const (.bool true)) (.tmp 133), _, _, _, _⟩) (v := (.bool false)) rfl (by kernel_rfl) (by kernel_rfl) (by kernel_rfl) (fun _ _ _ h => h) (Or.inl ⟨by rfl, fun V (hV : Fr w3 V G) => by go_simp⟩) (Fr.none (gb_drew (gb_refl _ _)) G) ?_
        (try simp only [Act.put, pq1, pq2, pq3])
        refine wpAnyH_take (i := 29) (oi := ⟨some 135, .move (.tmp 134), _, _, _, _⟩) (v := (.bool false)) rfl (by kernel_rfl) (by kernel_rfl) (by kernel_rfl) (fun _ _ _ h => h) (Or.inl ⟨by rfl, fun V (hV : Fr w3 V G) => by go_simp⟩) (Fr.none (gb_drew (gb_refl _ _)) G) ?_
        (try simp only [Act.put, pq1, pq2, pq3])
        refine wpAnyH_take (i := 30) (oi := ⟨some 136, .move (.tmp 9), _, _, _, _⟩) (v := (.pointer (some ⟨c, 0, none⟩))) rfl (by kernel_rfl) (by kernel_rfl) (by kernel_rfl) (fun _ _ _ h => h) (Or.inl ⟨by rfl, fun V (hV : Fr w3 V G) => by go_simp⟩) (Fr.none (gb_drew (gb_refl _ _)) G) ?_
        (try simp only [Act.put, pq1, pq2, pq3])
        refine wpAnyH_ready (rs := [31]) (by kernel_rfl) (by simp) ?_
        refine AllReadyH.cons (o := ⟨some 137, .call { callee := .value (.func 21), args := #[(.tmp 136)], argTypes := #[23] }, _, _, _, _⟩) rfl (fun K9 hK9 => ?_) AllReadyH.nil
        go_simp
        go_at_call 21
        refine (unhide HCD _ (gb_drew (gb_refl _ _))).mono ?_
        rintro e w5 ⟨rfl, e5⟩
        subst w5
        go_wp2_with fail
        refine hK9.out _ _ (Fr.none (gb_drew (gb_refl _ _)) G) (fun _ => ?_)
        clear hK9 K9
        (try simp only [Act.put, pq1, pq2, pq3])
        refine wpAnyH_take (i := 32) (oi := ⟨some 138, .pick (.tmp 135) (.const (.bool true)) (.tmp 137), _, _, _, _⟩) (v := (.bool false)) rfl (by kernel_rfl) (by kernel_rfl) (by kernel_rfl) (fun _ _ _ h => h) (Or.inl ⟨by rfl, fun V (hV : Fr w3 V G) => by go_simp⟩) (Fr.none (gb_drew (gb_refl _ _)) G) ?_
        (try simp only [Act.put, pq1, pq2, pq3])
        refine wpAnyH_take (i := 33) (oi := ⟨some 139, .move (.tmp 138), _, _, _, _⟩) (v := (.bool false)) rfl (by kernel_rfl) (by kernel_rfl) (by kernel_rfl) (fun _ _ _ h => h) (Or.inl ⟨by rfl, fun V (hV : Fr w3 V G) => by go_simp⟩) (Fr.none (gb_drew (gb_refl _ _)) G) ?_
        (try simp only [Act.put, pq1, pq2, pq3])
        refine wpAnyH_take (i := 34) (oi := ⟨some 140, .move (.tmp 9), _, _, _, _⟩) (v := (.pointer (some ⟨c, 0, none⟩))) rfl (by kernel_rfl) (by kernel_rfl) (by kernel_rfl) (fun _ _ _ h => h) (Or.inl ⟨by rfl, fun V (hV : Fr w3 V G) => by go_simp⟩) (Fr.none (gb_drew (gb_refl _ _)) G) ?_
        (try simp only [Act.put, pq1, pq2, pq3])
        refine wpAnyH_ready (rs := [35]) (by kernel_rfl) (by simp) ?_
        refine AllReadyH.cons (o := ⟨some 141, .call { callee := .value (.func 13), args := #[(.tmp 140)], argTypes := #[23] }, _, _, _, _⟩) rfl (fun K9 hK9 => ?_) AllReadyH.nil
        go_simp
        go_at_call 13
        refine (unhide HCS _ (gb_drew (gb_refl _ _))).mono ?_
        rintro e w6 ⟨rfl, F6, h6, f6, -⟩
        have HD6 := hide h6
        have HF6 := hide (Fr.trans (Fr.none (gb_drew (gb_refl _ _)) G) f6 (fun x hx => Or.inl hx))
        clear h6 f6
        go_wp2_with fail
        refine hK9.out _ _ (unhide HF6) (fun _ => ?_)
        clear hK9 K9
        (try simp only [Act.put, pq1, pq2, pq3])
        refine wpAnyH_take (i := 36) (oi := ⟨some 142, .binOp .neq 24 (.tmp 141) (.const (.int .i64 0)) 24, _, _, _, _⟩) (v := (.bool false)) rfl (by kernel_rfl) (by kernel_rfl) (by kernel_rfl) (fun _ _ _ h => h) (Or.inl ⟨by rfl, fun V (hV : Fr w3 V G) => by go_simp⟩) (unhide HF6) ?_
        (try simp only [Act.put, pq1, pq2, pq3])
        refine wpAnyH_take (i := 37) (oi := ⟨some 143, .pick (.tmp 139) (.const (.bool true)) (.tmp 142), _, _, _, _⟩) (v := (.bool false)) rfl (by kernel_rfl) (by kernel_rfl) (by kernel_rfl) (fun _ _ _ h => h) (Or.inl ⟨by rfl, fun V (hV : Fr w3 V G) => by go_simp⟩) (unhide HF6) ?_
        (try simp only [Act.put, pq1, pq2, pq3])
        refine wpAnyH_done (by kernel_rfl) ?_ _
        refine NoPanic.normal ?_
        clear HSL HCA HCB HLD HCD HCS
        have h6 := unhide HD6
        have cs := lsafe_up h6 (j : Int) j rfl (by simp only [settleD, layAll_len]; unfold cl4; simp [newD]; try omega)
        rw [unhide HXK] at cs
        clear HXK HD6
        go_upto_region 26 with (go_at_call 23; refine cs.mono ?_; rintro e w7 ⟨bo7, bc7, rfl, hb7, -, g7⟩; clear cs)
        have hb6 := (unhide HCX _ (unhide HF6)).kept g7 (fun _ e => by cases e)
        have hxl := unhide HXL
        have hc7 := conv_len hb7 hxl
        have hc6 := conv_len hb6 hxl
        obtain ⟨S, hS⟩ : ∃ S, S = str x := ⟨_, rfl⟩
        rw [← hS] at hc7 hc6
        have HG7 := hide (tn h6.gb g7)
        have HC7 := hide hc7
        have HC6 := hide hc6
        clear hb6 hb7 hxl hc7 hc6 hS h6 g7 HF6 HCX HXL
        refine region_named fun O hO => ?_
        refine wpList_val (by rw [hO]; kernel_rfl) (.int .i64 0) (fun K9 hK9 => by go_simp; exact hK9) ?_
        (try simp only [Act.put, pq1, pq2, pq3])
        refine wpList_val (by rw [hO]; kernel_rfl) (.bool true) (fun K9 hK9 => by go_simp; exact hK9) ?_
        (try simp only [Act.put, pq1, pq2, pq3])
        refine wpList_val (by rw [hO]; kernel_rfl) (.bool true) (fun K9 hK9 => by go_simp; exact hK9) ?_
        (try simp only [Act.put, pq1, pq2, pq3])
        refine wpList_val (by rw [hO]; kernel_rfl) (.slice bo7 256 bc7) (fun K9 hK9 => by go_simp; exact hK9) ?_
        (try simp only [Act.put, pq1, pq2, pq3])
        refine wpList_val (by rw [hO]; kernel_rfl) (.string S) (fun K9 hK9 => by (have hv1 := unhide HC7; go_simp); exact hK9) ?_
        (try simp only [Act.put, pq1, pq2, pq3])
        refine wpList_val (by rw [hO]; kernel_rfl) (.slice ao 256 ac) (fun K9 hK9 => by go_simp; exact hK9) ?_
        (try simp only [Act.put, pq1, pq2, pq3])
        refine wpList_val (by rw [hO]; kernel_rfl) (.string S) (fun K9 hK9 => by (have hv1 := unhide HC6; go_simp); exact hK9) ?_
        (try simp only [Act.put, pq1, pq2, pq3])
        refine wpList_val (by rw [hO]; kernel_rfl) (.bool true) (fun K9 hK9 => by go_simp; exact hK9) ?_
        (try simp only [Act.put, pq1, pq2, pq3])
        refine wpList_val (by rw [hO]; kernel_rfl) (.bool true) (fun K9 hK9 => by go_simp; exact hK9) ?_
        (try simp only [Act.put, pq1, pq2, pq3])
        refine wpList_val (by rw [hO]; kernel_rfl) (.bool true) (fun K9 hK9 => by go_simp; exact hK9) ?_
        (try simp only [Act.put, pq1, pq2, pq3])
        refine wpList_want (by rw [hO]; kernel_rfl) fun K9 hK9 => ?_
        go_simp
        go_at_call 24
        refine (dkone_any _).mono ?_
        rintro e w8 ⟨rfl, g8⟩
        refine hK9 _ _ ?_
        clear hK9 K9
        (try simp only [Act.put, pq1, pq2, pq3])
        refine wpList_val (by rw [hO]; kernel_rfl) (.bool true) (fun K9 hK9 => by go_simp; exact hK9) ?_
        (try simp only [Act.put, pq1, pq2, pq3])
        refine wpList_val (by rw [hO]; kernel_rfl) (.bool true) (fun K9 hK9 => by go_simp; exact hK9) ?_
        (try simp only [Act.put, pq1, pq2, pq3])
        clear HC7 HC6
        go_wp2
        go_ret
        exact ⟨rfl, tn (unhide HG7) g8⟩
    · have hdi : ¬ (k : Int) < (n2 : Int) := by omega
      have hr := (unhide HR).1
      have cu := lunder hr.b (by unfold cl4; simp [newD])
      have e1 : (cl4 j x).U.length = 1 := rfl
      have e2 : ((cl4 j x).U.map fun y => (y.1 : Int)) = [(j : Int)] := rfl
      rw [e1, e2] at cu
      clear e1 e2
      have HS := hide hr
      clear hr HR
      go_upto_region 22 with (go_at_call 20; refine cu.mono ?_; rintro e w2 ⟨uo, uc, rfl, hu2, hun, g2⟩; clear cu)
      have hs2 := (unhide HS).nn g2
      have cr := lread_up hs2.b (show (cl4 j x).down = false from rfl) (j : Int) j rfl (by unfold cl4; simp [newD]; try omega) (by unfold cl4; simp [newD])
      rw [cl4_last] at cr
      go_upto_region 23 with (go_at_call 18; refine cr.mono ?_; rintro e w3 ⟨ao, ac, rfl, hb3, hn3, g3⟩; clear cr)
      have hs3 := hs2.nn g3
      have hu3 := hu2.kept g3
      have hx := unhide HX
      have hxx := unhide HXX
      have hn1 := unhide HN1
      have hw1 := unhide HW1
      have hxl : (256 : Nat) = x.length := by rw [hxx]; exact hx.symm
      have hoff : ∀ ad, ao = some ad → ad.block ∉ G := fun ad e hm => by have := hn3 ad e; have := (hs2.b.lo _ hm).2; omega
      have hofu : ∀ ad, uo = some ad → ad.block ∉ G := fun ad e hm => by have := hun ad e; have := ((unhide HS).b.lo _ hm).2; omega
      obtain ⟨ub, uo2, huo, hcell⟩ := hu3.at 0 (by simp)
      have hlo := fun x hx => (hs3.b.lo x hx).1
      have hgb := hs3.b.gb
      have hsl : ∀ V, (Instr.slice 33 (.slice ao 256 ac) none (some (.int .i64 (n1 : Int))) none).run Try.prog V = .ok (.slice ao n1 ac) V := fun V => slice_to V 33 5 Try.underlying33 size_byte ao 256 ac n1 (by have := hb3.fits; omega)
      have hca : ∀ V, Fr w3 V G → (convert 33 9 (.slice ao n1 ac)).run Try.prog V = .ok (.string (str be)) V := fun V hV => by
        have := conv_len (n := n1) ((hV.bts hb3 hoff).take n1 (by omega)) (by rw [List.length_take]; omega)
        rw [show x.take n1 = be by rw [hn1, hxx, padS_take]] at this
        exact this
      have hcb : ∀ V, Fr w3 V G → (convert 33 9 (.slice bo n1 bc)).run Try.prog V = .ok (.string (str be)) V := fun V hV => conv_len ((unhide HB0).kept (gb_fr hgb hV hlo) (fun _ e => by cases e)) hn1
      have hld : ∀ V, Fr w3 V G → V.cell? ⟨ub, uo2, none⟩ = some (.int .i64 (j : Int)) := fun V hV => by have := hV.cell hcell (hofu _ huo); simpa using this
      have hcd : ∀ V, w3.grownBy V none → Calls Try.prog 21 #[.pointer (some ⟨c, 0, none⟩)] V (fun e w5 => e = .returned (.bool false) ∧ w5 = V) := fun V hV => ddown_any _ V G c _ (hs3.nn hV).b.at_
      have hcs : ∀ V, w3.grownBy V none → Calls Try.prog 13 #[.pointer (some ⟨c, 0, none⟩)] V (fun e w5 => e = .returned (.int .i64 0) ∧ Lf w V w5 G c (settleD (fun _ => 256) (cl4 j x))) := fun V hV => lsync_free (hs3.nn hV).b rfl (show (-1 : Int) < 0 by decide) (by unfold cl4; simp [newD])
      have hcx : ∀ V, Fr w3 V G → Bts V ao ac x := fun V hV => hV.bts hb3 hoff
      have hxk := cl4_kept j hj x (by rw [hxx]; exact hx)
      obtain ⟨S, hS⟩ : ∃ S, S = str be := ⟨_, rfl⟩
      rw [← hS] at hca hcb
      subst huo
      have HSL := hide hsl
      have HCA := hide hca
      have HCB := hide hcb
      have HLD := hide hld
      have HCD := hide hcd
      have HCS := hide hcs
      have HCX := hide hcx
      have HXL := hide hxl
      have HXK := hide hxk
      clear hsl hca hcb hld hcd hcs hS hb3 hxl hoff hofu hs3 hs2 hu2 hu3 hn3 hun g2 g3 hcell hx hxx hn1 hw1 HS hcx hxk hlo hgb
      refine wp_region_noPanic ?_
      refine wp_region_held_drew (S := fun V => Fr w3 V G) (by kernel_rfl) (Fr.none (gb_drew (gb_refl _ _)) G) (fun _ => ?_)
      refine wpAnyH_take (i := 0) (oi := ⟨some 106, .move (.tmp 14), _, _, _, _⟩) (v := (.int .i64 0)) rfl (by kernel_rfl) (by kernel_rfl) (by kernel_rfl) (fun _ _ _ h => h) (Or.inl ⟨by rfl, fun V (hV : Fr w3 V G) => by go_simp⟩) (Fr.none (gb_drew (gb_refl _ _)) G) ?_
      (try simp only [Act.put, pq1, pq2, pq3])
      refine wpAnyH_take (i := 1) (oi := ⟨some 107, .binOp .neq 24 (.tmp 106) (.const (.int .i64 0)) 24, _, _, _, _⟩) (v := (.bool false)) rfl (by kernel_rfl) (by kernel_rfl) (by kernel_rfl) (fun _ _ _ h => h) (Or.inl ⟨by rfl, fun V (hV : Fr w3 V G) => by go_simp⟩) (Fr.none (gb_drew (gb_refl _ _)) G) ?_
      (try simp only [Act.put, pq1, pq2, pq3])
      refine wpAnyH_take (i := 2) (oi := ⟨some 108, .move (.tmp 107), _, _, _, _⟩) (v := (.bool false)) rfl (by kernel_rfl) (by kernel_rfl) (by kernel_rfl) (fun _ _ _ h => h) (Or.inl ⟨by rfl, fun V (hV : Fr w3 V G) => by go_simp⟩) (Fr.none (gb_drew (gb_refl _ _)) G) ?_
      (try simp only [Act.put, pq1, pq2, pq3])
      refine wpAnyH_take (i := 3) (oi := ⟨some 109, .move (.tmp 13), _, _, _, _⟩) (v := (.slice ao 256 ac)) rfl (by kernel_rfl) (by kernel_rfl) (by kernel_rfl) (fun _ _ _ h => h) (Or.inl ⟨by rfl, fun V (hV : Fr w3 V G) => by go_simp⟩) (Fr.none (gb_drew (gb_refl _ _)) G) ?_
      (try simp only [Act.put, pq1, pq2, pq3])
      refine wpAnyH_take (i := 4) (oi := ⟨some 110, .call { callee := .builtin .len, args := #[(.tmp 109)], argTypes := #[33] }, _, _, _, _⟩) (v := (.int .i64 (256 : Int))) rfl (by kernel_rfl) (by kernel_rfl) (by kernel_rfl) (fun _ _ _ h => h) (Or.inl ⟨by rfl, fun V (hV : Fr w3 V G) => by go_simp⟩) (Fr.none (gb_drew (gb_refl _ _)) G) ?_
      (try simp only [Act.put, pq1, pq2, pq3])
      refine wpAnyH_take (i := 5) (oi := ⟨some 111, .binOp .neq 3 (.tmp 110) (.const (.int .i64 256)) 3, _, _, _, _⟩) (v := (.bool false)) rfl (by kernel_rfl) (by kernel_rfl) (by kernel_rfl) (fun _ _ _ h => h) (Or.inl ⟨by rfl, fun V (hV : Fr w3 V G) => by go_simp⟩) (Fr.none (gb_drew (gb_refl _ _)) G) ?_
      (try simp only [Act.put, pq1, pq2, pq3])
      refine wpAnyH_take (i := 6) (oi := ⟨some 112, .pick (.tmp 108) (.const (.bool true)) (.tmp 111), _, _, _, _⟩) (v := (.bool false)) rfl (by kernel_rfl) (by kernel_rfl) (by kernel_rfl) (fun _ _ _ h => h) (Or.inl ⟨by rfl, fun V (hV : Fr w3 V G) => by go_simp⟩) (Fr.none (gb_drew (gb_refl _ _)) G) ?_
      (try simp only [Act.put, pq1, pq2, pq3])
      refine wpAnyH_take (i := 7) (oi := ⟨some 113, .move (.tmp 112), _, _, _, _⟩) (v := (.bool false)) rfl (by kernel_rfl) (by kernel_rfl) (by kernel_rfl) (fun _ _ _ h => h) (Or.inl ⟨by rfl, fun V (hV : Fr w3 V G) => by go_simp⟩) (Fr.none (gb_drew (gb_refl _ _)) G) ?_
      (try simp only [Act.put, pq1, pq2, pq3])
      refine wpAnyH_take (i := 8) (oi := ⟨some 114, .move (.tmp 13), _, _, _, _⟩) (v := (.slice ao 256 ac)) rfl (by kernel_rfl) (by kernel_rfl) (by kernel_rfl) (fun _ _ _ h => h) (Or.inl ⟨by rfl, fun V (hV : Fr w3 V G) => by go_simp⟩) (Fr.none (gb_drew (gb_refl _ _)) G) ?_
      (try simp only [Act.put, pq1, pq2, pq3])
      refine wpAnyH_take (i := 9) (oi := ⟨some 115, .move (.tmp 1), _, _, _, _⟩) (v := (.slice bo n1 bc)) rfl (by kernel_rfl) (by kernel_rfl) (by kernel_rfl) (fun _ _ _ h => h) (Or.inl ⟨by rfl, fun V (hV : Fr w3 V G) => by go_simp⟩) (Fr.none (gb_drew (gb_refl _ _)) G) ?_
      (try simp only [Act.put, pq1, pq2, pq3])
      refine wpAnyH_take (i := 10) (oi := ⟨some 116, .call { callee := .builtin .len, args := #[(.tmp 115)], argTypes := #[33] }, _, _, _, _⟩) (v := (.int .i64 (n1 : Int))) rfl (by kernel_rfl) (by kernel_rfl) (by kernel_rfl) (fun _ _ _ h => h) (Or.inl ⟨by rfl, fun V (hV : Fr w3 V G) => by go_simp⟩) (Fr.none (gb_drew (gb_refl _ _)) G) ?_
      (try simp only [Act.put, pq1, pq2, pq3])
      refine wpAnyH_take (i := 11) (oi := ⟨some 117, .slice 33 (.tmp 114) none (some (.tmp 116)) none, _, _, _, _⟩) (v := (.slice ao n1 ac)) rfl (by kernel_rfl) (by kernel_rfl) (by kernel_rfl) (fun _ _ _ h => h) (Or.inl ⟨by rfl, fun V (hV : Fr w3 V G) => by (have hv1 := unhide HSL V; go_simp)⟩) (Fr.none (gb_drew (gb_refl _ _)) G) ?_
      (try simp only [Act.put, pq1, pq2, pq3])
      refine wpAnyH_take (i := 12) (oi := ⟨some 118, .convert 33 9 (.tmp 117), _, _, _, _⟩) (v := (.string S)) rfl (by kernel_rfl) (by kernel_rfl) (by kernel_rfl) (fun _ _ _ h => h) (Or.inl ⟨by rfl, fun V (hV : Fr w3 V G) => by (have hv1 := unhide HCA V hV; go_simp)⟩) (Fr.none (gb_drew (gb_refl _ _)) G) ?_
      (try simp only [Act.put, pq1, pq2, pq3])
      refine wpAnyH_take (i := 13) (oi := ⟨some 119, .move (.tmp 1), _, _, _, _⟩) (v := (.slice bo n1 bc)) rfl (by kernel_rfl) (by kernel_rfl) (by kernel_rfl) (fun _ _ _ h => h) (Or.inl ⟨by rfl, fun V (hV : Fr w3 V G) => by go_simp⟩) (Fr.none (gb_drew (gb_refl _ _)) G) ?_
      (try simp only [Act.put, pq1, pq2, pq3])
      refine wpAnyH_take (i := 14) (oi := ⟨some 120, .convert 33 9 (.tmp 119), _, _, _, _⟩) (v := (.string S)) rfl (by kernel_rfl) (by kernel_rfl) (by kernel_rfl) (fun _ _ _ h => h) (Or.inl ⟨by rfl, fun V (hV : Fr w3 V G) => by (have hv1 := unhide HCB V hV; go_simp)⟩) (Fr.none (gb_drew (gb_refl _ _)) G) ?_
      (try simp only [Act.put, pq1, pq2, pq3])
      refine wpAnyH_take (i := 15) (oi := ⟨some 121, .binOp .neq 9 (.tmp 118) (.tmp 120) 9, _, _, _, _⟩) (v := (.bool false)) rfl (by kernel_rfl) (by kernel_rfl) (by kernel_rfl) (fun _ _ _ h => h) (Or.inl ⟨by rfl, fun V (hV : Fr w3 V G) => by go_simp⟩) (Fr.none (gb_drew (gb_refl _ _)) G) ?_
      (try simp only [Act.put, pq1, pq2, pq3])
      refine wpAnyH_take (i := 16) (oi := ⟨some 122, .pick (.tmp 113) (.const (.bool true)) (.tmp 121), _, _, _, _⟩) (v := (.bool false)) rfl (by kernel_rfl) (by kernel_rfl) (by kernel_rfl) (fun _ _ _ h => h) (Or.inl ⟨by rfl, fun V (hV : Fr w3 V G) => by go_simp⟩) (Fr.none (gb_drew (gb_refl _ _)) G) ?_
      (try simp only [Act.put, pq1, pq2, pq3])
      refine wpAnyH_take (i := 17) (oi := ⟨some 123, .move (.tmp 122), _, _, _, _⟩) (v := (.bool false)) rfl (by kernel_rfl) (by kernel_rfl) (by kernel_rfl) (fun _ _ _ h => h) (Or.inl ⟨by rfl, fun V (hV : Fr w3 V G) => by go_simp⟩) (Fr.none (gb_drew (gb_refl _ _)) G) ?_
      (try simp only [Act.put, pq1, pq2, pq3])
      refine wpAnyH_take (i := 18) (oi := ⟨some 124, .move (.tmp 12), _, _, _, _⟩) (v := (.slice (some ⟨ub, uo2, none⟩) 1 uc)) rfl (by kernel_rfl) (by kernel_rfl) (by kernel_rfl) (fun _ _ _ h => h) (Or.inl ⟨by rfl, fun V (hV : Fr w3 V G) => by go_simp⟩) (Fr.none (gb_drew (gb_refl _ _)) G) ?_
      (try simp only [Act.put, pq1, pq2, pq3])
      refine wpAnyH_take (i := 19) (oi := ⟨some 125, .call { callee := .builtin .len, args := #[(.tmp 124)], argTypes := #[34] }, _, _, _, _⟩) (v := (.int .i64 (1 : Int))) rfl (by kernel_rfl) (by kernel_rfl) (by kernel_rfl) (fun _ _ _ h => h) (Or.inl ⟨by rfl, fun V (hV : Fr w3 V G) => by go_simp⟩) (Fr.none (gb_drew (gb_refl _ _)) G) ?_
      (try simp only [Act.put, pq1, pq2, pq3])
      refine wpAnyH_take (i := 20) (oi := ⟨some 126, .binOp .neq 3 (.tmp 125) (.const (.int .i64 1)) 3, _, _, _, _⟩) (v := (.bool false)) rfl (by kernel_rfl) (by kernel_rfl) (by kernel_rfl) (fun _ _ _ h => h) (Or.inl ⟨by rfl, fun V (hV : Fr w3 V G) => by go_simp⟩) (Fr.none (gb_drew (gb_refl _ _)) G) ?_
      (try simp only [Act.put, pq1, pq2, pq3])
      refine wpAnyH_take (i := 21) (oi := ⟨some 127, .pick (.tmp 123) (.const (.bool true)) (.tmp 126), _, _, _, _⟩) (v := (.bool false)) rfl (by kernel_rfl) (by kernel_rfl) (by kernel_rfl) (fun _ _ _ h => h) (Or.inl ⟨by rfl, fun V (hV : Fr w3 V G) => by go_simp⟩) (Fr.none (gb_drew (gb_refl _ _)) G) ?_
      (try simp only [Act.put, pq1, pq2, pq3])
      refine wpAnyH_take (i := 22) (oi := ⟨some 128, .move (.tmp 127), _, _, _, _⟩) (v := (.bool false)) rfl (by kernel_rfl) (by kernel_rfl) (by kernel_rfl) (fun _ _ _ h => h) (Or.inl ⟨by rfl, fun V (hV : Fr w3 V G) => by go_simp⟩) (Fr.none (gb_drew (gb_refl _ _)) G) ?_
      (try simp only [Act.put, pq1, pq2, pq3])
      refine wpAnyH_take (i := 23) (oi := ⟨some 129, .move (.tmp 12), _, _, _, _⟩) (v := (.slice (some ⟨ub, uo2, none⟩) 1 uc)) rfl (by kernel_rfl) (by kernel_rfl) (by kernel_rfl) (fun _ _ _ h => h) (Or.inl ⟨by rfl, fun V (hV : Fr w3 V G) => by go_simp⟩) (Fr.none (gb_drew (gb_refl _ _)) G) ?_
      (try simp only [Act.put, pq1, pq2, pq3])
      refine wpAnyH_take (i := 24) (oi := ⟨some 130, .indexAddr 34 (.tmp 129) (.const (.int .i64 0)), _, _, _, _⟩) (v := (.pointer (some ⟨ub, uo2, none⟩))) rfl (by kernel_rfl) (by kernel_rfl) (by kernel_rfl) (fun _ _ _ h => h) (Or.inl ⟨by rfl, fun V (hV : Fr w3 V G) => by go_simp⟩) (Fr.none (gb_drew (gb_refl _ _)) G) ?_
      (try simp only [Act.put, pq1, pq2, pq3])
      refine wpAnyH_take (i := 25) (oi := ⟨some 131, .load 3 (.tmp 130), _, _, _, _⟩) (v := (.int .i64 (j : Int))) rfl (by kernel_rfl) (by kernel_rfl) (by kernel_rfl) (fun _ _ _ h => h) (Or.inl ⟨by rfl, fun V (hV : Fr w3 V G) => by (have hv1 := unhide HLD V hV; go_simp)⟩) (Fr.none (gb_drew (gb_refl _ _)) G) ?_
      (try simp only [Act.put, pq1, pq2, pq3])
      refine wpAnyH_take (i := 26) (oi := ⟨some 132, .move (.tmp 0), _, _, _, _⟩) (v := (.int .i64 (j : Int))) rfl (by kernel_rfl) (by kernel_rfl) (by kernel_rfl) (fun _ _ _ h => h) (Or.inl ⟨by rfl, fun V (hV : Fr w3 V G) => by go_simp⟩) (Fr.none (gb_drew (gb_refl _ _)) G) ?_
      (try simp only [Act.put, pq1, pq2, pq3])
      refine wpAnyH_take (i := 27) (oi := ⟨some 133, .binOp .neq 3 (.tmp 131) (.tmp 132) 3, _, _, _, _⟩) (v := (.bool false)) rfl (by kernel_rfl) (by kernel_rfl) (by kernel_rfl) (fun _ _ _ h => h) (Or.inl ⟨by rfl, fun V (hV : Fr w3 V G) => by go_simp⟩) (Fr.none (gb_drew (gb_refl _ _)) G) ?_
      (try simp only [Act.put, pq1, pq2, pq3])
      refine wpAnyH_take (i := 28) (oi := ⟨some 134, .pick (.tmp 128) (.const (.bool true)) (.tmp 133), _, _, _, _⟩) (v := (.bool false)) rfl (by kernel_rfl) (by kernel_rfl) (by kernel_rfl) (fun _ _ _ h => h) (Or.inl ⟨by rfl, fun V (hV : Fr w3 V G) => by go_simp⟩) (Fr.none (gb_drew (gb_refl _ _)) G) ?_
      (try simp only [Act.put, pq1, pq2, pq3])
      refine wpAnyH_take (i := 29) (oi := ⟨some 135, .move (.tmp 134), _, _, _, _⟩) (v := (.bool false)) rfl (by kernel_rfl) (by kernel_rfl) (by kernel_rfl) (fun _ _ _ h => h) (Or.inl ⟨by rfl, fun V (hV : Fr w3 V G) => by go_simp⟩) (Fr.none (gb_drew (gb_refl _ _)) G) ?_
      (try simp only [Act.put, pq1, pq2, pq3])
      refine wpAnyH_take (i := 30) (oi := ⟨some 136, .move (.tmp 9), _, _, _, _⟩) (v := (.pointer (some ⟨c, 0, none⟩))) rfl (by kernel_rfl) (by kernel_rfl) (by kernel_rfl) (fun _ _ _ h => h) (Or.inl ⟨by rfl, fun V (hV : Fr w3 V G) => by go_simp⟩) (Fr.none (gb_drew (gb_refl _ _)) G) ?_
      (try simp only [Act.put, pq1, pq2, pq3])
      refine wpAnyH_ready (rs := [31]) (by kernel_rfl) (by simp) ?_
      refine AllReadyH.cons (o := ⟨some 137, .call { callee := .value (.func 21), args := #[(.tmp 136)], argTypes := #[23] }, _, _, _, _⟩) rfl (fun K9 hK9 => ?_) AllReadyH.nil
      go_simp
      go_at_call 21
      refine (unhide HCD _ (gb_drew (gb_refl _ _))).mono ?_
      rintro e w5 ⟨rfl, e5⟩
      subst w5
      go_wp2_with fail
      refine hK9.out _ _ (Fr.none (gb_drew (gb_refl _ _)) G) (fun _ => ?_)
      clear hK9 K9
      (try simp only [Act.put, pq1, pq2, pq3])
      refine wpAnyH_take (i := 32) (oi := ⟨some 138, .pick (.tmp 135) (.const (.bool true)) (.tmp 137), _, _, _, _⟩) (v := (.bool false)) rfl (by kernel_rfl) (by kernel_rfl) (by kernel_rfl) (fun _ _ _ h => h) (Or.inl ⟨by rfl, fun V (hV : Fr w3 V G) => by go_simp⟩) (Fr.none (gb_drew (gb_refl _ _)) G) ?_
      (try simp only [Act.put, pq1, pq2, pq3])
      refine wpAnyH_take (i := 33) (oi := ⟨some 139, .move (.tmp 138), _, _, _, _⟩) (v := (.bool false)) rfl (by kernel_rfl) (by kernel_rfl) (by kernel_rfl) (fun _ _ _ h => h) (Or.inl ⟨by rfl, fun V (hV : Fr w3 V G) => by go_simp⟩) (Fr.none (gb_drew (gb_refl _ _)) G) ?_
      (try simp only [Act.put, pq1, pq2, pq3])
      refine wpAnyH_take (i := 34) (oi := ⟨some 140, .move (.tmp 9), _, _, _, _⟩) (v := (.pointer (some ⟨c, 0, none⟩))) rfl (by kernel_rfl) (by kernel_rfl) (by kernel_rfl) (fun _ _ _ h => h) (Or.inl ⟨by rfl, fun V (hV : Fr w3 V G) => by go_simp⟩) (Fr.none (gb_drew (gb_refl _ _)) G) ?_
      (try simp only [Act.put, pq1, pq2, pq3])
      refine wpAnyH_ready (rs := [35]) (by kernel_rfl) (by simp) ?_
      refine AllReadyH.cons (o := ⟨some 141, .call { callee := .value (.func 13), args := #[(.tmp 140)], argTypes := #[23] }, _, _, _, _⟩) rfl (fun K9 hK9 => ?_) AllReadyH.nil
      go_simp
      go_at_call 13
      refine (unhide HCS _ (gb_drew (gb_refl _ _))).mono ?_
      rintro e w6 ⟨rfl, F6, h6, f6, -⟩
      have HD6 := hide h6
      have HF6 := hide (Fr.trans (Fr.none (gb_drew (gb_refl _ _)) G) f6 (fun x hx => Or.inl hx))
      clear h6 f6
      go_wp2_with fail
      refine hK9.out _ _ (unhide HF6) (fun _ => ?_)
      clear hK9 K9
      (try simp only [Act.put, pq1, pq2, pq3])
      refine wpAnyH_take (i := 36) (oi := ⟨some 142, .binOp .neq 24 (.tmp 141) (.const (.int .i64 0)) 24, _, _, _, _⟩) (v := (.bool false)) rfl (by kernel_rfl) (by kernel_rfl) (by kernel_rfl) (fun _ _ _ h => h) (Or.inl ⟨by rfl, fun V (hV : Fr w3 V G) => by go_simp⟩) (unhide HF6) ?_
      (try simp only [Act.put, pq1, pq2, pq3])
      refine wpAnyH_take (i := 37) (oi := ⟨some 143, .pick (.tmp 139) (.const (.bool true)) (.tmp 142), _, _, _, _⟩) (v := (.bool false)) rfl (by kernel_rfl) (by kernel_rfl) (by kernel_rfl) (fun _ _ _ h => h) (Or.inl ⟨by rfl, fun V (hV : Fr w3 V G) => by go_simp⟩) (unhide HF6) ?_
      (try simp only [Act.put, pq1, pq2, pq3])
      refine wpAnyH_done (by kernel_rfl) ?_ _
      refine NoPanic.normal ?_
      clear HSL HCA HCB HLD HCD HCS
      have h6 := unhide HD6
      have cs := lsafe_up h6 (j : Int) j rfl (by simp only [settleD, layAll_len]; unfold cl4; simp [newD]; try omega)
      rw [unhide HXK] at cs
      clear HXK HD6
      go_upto_region 26 with (go_at_call 23; refine cs.mono ?_; rintro e w7 ⟨bo7, bc7, rfl, hb7, -, g7⟩; clear cs)
      have hb6 := (unhide HCX _ (unhide HF6)).kept g7 (fun _ e => by cases e)
      have hxl := unhide HXL
      have hc7 := conv_len hb7 hxl
      have hc6 := conv_len hb6 hxl
      obtain ⟨S, hS⟩ : ∃ S, S = str x := ⟨_, rfl⟩
      rw [← hS] at hc7 hc6
      have HG7 := hide (tn h6.gb g7)
      have HC7 := hide hc7
      have HC6 := hide hc6
      clear hb6 hb7 hxl hc7 hc6 hS h6 g7 HF6 HCX HXL
      refine region_named fun O hO => ?_
      refine wpList_val (by rw [hO]; kernel_rfl) (.int .i64 0) (fun K9 hK9 => by go_simp; exact hK9) ?_
      (try simp only [Act.put, pq1, pq2, pq3])
      refine wpList_val (by rw [hO]; kernel_rfl) (.bool true) (fun K9 hK9 => by go_simp; exact hK9) ?_
      (try simp only [Act.put, pq1, pq2, pq3])
      refine wpList_val (by rw [hO]; kernel_rfl) (.bool true) (fun K9 hK9 => by go_simp; exact hK9) ?_
      (try simp only [Act.put, pq1, pq2, pq3])
      refine wpList_val (by rw [hO]; kernel_rfl) (.slice bo7 256 bc7) (fun K9 hK9 => by go_simp; exact hK9) ?_
      (try simp only [Act.put, pq1, pq2, pq3])
      refine wpList_val (by rw [hO]; kernel_rfl) (.string S) (fun K9 hK9 => by (have hv1 := unhide HC7; go_simp); exact hK9) ?_
      (try simp only [Act.put, pq1, pq2, pq3])
      refine wpList_val (by rw [hO]; kernel_rfl) (.slice ao 256 ac) (fun K9 hK9 => by go_simp; exact hK9) ?_
      (try simp only [Act.put, pq1, pq2, pq3])
      refine wpList_val (by rw [hO]; kernel_rfl) (.string S) (fun K9 hK9 => by (have hv1 := unhide HC6; go_simp); exact hK9) ?_
      (try simp only [Act.put, pq1, pq2, pq3])
      refine wpList_val (by rw [hO]; kernel_rfl) (.bool true) (fun K9 hK9 => by go_simp; exact hK9) ?_
      (try simp only [Act.put, pq1, pq2, pq3])
      refine wpList_val (by rw [hO]; kernel_rfl) (.bool true) (fun K9 hK9 => by go_simp; exact hK9) ?_
      (try simp only [Act.put, pq1, pq2, pq3])
      refine wpList_val (by rw [hO]; kernel_rfl) (.bool true) (fun K9 hK9 => by go_simp; exact hK9) ?_
      (try simp only [Act.put, pq1, pq2, pq3])
      refine wpList_want (by rw [hO]; kernel_rfl) fun K9 hK9 => ?_
      go_simp
      go_at_call 24
      refine (dkone_any _).mono ?_
      rintro e w8 ⟨rfl, g8⟩
      refine hK9 _ _ ?_
      clear hK9 K9
      (try simp only [Act.put, pq1, pq2, pq3])
      refine wpList_val (by rw [hO]; kernel_rfl) (.bool true) (fun K9 hK9 => by go_simp; exact hK9) ?_
      (try simp only [Act.put, pq1, pq2, pq3])
      refine wpList_val (by rw [hO]; kernel_rfl) (.bool true) (fun K9 hK9 => by go_simp; exact hK9) ?_
      (try simp only [Act.put, pq1, pq2, pq3])
      clear HC7 HC6
      go_wp2
      go_ret
      exact ⟨rfl, tn (unhide HG7) g8⟩

end Go.Proofs.Ytfaipdifkmjdeaa
