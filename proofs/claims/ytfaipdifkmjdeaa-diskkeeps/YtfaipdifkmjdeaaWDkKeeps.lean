/- DiskKeeps: the walk. -/
import Derived.Test.YtfaipdifkmjdeaaDkU
namespace Go.Proofs.Ytfaipdifkmjdeaa
open Go.RowKit

theorem kp_begin (j : Nat) (hj : j ≤ 7) (x : List UInt8) (hx : x.length = 256) : Kp j x (settleD (fun _ => 256) { newD 8 with U := (newD 8).U ++ [(j, x)] }) ∧ (settleD (fun _ => 256) { newD 8 with U := (newD 8).U ++ [(j, x)] }).safe.length = 8 := by
  have e : settleD (fun _ => 256) { newD 8 with U := (newD 8).U ++ [(j, x)] } = ⟨(List.replicate 8 zsec).set j x, [], -1, false⟩ := by
    simp only [settleD, newD, List.nil_append, layAll, clampN_256]
    rw [lay_full (x := (j, x)) hx (by simp; omega) (fun s hs => by rw [List.eq_of_mem_replicate hs]; exact zsec_len)]
  rw [e]
  refine ⟨⟨?_, fun y hy => by cases hy⟩, by simp⟩
  unfold keptD
  simp only
  rw [List.getElem?_set_self (by simp; omega)]
  rfl

set_option maxRecDepth 100000 in
set_option maxHeartbeats 8000000 in
theorem walk_dkeeps (w : World) (a : Int) (bo : Option Addr) (bc : Nat) (be : List UInt8) (hb0 : Bts w bo bc be) (lo : Option Addr) (lc : Nat) (L : List ActD) (hL0 : ActsD w lo lc L) :
    Calls Try.prog 4 #[.int .i64 a, .slice bo be.length bc, .slice lo L.length lc] w fun e w' => e = .returned (.bool true) ∧ w.grownBy w' none := by
  obtain ⟨n1, hn1⟩ : ∃ n, n = be.length := ⟨_, rfl⟩
  obtain ⟨n2, hn2⟩ : ∃ n, n = L.length := ⟨_, rfl⟩
  rw [← hn1, ← hn2]
  have cn := lnew (gb_refl w none) 8 (by decide) (by decide)
  by_cases hl1 : n1 ≤ 256
  case neg =>
    have hd1 : 256 < n1 := by omega
    clear hb0 hL0 hn1 hn2 hl1
    go_enter Try.func4, Try.ntmps4
    go_wp2_with (go_at_call 8; refine cn.mono ?_; rintro e w1 ⟨d, F1, rfl, h1, -, -⟩; have HG := hide h1.gb; clear cn h1)
    go_ret
    exact ⟨rfl, unhide HG⟩
  have hd1 : ¬ 256 < n1 := by omega
  obtain ⟨j, hj, hand⟩ := and_mask 7 (by decide) a
  have hand2 : bits .and .i64 a 7 = (j : Int) := hand
  have hw1 : be.length ≤ 256 := by omega
  have hx := padS_len hw1
  obtain ⟨x, hxx⟩ : ∃ x, x = padS be := ⟨_, rfl⟩
  have hkp := kp_begin j hj x (by rw [hxx]; exact hx)
  have HB0 := hide hb0
  have HL0 := hide hL0
  have HN1 := hide hn1
  have HN2 := hide hn2
  have HW1 := hide hw1
  have HX := hide hx
  have HXX := hide hxx
  have HKP := hide hkp
  clear hb0 hL0 hn1 hn2 hl1 hw1 hx hxx hkp hand
  go_enter Try.func4, Try.ntmps4
  go_upto_region 5 with (go_at_call 8; refine cn.mono ?_; rintro e w1 ⟨d, F1, rfl, h1, -, -⟩; clear cn)
  clear hand2
  refine region_named fun O hO => ?_
  refine wpList_val (by rw [hO]; kernel_rfl) (.pointer (some ⟨d, 0, none⟩)) (fun K9 hK9 => by go_simp; exact hK9) ?_
  (try simp only [Act.put, pq1, pq2, pq3])
  refine wpList_val (by rw [hO]; kernel_rfl) (.int .i64 (j : Int)) (fun K9 hK9 => by go_simp; exact hK9) ?_
  (try simp only [Act.put, pq1, pq2, pq3])
  refine wpList_val (by rw [hO]; kernel_rfl) (.slice bo n1 bc) (fun K9 hK9 => by go_simp; exact hK9) ?_
  (try simp only [Act.put, pq1, pq2, pq3])
  refine wpList_want (by rw [hO]; kernel_rfl) fun K9 hK9 => ?_
  go_simp
  go_at_call 11
  refine (lwrite_free h1 rfl (show (-1 : Int) < 0 by decide) (j : Int) j rfl (by simp [newD]; omega) _ _ be (h1.bts (unhide HB0)) n1 (unhide HN1) (unhide HW1) (by simp [newD])).mono ?_
  rintro e w2 ⟨rfl, F2, h2, -⟩
  rw [← unhide HXX] at h2
  clear h1
  refine hK9 _ _ ?_
  clear hK9 K9
  (try simp only [Act.put, pq1, pq2, pq3])
  refine wpList_val (by rw [hO]; kernel_rfl) (.bool false) (fun K9 hK9 => by go_simp; exact hK9) ?_
  (try simp only [Act.put, pq1, pq2, pq3])
  refine wpList_val (by rw [hO]; kernel_rfl) (.bool false) (fun K9 hK9 => by go_simp; exact hK9) ?_
  (try simp only [Act.put, pq1, pq2, pq3])
  refine wpList_val (by rw [hO]; kernel_rfl) (.pointer (some ⟨d, 0, none⟩)) (fun K9 hK9 => by go_simp; exact hK9) ?_
  (try simp only [Act.put, pq1, pq2, pq3])
  refine wpList_want (by rw [hO]; kernel_rfl) fun K9 hK9 => ?_
  go_simp
  go_at_call 13
  refine (lsync_free h2 rfl (show (-1 : Int) < 0 by decide) (by simp [newD])).mono ?_
  rintro e w3 ⟨rfl, F3, h3, -⟩
  clear h2
  refine hK9 _ _ ?_
  clear hK9 K9
  (try simp only [Act.put, pq1, pq2, pq3])
  refine wpList_val (by rw [hO]; kernel_rfl) (.bool false) (fun K9 hK9 => by go_simp; exact hK9) ?_
  (try simp only [Act.put, pq1, pq2, pq3])
  refine wpList_val (by rw [hO]; kernel_rfl) (.bool false) (fun K9 hK9 => by go_simp; exact hK9) ?_
  (try simp only [Act.put, pq1, pq2, pq3])
  obtain ⟨E, hE⟩ : ∃ E, E = settleD (fun _ => 256) { newD 8 with U := (newD 8).U ++ [(j, x)] } := ⟨_, rfl⟩
  have hkp := unhide HKP
  have hEd : E.down = false := by rw [hE]; rfl
  have hEU : E.U = [] := by rw [hE]; rfl
  rw [← hE] at hkp h3
  have hlast := hkp.1.last
  have cr := lread_up h3 hEd (j : Int) j rfl (by rw [hkp.2]; omega) (by rw [hEU]; decide)
  rw [hlast] at cr
  clear hE HKP
  go_upto_region 8 with (go_at_call 18; refine cr.mono ?_; rintro e w4 ⟨a9, c9, rfl, hb9, hk9, g4⟩; clear cr)
  have h4 := h3.nn g4
  have hoff9 : ∀ ad, a9 = some ad → ad.block ∉ F3 ∧ ad.block < w4.heap.size := fun ad e => ⟨fun hm => by have := hk9 ad e; have := (h3.lo _ hm).2; omega, by
    have h0 := hb9.cell ad e 0 (by rw [unhide HXX, unhide HX]; decide)
    have := World.block_lt_of_cell? w4 _ h0
    exact this⟩
  have cc := lclone h4 (by rw [hEU]; decide)
  clear h3 g4 hk9
  go_upto_region 9 with (go_at_call 25; refine cc.mono ?_; rintro e w5 ⟨c, G, rfl, h5, hG5, g5⟩; clear cc)
  have hst : Kst w w5 F3 d E G c E a9 c9 x := ⟨Two.made h4 h5 hG5 g5, hb9.kept g5 (fun _ e => by cases e), fun ad e => ⟨(hoff9 ad e).1, Nat.lt_of_lt_of_le (hoff9 ad e).2 g5.size⟩⟩
  have hst2 : Kst w w5 F3 d E G c E a9 c9 x ∧ Kp j x E ∧ E.U.length ≤ 0 ∧ E.safe.length = 8 := ⟨hst, hkp.1, by rw [hEU]; decide, hkp.2⟩
  have HST := hide hst2
  have HED := hide hEd
  have HEU := hide hEU
  have HEK := hide hkp
  clear hst hst2 h4 h5 hG5 g5 hb9 hoff9 hEd hEU hkp hlast
  go_wp2
  go_loopw [12] (fun i wr => ∃ (k : Nat) (D : Dsk) (F : List Nat), i = .int .i64 k ∧ k ≤ n2 ∧ k ≤ 40 ∧ Hid (Kst w wr F d D G c E a9 c9 x ∧ Kp j x D ∧ D.U.length ≤ k ∧ D.safe.length = 8)) (fun i _ => n2 - (intOf i).toNat)
  case atStart => exact ⟨0, E, F3, rfl, Nat.zero_le _, Nat.zero_le _, HST⟩
  case round =>
    obtain ⟨k, D, F, rfl, hk, hk4, HR⟩ := hrel
    by_cases hlt : k < n2
    · have hdk : decide ((k : Int) < (n2 : Int)) = true := by simp; omega
      by_cases h40 : k < 40
      · have hlt' : k < L.length := by have := unhide HN2; omega
        obtain ⟨b, o, hlo, hrow, hact⟩ := ((unhide HL0).kept (unhide HR).1.two.a.gb).at k hlt'
        obtain ⟨p, hp⟩ : ∃ p, p = L[k] := ⟨_, rfl⟩
        rw [← hp] at hrow hact
        obtain ⟨Z, hZ, hzv⟩ := zero_act
        obtain ⟨EB, hEB⟩ : ∃ EB, EB = acC p := ⟨_, rfl⟩
        obtain ⟨W1, hW1, hB1, g1⟩ := row_new wr 36 Z EB
        have hBZ : Blk (wr.alloc (.cells Z 36)) wr.heap.size 36 Z.toList := by simpa using Blk.new wr 36 Z.toList
        have hiE : (Try.prog.info? 36).map (·.size) = some EB.length := by rw [hEB]; exact info_act
        have hiE2 : (Try.prog.info? 36).map (·.size) = some EB.toArray.size := by rw [hEB]; exact info_act
        have hZE : Z.toList.toArray.size = EB.toArray.size := by rw [hEB]; simp [hZ, acC]
        have hEo : EB.toArray.all (·.oneCell') = true := by rw [hEB]; exact all_oneCell_toArray (acC_one p)
        obtain ⟨q, hq⟩ : ∃ q, q = wr.heap.size := ⟨_, rfl⟩
        rw [← hq] at hB1
        have hx0 : W1.cell? ⟨q, 0, none⟩ = some (.int .i64 p.kind) := by rw [hB1.cell, hEB]; rfl
        have hx1 : W1.cell? ⟨q, 1, none⟩ = some (.int .i64 p.n) := by rw [hB1.cell, hEB]; rfl
        have hx2 : W1.cell? ⟨q, 2, none⟩ = some (.slice p.bo p.be.length p.bc) := by rw [hB1.cell, hEB]; rfl
        have hx3 : W1.cell? ⟨q, 3, none⟩ = some (.slice p.fo p.fl.length p.fc) := by rw [hB1.cell, hEB]; rfl
        have hS1 := (unhide HR).1.nn g1
        have hA1 := hact.kept g1
        have hK1 := (unhide HR).2
        rw [← hEB] at hrow
        have HW1 := hide hW1
        have HBZ := hide hBZ
        have HIE := hide hiE
        have HIE2 := hide hiE2
        have HZE := hide hZE
        have HEO := hide hEo
        have HS1 := hide hS1
        have HA1 := hide hA1
        have HK1 := hide hK1
        have HQ := hide hq
        have hkw : IntKind.i64.wrap ((k : Int) + 1) = (k : Int) + 1 := by rw [IntKind.wrap_i64]; omega
        clear hp hEB hW1 hB1 g1 hBZ hiE hiE2 hZE hEo hq hS1 hA1 hK1 hact hZ HR hlt'
        subst hlo
        go_upto_region 13 with (first
          | (refine wpList_load_mid rfl 36 _ rfl b (o + k * 4) rfl EB _ hrow Try.underlying36 rfl (unhide HIE) ?_; clear hrow)
          | (have hB9 := unhide HBZ; refine wpList_store_row rfl 36 _ _ rfl wr.heap.size EB.toArray rfl rfl _ _ hB9 (unhide HIE2) (unhide HZE) (unhide HEO) ?_; clear hB9; rw [← unhide HW1, ← unhide HQ]))
        clear HBZ HIE HIE2 HZE HEO HW1
        by_cases k0 : p.kind = 0
        · by_cases kn : p.n = (j : Int)
          · have e0 : (p.kind == 0) = true := beq_iff_eq.2 (by omega)
            have d0 : decide (p.kind = 0) = true := decide_eq_true (by omega)
            have e1 : (p.kind == 1) = false := beq_eq_false_iff_ne.2 (by omega)
            have d1 : decide (p.kind = 1) = false := decide_eq_false (by omega)
            have e2 : (p.kind == 2) = false := beq_eq_false_iff_ne.2 (by omega)
            have d2 : decide (p.kind = 2) = false := decide_eq_false (by omega)
            have e3 : (p.kind == 3) = false := beq_eq_false_iff_ne.2 (by omega)
            have d3 : decide (p.kind = 3) = false := decide_eq_false (by omega)
            have dn : (p.n == (j : Int)) = true := by rw [kn]; exact beq_self_eq_true _
            have dn2 : decide (p.n = (j : Int)) = true := decide_eq_true kn
            have dn3 : (p.n != (j : Int)) = false := by rw [bne, dn]; rfl
            clear k0 kn
            refine region_named fun O hO => ?_
            refine wpList_val (by rw [hO]; kernel_rfl) (.pointer (some ⟨q, 0, none⟩)) (fun K9 hK9 => by go_simp; exact hK9) ?_
            (try simp only [Act.put, pq1, pq2, pq3])
            refine wpList_val (by rw [hO]; kernel_rfl) (.int .i64 p.kind) (fun K9 hK9 => by go_simp; exact hK9) ?_
            (try simp only [Act.put, pq1, pq2, pq3])
            refine wpList_val (by rw [hO]; kernel_rfl) (.bool true) (fun K9 hK9 => by go_simp; first | rw [d0] | rw [e0] | skip; exact hK9) ?_
            (try simp only [Act.put, pq1, pq2, pq3])
            refine wpList_val (by rw [hO]; kernel_rfl) (.bool true) (fun K9 hK9 => by go_simp; exact hK9) ?_
            (try simp only [Act.put, pq1, pq2, pq3])
            refine wpList_val (by rw [hO]; kernel_rfl) (.pointer (some ⟨q, 1, none⟩)) (fun K9 hK9 => by go_simp; exact hK9) ?_
            (try simp only [Act.put, pq1, pq2, pq3])
            refine wpList_val (by rw [hO]; kernel_rfl) (.int .i64 p.n) (fun K9 hK9 => by go_simp; exact hK9) ?_
            (try simp only [Act.put, pq1, pq2, pq3])
            refine wpList_val (by rw [hO]; kernel_rfl) (.int .i64 (j : Int)) (fun K9 hK9 => by go_simp; exact hK9) ?_
            (try simp only [Act.put, pq1, pq2, pq3])
            refine wpList_val (by rw [hO]; kernel_rfl) (.bool false) (fun K9 hK9 => by go_simp; first | rw [dn] | rw [dn2] | rw [dn3] | skip; exact hK9) ?_
            (try simp only [Act.put, pq1, pq2, pq3])
            refine wpList_val (by rw [hO]; kernel_rfl) (.bool false) (fun K9 hK9 => by go_simp; exact hK9) ?_
            (try simp only [Act.put, pq1, pq2, pq3])
            refine wpList_val (by rw [hO]; kernel_rfl) (.bool false) (fun K9 hK9 => by go_simp; exact hK9) ?_
            (try simp only [Act.put, pq1, pq2, pq3])
            refine wpList_skip (by rw [hO]; kernel_rfl) ?_
            (try simp only [Act.put, pq1, pq2, pq3])
            refine wpList_skip (by rw [hO]; kernel_rfl) ?_
            (try simp only [Act.put, pq1, pq2, pq3])
            refine wpList_skip (by rw [hO]; kernel_rfl) ?_
            (try simp only [Act.put, pq1, pq2, pq3])
            refine wpList_skip (by rw [hO]; kernel_rfl) ?_
            (try simp only [Act.put, pq1, pq2, pq3])
            refine wpList_val (by rw [hO]; kernel_rfl) (.bool false) (fun K9 hK9 => by go_simp; exact hK9) ?_
            (try simp only [Act.put, pq1, pq2, pq3])
            refine wpList_val (by rw [hO]; kernel_rfl) (.bool false) (fun K9 hK9 => by go_simp; exact hK9) ?_
            (try simp only [Act.put, pq1, pq2, pq3])
            go_wp2
            go_roundw
            case rel => exact ⟨k + 1, D, F, by go_num, by omega, by omega, unhide HS1, (unhide HK1).1, Nat.le_succ_of_le (unhide HK1).2.1, (unhide HK1).2.2⟩
            case measure => simp [intOf]; omega
          · by_cases kl : p.be.length < 300
            · have e0 : (p.kind == 0) = true := beq_iff_eq.2 (by omega)
              have d0 : decide (p.kind = 0) = true := decide_eq_true (by omega)
              have e1 : (p.kind == 1) = false := beq_eq_false_iff_ne.2 (by omega)
              have d1 : decide (p.kind = 1) = false := decide_eq_false (by omega)
              have e2 : (p.kind == 2) = false := beq_eq_false_iff_ne.2 (by omega)
              have d2 : decide (p.kind = 2) = false := decide_eq_false (by omega)
              have e3 : (p.kind == 3) = false := beq_eq_false_iff_ne.2 (by omega)
              have d3 : decide (p.kind = 3) = false := decide_eq_false (by omega)
              have dn : (p.n == (j : Int)) = false := beq_eq_false_iff_ne.2 kn
              have dn2 : decide (p.n = (j : Int)) = false := decide_eq_false kn
              have dn3 : (p.n != (j : Int)) = true := by rw [bne, dn]; rfl
              have dl : decide ((p.be.length : Int) < 300) = true := decide_eq_true (by omega)
              have dl2 : decide (p.be.length < 300) = true := decide_eq_true kl
              have cw := lwrite (unhide HS1).two.a p.n p.bo p.bc p.be (unhide HA1).b (by have := (unhide HK1).2.1; omega)
              have HKN := hide kn
              clear k0 kn kl
              refine region_named fun O hO => ?_
              refine wpList_val (by rw [hO]; kernel_rfl) (.pointer (some ⟨q, 0, none⟩)) (fun K9 hK9 => by go_simp; exact hK9) ?_
              (try simp only [Act.put, pq1, pq2, pq3])
              refine wpList_val (by rw [hO]; kernel_rfl) (.int .i64 p.kind) (fun K9 hK9 => by go_simp; exact hK9) ?_
              (try simp only [Act.put, pq1, pq2, pq3])
              refine wpList_val (by rw [hO]; kernel_rfl) (.bool true) (fun K9 hK9 => by go_simp; first | rw [d0] | rw [e0] | skip; exact hK9) ?_
              (try simp only [Act.put, pq1, pq2, pq3])
              refine wpList_val (by rw [hO]; kernel_rfl) (.bool true) (fun K9 hK9 => by go_simp; exact hK9) ?_
              (try simp only [Act.put, pq1, pq2, pq3])
              refine wpList_val (by rw [hO]; kernel_rfl) (.pointer (some ⟨q, 1, none⟩)) (fun K9 hK9 => by go_simp; exact hK9) ?_
              (try simp only [Act.put, pq1, pq2, pq3])
              refine wpList_val (by rw [hO]; kernel_rfl) (.int .i64 p.n) (fun K9 hK9 => by go_simp; exact hK9) ?_
              (try simp only [Act.put, pq1, pq2, pq3])
              refine wpList_val (by rw [hO]; kernel_rfl) (.int .i64 (j : Int)) (fun K9 hK9 => by go_simp; exact hK9) ?_
              (try simp only [Act.put, pq1, pq2, pq3])
              refine wpList_val (by rw [hO]; kernel_rfl) (.bool true) (fun K9 hK9 => by go_simp; first | rw [dn] | rw [dn2] | rw [dn3] | skip; exact hK9) ?_
              (try simp only [Act.put, pq1, pq2, pq3])
              refine wpList_val (by rw [hO]; kernel_rfl) (.bool true) (fun K9 hK9 => by go_simp; exact hK9) ?_
              (try simp only [Act.put, pq1, pq2, pq3])
              refine wpList_val (by rw [hO]; kernel_rfl) (.bool true) (fun K9 hK9 => by go_simp; exact hK9) ?_
              (try simp only [Act.put, pq1, pq2, pq3])
              refine wpList_val (by rw [hO]; kernel_rfl) (.pointer (some ⟨q, 2, none⟩)) (fun K9 hK9 => by go_simp; exact hK9) ?_
              (try simp only [Act.put, pq1, pq2, pq3])
              refine wpList_val (by rw [hO]; kernel_rfl) (.slice p.bo p.be.length p.bc) (fun K9 hK9 => by go_simp; exact hK9) ?_
              (try simp only [Act.put, pq1, pq2, pq3])
              refine wpList_val (by rw [hO]; kernel_rfl) (.int .i64 (p.be.length : Int)) (fun K9 hK9 => by go_simp; exact hK9) ?_
              (try simp only [Act.put, pq1, pq2, pq3])
              refine wpList_val (by rw [hO]; kernel_rfl) (.bool true) (fun K9 hK9 => by go_simp; first | rw [dl] | rw [dl2] | skip; exact hK9) ?_
              (try simp only [Act.put, pq1, pq2, pq3])
              refine wpList_val (by rw [hO]; kernel_rfl) (.bool true) (fun K9 hK9 => by go_simp; exact hK9) ?_
              (try simp only [Act.put, pq1, pq2, pq3])
              refine wpList_val (by rw [hO]; kernel_rfl) (.bool true) (fun K9 hK9 => by go_simp; exact hK9) ?_
              (try simp only [Act.put, pq1, pq2, pq3])
              go_wp2_with (go_at_call 11; refine cw.mono ?_; rintro e w2 ⟨rfl, hlf⟩; obtain ⟨F2, hs2⟩ := (unhide HS1).step hlf; have HS2 := hide hs2; clear cw hlf hs2)
              go_roundw
              case rel => exact ⟨k + 1, _, F2, by go_num, by omega, by omega, unhide HS2, (unhide HK1).1.write _ (unhide HKN) _, Nat.le_trans (wr_u _ _ _) (Nat.succ_le_succ (unhide HK1).2.1), by rw [wr_n]; exact (unhide HK1).2.2⟩
              case measure => simp [intOf]; omega
            · have e0 : (p.kind == 0) = true := beq_iff_eq.2 (by omega)
              have d0 : decide (p.kind = 0) = true := decide_eq_true (by omega)
              have e1 : (p.kind == 1) = false := beq_eq_false_iff_ne.2 (by omega)
              have d1 : decide (p.kind = 1) = false := decide_eq_false (by omega)
              have e2 : (p.kind == 2) = false := beq_eq_false_iff_ne.2 (by omega)
              have d2 : decide (p.kind = 2) = false := decide_eq_false (by omega)
              have e3 : (p.kind == 3) = false := beq_eq_false_iff_ne.2 (by omega)
              have d3 : decide (p.kind = 3) = false := decide_eq_false (by omega)
              have dn : (p.n == (j : Int)) = false := beq_eq_false_iff_ne.2 kn
              have dn2 : decide (p.n = (j : Int)) = false := decide_eq_false kn
              have dn3 : (p.n != (j : Int)) = true := by rw [bne, dn]; rfl
              have dl : decide ((p.be.length : Int) < 300) = false := decide_eq_false (by omega)
              have dl2 : decide (p.be.length < 300) = false := decide_eq_false kl
              clear k0 kn kl
              refine region_named fun O hO => ?_
              refine wpList_val (by rw [hO]; kernel_rfl) (.pointer (some ⟨q, 0, none⟩)) (fun K9 hK9 => by go_simp; exact hK9) ?_
              (try simp only [Act.put, pq1, pq2, pq3])
              refine wpList_val (by rw [hO]; kernel_rfl) (.int .i64 p.kind) (fun K9 hK9 => by go_simp; exact hK9) ?_
              (try simp only [Act.put, pq1, pq2, pq3])
              refine wpList_val (by rw [hO]; kernel_rfl) (.bool true) (fun K9 hK9 => by go_simp; first | rw [d0] | rw [e0] | skip; exact hK9) ?_
              (try simp only [Act.put, pq1, pq2, pq3])
              refine wpList_val (by rw [hO]; kernel_rfl) (.bool true) (fun K9 hK9 => by go_simp; exact hK9) ?_
              (try simp only [Act.put, pq1, pq2, pq3])
              refine wpList_val (by rw [hO]; kernel_rfl) (.pointer (some ⟨q, 1, none⟩)) (fun K9 hK9 => by go_simp; exact hK9) ?_
              (try simp only [Act.put, pq1, pq2, pq3])
              refine wpList_val (by rw [hO]; kernel_rfl) (.int .i64 p.n) (fun K9 hK9 => by go_simp; exact hK9) ?_
              (try simp only [Act.put, pq1, pq2, pq3])
              refine wpList_val (by rw [hO]; kernel_rfl) (.int .i64 (j : Int)) (fun K9 hK9 => by go_simp; exact hK9) ?_
              (try simp only [Act.put, pq1, pq2, pq3])
              refine wpList_val (by rw [hO]; kernel_rfl) (.bool true) (fun K9 hK9 => by go_simp; first | rw [dn] | rw [dn2] | rw [dn3] | skip; exact hK9) ?_
              (try simp only [Act.put, pq1, pq2, pq3])
              refine wpList_val (by rw [hO]; kernel_rfl) (.bool true) (fun K9 hK9 => by go_simp; exact hK9) ?_
              (try simp only [Act.put, pq1, pq2, pq3])
              refine wpList_val (by rw [hO]; kernel_rfl) (.bool true) (fun K9 hK9 => by go_simp; exact hK9) ?_
              (try simp only [Act.put, pq1, pq2, pq3])
              refine wpList_val (by rw [hO]; kernel_rfl) (.pointer (some ⟨q, 2, none⟩)) (fun K9 hK9 => by go_simp; exact hK9) ?_
              (try simp only [Act.put, pq1, pq2, pq3])
              refine wpList_val (by rw [hO]; kernel_rfl) (.slice p.bo p.be.length p.bc) (fun K9 hK9 => by go_simp; exact hK9) ?_
              (try simp only [Act.put, pq1, pq2, pq3])
              refine wpList_val (by rw [hO]; kernel_rfl) (.int .i64 (p.be.length : Int)) (fun K9 hK9 => by go_simp; exact hK9) ?_
              (try simp only [Act.put, pq1, pq2, pq3])
              refine wpList_val (by rw [hO]; kernel_rfl) (.bool false) (fun K9 hK9 => by go_simp; first | rw [dl] | rw [dl2] | skip; exact hK9) ?_
              (try simp only [Act.put, pq1, pq2, pq3])
              refine wpList_val (by rw [hO]; kernel_rfl) (.bool false) (fun K9 hK9 => by go_simp; exact hK9) ?_
              (try simp only [Act.put, pq1, pq2, pq3])
              refine wpList_val (by rw [hO]; kernel_rfl) (.bool false) (fun K9 hK9 => by go_simp; exact hK9) ?_
              (try simp only [Act.put, pq1, pq2, pq3])
              go_wp2
              go_roundw
              case rel => exact ⟨k + 1, D, F, by go_num, by omega, by omega, unhide HS1, (unhide HK1).1, Nat.le_succ_of_le (unhide HK1).2.1, (unhide HK1).2.2⟩
              case measure => simp [intOf]; omega
        · by_cases k1 : p.kind = 1
          · have e0 : (p.kind == 0) = false := beq_eq_false_iff_ne.2 (by omega)
            have d0 : decide (p.kind = 0) = false := decide_eq_false (by omega)
            have e1 : (p.kind == 1) = true := beq_iff_eq.2 (by omega)
            have d1 : decide (p.kind = 1) = true := decide_eq_true (by omega)
            have e2 : (p.kind == 2) = false := beq_eq_false_iff_ne.2 (by omega)
            have d2 : decide (p.kind = 2) = false := decide_eq_false (by omega)
            have e3 : (p.kind == 3) = false := beq_eq_false_iff_ne.2 (by omega)
            have d3 : decide (p.kind = 3) = false := decide_eq_false (by omega)
            have cw := lsync (unhide HS1).two.a (by have := (unhide HK1).2.1; omega)
            clear k0 k1
            refine region_named fun O hO => ?_
            refine wpList_val (by rw [hO]; kernel_rfl) (.pointer (some ⟨q, 0, none⟩)) (fun K9 hK9 => by go_simp; exact hK9) ?_
            (try simp only [Act.put, pq1, pq2, pq3])
            refine wpList_val (by rw [hO]; kernel_rfl) (.int .i64 p.kind) (fun K9 hK9 => by go_simp; exact hK9) ?_
            (try simp only [Act.put, pq1, pq2, pq3])
            refine wpList_val (by rw [hO]; kernel_rfl) (.bool false) (fun K9 hK9 => by go_simp; first | rw [d0] | rw [e0] | skip; exact hK9) ?_
            (try simp only [Act.put, pq1, pq2, pq3])
            refine wpList_val (by rw [hO]; kernel_rfl) (.bool false) (fun K9 hK9 => by go_simp; exact hK9) ?_
            (try simp only [Act.put, pq1, pq2, pq3])
            refine wpList_skip (by rw [hO]; kernel_rfl) ?_
            (try simp only [Act.put, pq1, pq2, pq3])
            refine wpList_skip (by rw [hO]; kernel_rfl) ?_
            (try simp only [Act.put, pq1, pq2, pq3])
            refine wpList_skip (by rw [hO]; kernel_rfl) ?_
            (try simp only [Act.put, pq1, pq2, pq3])
            refine wpList_skip (by rw [hO]; kernel_rfl) ?_
            (try simp only [Act.put, pq1, pq2, pq3])
            refine wpList_val (by rw [hO]; kernel_rfl) (.bool false) (fun K9 hK9 => by go_simp; exact hK9) ?_
            (try simp only [Act.put, pq1, pq2, pq3])
            refine wpList_val (by rw [hO]; kernel_rfl) (.bool false) (fun K9 hK9 => by go_simp; exact hK9) ?_
            (try simp only [Act.put, pq1, pq2, pq3])
            refine wpList_skip (by rw [hO]; kernel_rfl) ?_
            (try simp only [Act.put, pq1, pq2, pq3])
            refine wpList_skip (by rw [hO]; kernel_rfl) ?_
            (try simp only [Act.put, pq1, pq2, pq3])
            refine wpList_skip (by rw [hO]; kernel_rfl) ?_
            (try simp only [Act.put, pq1, pq2, pq3])
            refine wpList_skip (by rw [hO]; kernel_rfl) ?_
            (try simp only [Act.put, pq1, pq2, pq3])
            refine wpList_val (by rw [hO]; kernel_rfl) (.bool false) (fun K9 hK9 => by go_simp; exact hK9) ?_
            (try simp only [Act.put, pq1, pq2, pq3])
            refine wpList_val (by rw [hO]; kernel_rfl) (.bool false) (fun K9 hK9 => by go_simp; exact hK9) ?_
            (try simp only [Act.put, pq1, pq2, pq3])
            go_wp2_with (go_at_call 13; refine cw.mono ?_; rintro e w2 ⟨rfl, hlf⟩; obtain ⟨F2, hs2⟩ := (unhide HS1).step hlf; have HS2 := hide hs2; clear cw hlf hs2)
            go_roundw
            case rel => exact ⟨k + 1, _, F2, by go_num, by omega, by omega, unhide HS2, (unhide HK1).1.sync, Nat.le_succ_of_le (Nat.le_trans (sy_u _) (unhide HK1).2.1), by rw [sy_n]; exact (unhide HK1).2.2⟩
            case measure => simp [intOf]; omega
          · by_cases k2 : p.kind = 2
            · have e0 : (p.kind == 0) = false := beq_eq_false_iff_ne.2 (by omega)
              have d0 : decide (p.kind = 0) = false := decide_eq_false (by omega)
              have e1 : (p.kind == 1) = false := beq_eq_false_iff_ne.2 (by omega)
              have d1 : decide (p.kind = 1) = false := decide_eq_false (by omega)
              have e2 : (p.kind == 2) = true := beq_iff_eq.2 (by omega)
              have d2 : decide (p.kind = 2) = true := decide_eq_true (by omega)
              have e3 : (p.kind == 3) = false := beq_eq_false_iff_ne.2 (by omega)
              have d3 : decide (p.kind = 3) = false := decide_eq_false (by omega)
              have cw := larm (unhide HS1).two.a p.n (unhide HA1).hi
              clear k0 k1 k2
              refine region_named fun O hO => ?_
              refine wpList_val (by rw [hO]; kernel_rfl) (.pointer (some ⟨q, 0, none⟩)) (fun K9 hK9 => by go_simp; exact hK9) ?_
              (try simp only [Act.put, pq1, pq2, pq3])
              refine wpList_val (by rw [hO]; kernel_rfl) (.int .i64 p.kind) (fun K9 hK9 => by go_simp; exact hK9) ?_
              (try simp only [Act.put, pq1, pq2, pq3])
              refine wpList_val (by rw [hO]; kernel_rfl) (.bool false) (fun K9 hK9 => by go_simp; first | rw [d0] | rw [e0] | skip; exact hK9) ?_
              (try simp only [Act.put, pq1, pq2, pq3])
              refine wpList_val (by rw [hO]; kernel_rfl) (.bool false) (fun K9 hK9 => by go_simp; exact hK9) ?_
              (try simp only [Act.put, pq1, pq2, pq3])
              refine wpList_skip (by rw [hO]; kernel_rfl) ?_
              (try simp only [Act.put, pq1, pq2, pq3])
              refine wpList_skip (by rw [hO]; kernel_rfl) ?_
              (try simp only [Act.put, pq1, pq2, pq3])
              refine wpList_skip (by rw [hO]; kernel_rfl) ?_
              (try simp only [Act.put, pq1, pq2, pq3])
              refine wpList_skip (by rw [hO]; kernel_rfl) ?_
              (try simp only [Act.put, pq1, pq2, pq3])
              refine wpList_val (by rw [hO]; kernel_rfl) (.bool false) (fun K9 hK9 => by go_simp; exact hK9) ?_
              (try simp only [Act.put, pq1, pq2, pq3])
              refine wpList_val (by rw [hO]; kernel_rfl) (.bool false) (fun K9 hK9 => by go_simp; exact hK9) ?_
              (try simp only [Act.put, pq1, pq2, pq3])
              refine wpList_skip (by rw [hO]; kernel_rfl) ?_
              (try simp only [Act.put, pq1, pq2, pq3])
              refine wpList_skip (by rw [hO]; kernel_rfl) ?_
              (try simp only [Act.put, pq1, pq2, pq3])
              refine wpList_skip (by rw [hO]; kernel_rfl) ?_
              (try simp only [Act.put, pq1, pq2, pq3])
              refine wpList_skip (by rw [hO]; kernel_rfl) ?_
              (try simp only [Act.put, pq1, pq2, pq3])
              refine wpList_val (by rw [hO]; kernel_rfl) (.bool false) (fun K9 hK9 => by go_simp; exact hK9) ?_
              (try simp only [Act.put, pq1, pq2, pq3])
              refine wpList_val (by rw [hO]; kernel_rfl) (.bool false) (fun K9 hK9 => by go_simp; exact hK9) ?_
              (try simp only [Act.put, pq1, pq2, pq3])
              go_wp2_with (go_at_call 14; refine cw.mono ?_; rintro e w2 ⟨rfl, hlf⟩; obtain ⟨F2, hs2⟩ := (unhide HS1).step hlf; have HS2 := hide hs2; clear cw hlf hs2)
              go_roundw
              case rel => exact ⟨k + 1, _, F2, by go_num, by omega, by omega, unhide HS2, (unhide HK1).1.arm _, Nat.le_succ_of_le (unhide HK1).2.1, (unhide HK1).2.2⟩
              case measure => simp [intOf]; omega
            · by_cases k3 : p.kind = 3
              · by_cases kl : p.fl.length < 200
                · have e0 : (p.kind == 0) = false := beq_eq_false_iff_ne.2 (by omega)
                  have d0 : decide (p.kind = 0) = false := decide_eq_false (by omega)
                  have e1 : (p.kind == 1) = false := beq_eq_false_iff_ne.2 (by omega)
                  have d1 : decide (p.kind = 1) = false := decide_eq_false (by omega)
                  have e2 : (p.kind == 2) = false := beq_eq_false_iff_ne.2 (by omega)
                  have d2 : decide (p.kind = 2) = false := decide_eq_false (by omega)
                  have e3 : (p.kind == 3) = true := beq_iff_eq.2 (by omega)
                  have d3 : decide (p.kind = 3) = true := decide_eq_true (by omega)
                  have dl : decide ((p.fl.length : Int) < 200) = true := decide_eq_true (by omega)
                  have dl2 : decide (p.fl.length < 200) = true := decide_eq_true kl
                  have cf := lfates_any W1 p.fo p.fc p.fl (unhide HA1).f
                  have ht : p.fl.take 500 = p.fl := List.take_of_length_le (by omega)
                  rw [ht] at cf
                  clear k0 k1 k2 k3 kl ht
                  refine region_named fun O hO => ?_
                  refine wpList_val (by rw [hO]; kernel_rfl) (.pointer (some ⟨q, 0, none⟩)) (fun K9 hK9 => by go_simp; exact hK9) ?_
                  (try simp only [Act.put, pq1, pq2, pq3])
                  refine wpList_val (by rw [hO]; kernel_rfl) (.int .i64 p.kind) (fun K9 hK9 => by go_simp; exact hK9) ?_
                  (try simp only [Act.put, pq1, pq2, pq3])
                  refine wpList_val (by rw [hO]; kernel_rfl) (.bool false) (fun K9 hK9 => by go_simp; first | rw [d0] | rw [e0] | skip; exact hK9) ?_
                  (try simp only [Act.put, pq1, pq2, pq3])
                  refine wpList_val (by rw [hO]; kernel_rfl) (.bool false) (fun K9 hK9 => by go_simp; exact hK9) ?_
                  (try simp only [Act.put, pq1, pq2, pq3])
                  refine wpList_skip (by rw [hO]; kernel_rfl) ?_
                  (try simp only [Act.put, pq1, pq2, pq3])
                  refine wpList_skip (by rw [hO]; kernel_rfl) ?_
                  (try simp only [Act.put, pq1, pq2, pq3])
                  refine wpList_skip (by rw [hO]; kernel_rfl) ?_
                  (try simp only [Act.put, pq1, pq2, pq3])
                  refine wpList_skip (by rw [hO]; kernel_rfl) ?_
                  (try simp only [Act.put, pq1, pq2, pq3])
                  refine wpList_val (by rw [hO]; kernel_rfl) (.bool false) (fun K9 hK9 => by go_simp; exact hK9) ?_
                  (try simp only [Act.put, pq1, pq2, pq3])
                  refine wpList_val (by rw [hO]; kernel_rfl) (.bool false) (fun K9 hK9 => by go_simp; exact hK9) ?_
                  (try simp only [Act.put, pq1, pq2, pq3])
                  refine wpList_skip (by rw [hO]; kernel_rfl) ?_
                  (try simp only [Act.put, pq1, pq2, pq3])
                  refine wpList_skip (by rw [hO]; kernel_rfl) ?_
                  (try simp only [Act.put, pq1, pq2, pq3])
                  refine wpList_skip (by rw [hO]; kernel_rfl) ?_
                  (try simp only [Act.put, pq1, pq2, pq3])
                  refine wpList_skip (by rw [hO]; kernel_rfl) ?_
                  (try simp only [Act.put, pq1, pq2, pq3])
                  refine wpList_val (by rw [hO]; kernel_rfl) (.bool false) (fun K9 hK9 => by go_simp; exact hK9) ?_
                  (try simp only [Act.put, pq1, pq2, pq3])
                  refine wpList_val (by rw [hO]; kernel_rfl) (.bool false) (fun K9 hK9 => by go_simp; exact hK9) ?_
                  (try simp only [Act.put, pq1, pq2, pq3])
                  go_wp2_with fail
                  refine cf.mono ?_
                  rintro e w2 ⟨fo2, fc2, rfl, hf2, hn2, g2⟩
                  have hs2 := (unhide HS1).nn g2
                  have hoff2 : ∀ ad, fo2 = some ad → ad.block ∉ F := fun ad e hm => by have := hn2 ad e; have := ((unhide HS1).two.a.lo _ hm).2; omega
                  have cw := lfall hs2.two.a (by have := (unhide HK1).2.1; omega) fo2 fc2 _ hf2 hoff2
                  have HS2 := hide hs2
                  clear cf hf2 hn2 g2 hs2 hoff2
                  go_wp2_with (go_at_call 15; refine cw.mono ?_; rintro e w3 ⟨rfl, hlf⟩; obtain ⟨F3, hs3⟩ := (unhide HS2).step hlf; have HS3 := hide hs3; clear cw hlf hs3)
                  go_roundw
                  case rel => exact ⟨k + 1, _, F3, by go_num, by omega, by omega, unhide HS3, (unhide HK1).1.fall _, by rw [fa_u]; exact Nat.zero_le _, by rw [fa_n]; exact (unhide HK1).2.2⟩
                  case measure => simp [intOf]; omega
                · have e0 : (p.kind == 0) = false := beq_eq_false_iff_ne.2 (by omega)
                  have d0 : decide (p.kind = 0) = false := decide_eq_false (by omega)
                  have e1 : (p.kind == 1) = false := beq_eq_false_iff_ne.2 (by omega)
                  have d1 : decide (p.kind = 1) = false := decide_eq_false (by omega)
                  have e2 : (p.kind == 2) = false := beq_eq_false_iff_ne.2 (by omega)
                  have d2 : decide (p.kind = 2) = false := decide_eq_false (by omega)
                  have e3 : (p.kind == 3) = true := beq_iff_eq.2 (by omega)
                  have d3 : decide (p.kind = 3) = true := decide_eq_true (by omega)
                  have dl : decide ((p.fl.length : Int) < 200) = false := decide_eq_false (by omega)
                  have dl2 : decide (p.fl.length < 200) = false := decide_eq_false kl
                  clear k0 k1 k2 k3 kl
                  refine region_named fun O hO => ?_
                  refine wpList_val (by rw [hO]; kernel_rfl) (.pointer (some ⟨q, 0, none⟩)) (fun K9 hK9 => by go_simp; exact hK9) ?_
                  (try simp only [Act.put, pq1, pq2, pq3])
                  refine wpList_val (by rw [hO]; kernel_rfl) (.int .i64 p.kind) (fun K9 hK9 => by go_simp; exact hK9) ?_
                  (try simp only [Act.put, pq1, pq2, pq3])
                  refine wpList_val (by rw [hO]; kernel_rfl) (.bool false) (fun K9 hK9 => by go_simp; first | rw [d0] | rw [e0] | skip; exact hK9) ?_
                  (try simp only [Act.put, pq1, pq2, pq3])
                  refine wpList_val (by rw [hO]; kernel_rfl) (.bool false) (fun K9 hK9 => by go_simp; exact hK9) ?_
                  (try simp only [Act.put, pq1, pq2, pq3])
                  refine wpList_skip (by rw [hO]; kernel_rfl) ?_
                  (try simp only [Act.put, pq1, pq2, pq3])
                  refine wpList_skip (by rw [hO]; kernel_rfl) ?_
                  (try simp only [Act.put, pq1, pq2, pq3])
                  refine wpList_skip (by rw [hO]; kernel_rfl) ?_
                  (try simp only [Act.put, pq1, pq2, pq3])
                  refine wpList_skip (by rw [hO]; kernel_rfl) ?_
                  (try simp only [Act.put, pq1, pq2, pq3])
                  refine wpList_val (by rw [hO]; kernel_rfl) (.bool false) (fun K9 hK9 => by go_simp; exact hK9) ?_
                  (try simp only [Act.put, pq1, pq2, pq3])
                  refine wpList_val (by rw [hO]; kernel_rfl) (.bool false) (fun K9 hK9 => by go_simp; exact hK9) ?_
                  (try simp only [Act.put, pq1, pq2, pq3])
                  refine wpList_skip (by rw [hO]; kernel_rfl) ?_
                  (try simp only [Act.put, pq1, pq2, pq3])
                  refine wpList_skip (by rw [hO]; kernel_rfl) ?_
                  (try simp only [Act.put, pq1, pq2, pq3])
                  refine wpList_skip (by rw [hO]; kernel_rfl) ?_
                  (try simp only [Act.put, pq1, pq2, pq3])
                  refine wpList_skip (by rw [hO]; kernel_rfl) ?_
                  (try simp only [Act.put, pq1, pq2, pq3])
                  refine wpList_val (by rw [hO]; kernel_rfl) (.bool false) (fun K9 hK9 => by go_simp; exact hK9) ?_
                  (try simp only [Act.put, pq1, pq2, pq3])
                  refine wpList_val (by rw [hO]; kernel_rfl) (.bool false) (fun K9 hK9 => by go_simp; exact hK9) ?_
                  (try simp only [Act.put, pq1, pq2, pq3])
                  go_wp2
                  go_roundw
                  case rel => exact ⟨k + 1, D, F, by go_num, by omega, by omega, unhide HS1, (unhide HK1).1, Nat.le_succ_of_le (unhide HK1).2.1, (unhide HK1).2.2⟩
                  case measure => simp [intOf]; omega
              · have e0 : (p.kind == 0) = false := beq_eq_false_iff_ne.2 (by omega)
                have d0 : decide (p.kind = 0) = false := decide_eq_false (by omega)
                have e1 : (p.kind == 1) = false := beq_eq_false_iff_ne.2 (by omega)
                have d1 : decide (p.kind = 1) = false := decide_eq_false (by omega)
                have e2 : (p.kind == 2) = false := beq_eq_false_iff_ne.2 (by omega)
                have d2 : decide (p.kind = 2) = false := decide_eq_false (by omega)
                have e3 : (p.kind == 3) = false := beq_eq_false_iff_ne.2 (by omega)
                have d3 : decide (p.kind = 3) = false := decide_eq_false (by omega)
                clear k0 k1 k2 k3
                refine region_named fun O hO => ?_
                refine wpList_val (by rw [hO]; kernel_rfl) (.pointer (some ⟨q, 0, none⟩)) (fun K9 hK9 => by go_simp; exact hK9) ?_
                (try simp only [Act.put, pq1, pq2, pq3])
                refine wpList_val (by rw [hO]; kernel_rfl) (.int .i64 p.kind) (fun K9 hK9 => by go_simp; exact hK9) ?_
                (try simp only [Act.put, pq1, pq2, pq3])
                refine wpList_val (by rw [hO]; kernel_rfl) (.bool false) (fun K9 hK9 => by go_simp; first | rw [d0] | rw [e0] | skip; exact hK9) ?_
                (try simp only [Act.put, pq1, pq2, pq3])
                refine wpList_val (by rw [hO]; kernel_rfl) (.bool false) (fun K9 hK9 => by go_simp; exact hK9) ?_
                (try simp only [Act.put, pq1, pq2, pq3])
                refine wpList_skip (by rw [hO]; kernel_rfl) ?_
                (try simp only [Act.put, pq1, pq2, pq3])
                refine wpList_skip (by rw [hO]; kernel_rfl) ?_
                (try simp only [Act.put, pq1, pq2, pq3])
                refine wpList_skip (by rw [hO]; kernel_rfl) ?_
                (try simp only [Act.put, pq1, pq2, pq3])
                refine wpList_skip (by rw [hO]; kernel_rfl) ?_
                (try simp only [Act.put, pq1, pq2, pq3])
                refine wpList_val (by rw [hO]; kernel_rfl) (.bool false) (fun K9 hK9 => by go_simp; exact hK9) ?_
                (try simp only [Act.put, pq1, pq2, pq3])
                refine wpList_val (by rw [hO]; kernel_rfl) (.bool false) (fun K9 hK9 => by go_simp; exact hK9) ?_
                (try simp only [Act.put, pq1, pq2, pq3])
                refine wpList_skip (by rw [hO]; kernel_rfl) ?_
                (try simp only [Act.put, pq1, pq2, pq3])
                refine wpList_skip (by rw [hO]; kernel_rfl) ?_
                (try simp only [Act.put, pq1, pq2, pq3])
                refine wpList_skip (by rw [hO]; kernel_rfl) ?_
                (try simp only [Act.put, pq1, pq2, pq3])
                refine wpList_skip (by rw [hO]; kernel_rfl) ?_
                (try simp only [Act.put, pq1, pq2, pq3])
                refine wpList_val (by rw [hO]; kernel_rfl) (.bool false) (fun K9 hK9 => by go_simp; exact hK9) ?_
                (try simp only [Act.put, pq1, pq2, pq3])
                refine wpList_val (by rw [hO]; kernel_rfl) (.bool false) (fun K9 hK9 => by go_simp; exact hK9) ?_
                (try simp only [Act.put, pq1, pq2, pq3])
                go_wp2
                go_roundw
                case rel => exact ⟨k + 1, D, F, by go_num, by omega, by omega, unhide HS1, (unhide HK1).1, Nat.le_succ_of_le (unhide HK1).2.1, (unhide HK1).2.2⟩
                case measure => simp [intOf]; omega
      · have h40i : ¬ (k : Int) < 40 := by omega
        clear hdk
        have hdk : (k : Int) < (n2 : Int) := by omega
        have hr := unhide HR
        obtain ⟨D1, hD1⟩ : ∃ D1, D1 = faD D [] := ⟨_, rfl⟩
        have cf := lfall0 hr.1.two.a (by have := hr.2.2.1; omega)
        rw [← hD1] at cf
        have k1 : Kp j x D1 := by rw [hD1]; exact hr.2.1.fall _
        have dn1 : D1.down = false := by rw [hD1]; rfl
        have u1 : D1.U = [] := by rw [hD1]; rfl
        have n1 : D1.safe.length = 8 := by rw [hD1, fa_n]; exact hr.2.2.2
        have hstep := fun w2 => (hr.1.step (w' := w2) (D' := D1))
        have HST2 := hide hstep
        have HK1 := hide (And.intro k1 (And.intro dn1 (And.intro u1 n1)))
        clear hr hD1 k1 dn1 u1 n1 HR hstep
        go_upto_region 22 with (go_at_call 15; refine cf.mono ?_; rintro e w2 ⟨rfl, hlf⟩; obtain ⟨F2, hs2⟩ := unhide HST2 w2 hlf; clear cf hlf HST2)
        have hk1 := unhide HK1
        have cr := lread_up hs2.two.a hk1.2.1 (j : Int) j rfl (by rw [hk1.2.2.2]; omega) (by rw [hk1.2.2.1]; decide)
        rw [hk1.1.last] at cr
        clear hk1
        go_upto_region 23 with (go_at_call 18; refine cr.mono ?_; rintro e w3 ⟨a14, c14, rfl, hb14, -, g3⟩; clear cr)
        have hs3 := hs2.nn g3
        have hek := unhide HEK
        have cr2 := lread_up hs3.two.b (unhide HED) (j : Int) j rfl (by rw [hek.2]; omega) (by rw [unhide HEU]; decide)
        rw [hek.1.last] at cr2
        clear hs2 g3 hek
        go_upto_region 24 with (go_at_call 18; refine cr2.mono ?_; rintro e w4 ⟨a16, c16, rfl, hb16, -, g4⟩; clear cr2)
        have hs4 := hs3.nn g4
        have hb14b := hb14.kept g4 (fun _ e => by cases e)
        have hxl : (256 : Nat) = x.length := by rw [unhide HXX]; exact (unhide HX).symm
        have hc14 : ∀ V, w4.grownBy V none → (convert 33 9 (.slice a14 256 c14)).run Try.prog V = .ok (.string (str x)) V := fun V hV => conv_len (hb14b.kept hV (fun _ e => by cases e)) hxl
        have hc16 : ∀ V, w4.grownBy V none → (convert 33 9 (.slice a16 256 c16)).run Try.prog V = .ok (.string (str x)) V := fun V hV => conv_len (hb16.kept hV (fun _ e => by cases e)) hxl
        have hc9 : ∀ V, w4.grownBy V none → (convert 33 9 (.slice a9 256 c9)).run Try.prog V = .ok (.string (str x)) V := fun V hV => conv_len (hs4.rd.kept hV (fun _ e => by cases e)) hxl
        have hcu : ∀ V, w4.grownBy V none → Calls Try.prog 20 #[.pointer (some ⟨c, 0, none⟩)] V (fun e w5 => ∃ ao cu, e = .returned (.slice ao 0 cu) ∧ V.grownBy w5 none) := fun V hV => (lunder (hs4.two.b.nn hV) (by rw [unhide HEU]; decide)).mono (fun e w5 q => by obtain ⟨ao, cu, q1, -, -, q4⟩ := q; rw [unhide HEU] at q1; exact ⟨ao, cu, q1, q4⟩)
        have HC14 := hide hc14
        have HC16 := hide hc16
        have HC9 := hide hc9
        have HCU := hide hcu
        have HG4 := hide hs4.two.a.gb
        obtain ⟨S, hS⟩ : ∃ S, S = str x := ⟨_, rfl⟩
        rw [← hS] at HC14 HC16 HC9
        clear hs3 g4 hs4 hb14 hb14b hb16 hc14 hc16 hc9 hcu hxl hS
        refine region_named fun O hO => ?_
        refine wpList_val (by rw [hO]; kernel_rfl) (.int .i64 0) (fun K9 hK9 => by go_simp; exact hK9) ?_
        (try simp only [Act.put, pq1, pq2, pq3])
        refine wpList_val (by rw [hO]; kernel_rfl) (.bool true) (fun K9 hK9 => by go_simp; exact hK9) ?_
        (try simp only [Act.put, pq1, pq2, pq3])
        refine wpList_val (by rw [hO]; kernel_rfl) (.bool true) (fun K9 hK9 => by go_simp; exact hK9) ?_
        (try simp only [Act.put, pq1, pq2, pq3])
        refine wpList_val (by rw [hO]; kernel_rfl) (.int .i64 0) (fun K9 hK9 => by go_simp; exact hK9) ?_
        (try simp only [Act.put, pq1, pq2, pq3])
        refine wpList_val (by rw [hO]; kernel_rfl) (.bool true) (fun K9 hK9 => by go_simp; exact hK9) ?_
        (try simp only [Act.put, pq1, pq2, pq3])
        refine wpList_val (by rw [hO]; kernel_rfl) (.bool true) (fun K9 hK9 => by go_simp; exact hK9) ?_
        (try simp only [Act.put, pq1, pq2, pq3])
        refine wpList_val (by rw [hO]; kernel_rfl) (.bool true) (fun K9 hK9 => by go_simp; exact hK9) ?_
        (try simp only [Act.put, pq1, pq2, pq3])
        refine wpList_val (by rw [hO]; kernel_rfl) (.slice a14 256 c14) (fun K9 hK9 => by go_simp; exact hK9) ?_
        (try simp only [Act.put, pq1, pq2, pq3])
        refine wpList_val (by rw [hO]; kernel_rfl) (.string S) (fun K9 hK9 => by (have hv1 := unhide HC14 w4 (gb_refl _ _); go_simp); exact hK9) ?_
        (try simp only [Act.put, pq1, pq2, pq3])
        refine wpList_val (by rw [hO]; kernel_rfl) (.slice a9 256 c9) (fun K9 hK9 => by go_simp; exact hK9) ?_
        (try simp only [Act.put, pq1, pq2, pq3])
        refine wpList_val (by rw [hO]; kernel_rfl) (.string S) (fun K9 hK9 => by (have hv1 := unhide HC9 w4 (gb_refl _ _); go_simp); exact hK9) ?_
        (try simp only [Act.put, pq1, pq2, pq3])
        refine wpList_val (by rw [hO]; kernel_rfl) (.bool true) (fun K9 hK9 => by go_simp; exact hK9) ?_
        (try simp only [Act.put, pq1, pq2, pq3])
        refine wpList_val (by rw [hO]; kernel_rfl) (.bool true) (fun K9 hK9 => by go_simp; exact hK9) ?_
        (try simp only [Act.put, pq1, pq2, pq3])
        refine wpList_val (by rw [hO]; kernel_rfl) (.bool true) (fun K9 hK9 => by go_simp; exact hK9) ?_
        (try simp only [Act.put, pq1, pq2, pq3])
        refine wpList_val (by rw [hO]; kernel_rfl) (.slice a16 256 c16) (fun K9 hK9 => by go_simp; exact hK9) ?_
        (try simp only [Act.put, pq1, pq2, pq3])
        refine wpList_val (by rw [hO]; kernel_rfl) (.string S) (fun K9 hK9 => by (have hv1 := unhide HC16 w4 (gb_refl _ _); go_simp); exact hK9) ?_
        (try simp only [Act.put, pq1, pq2, pq3])
        refine wpList_val (by rw [hO]; kernel_rfl) (.slice a9 256 c9) (fun K9 hK9 => by go_simp; exact hK9) ?_
        (try simp only [Act.put, pq1, pq2, pq3])
        refine wpList_val (by rw [hO]; kernel_rfl) (.string S) (fun K9 hK9 => by (have hv1 := unhide HC9 w4 (gb_refl _ _); go_simp); exact hK9) ?_
        (try simp only [Act.put, pq1, pq2, pq3])
        refine wpList_val (by rw [hO]; kernel_rfl) (.bool true) (fun K9 hK9 => by go_simp; exact hK9) ?_
        (try simp only [Act.put, pq1, pq2, pq3])
        refine wpList_val (by rw [hO]; kernel_rfl) (.bool true) (fun K9 hK9 => by go_simp; exact hK9) ?_
        (try simp only [Act.put, pq1, pq2, pq3])
        refine wpList_val (by rw [hO]; kernel_rfl) (.bool true) (fun K9 hK9 => by go_simp; exact hK9) ?_
        (try simp only [Act.put, pq1, pq2, pq3])
        refine wpList_val (by rw [hO]; kernel_rfl) (.pointer (some ⟨c, 0, none⟩)) (fun K9 hK9 => by go_simp; exact hK9) ?_
        (try simp only [Act.put, pq1, pq2, pq3])
        refine wpList_want (by rw [hO]; kernel_rfl) fun K9 hK9 => ?_
        go_simp
        go_at_call 20
        refine (unhide HCU _ (gb_refl _ _)).mono ?_
        rintro e w5 ⟨au, cu, rfl, g5⟩
        refine hK9 _ _ ?_
        clear hK9 K9
        (try simp only [Act.put, pq1, pq2, pq3])
        refine wpList_val (by rw [hO]; kernel_rfl) (.int .i64 (0 : Int)) (fun K9 hK9 => by go_simp; exact hK9) ?_
        (try simp only [Act.put, pq1, pq2, pq3])
        refine wpList_val (by rw [hO]; kernel_rfl) (.bool true) (fun K9 hK9 => by go_simp; exact hK9) ?_
        (try simp only [Act.put, pq1, pq2, pq3])
        refine wpList_val (by rw [hO]; kernel_rfl) (.bool true) (fun K9 hK9 => by go_simp; exact hK9) ?_
        (try simp only [Act.put, pq1, pq2, pq3])
        refine wpList_val (by rw [hO]; kernel_rfl) (.bool true) (fun K9 hK9 => by go_simp; exact hK9) ?_
        (try simp only [Act.put, pq1, pq2, pq3])
        refine wpList_want (by rw [hO]; kernel_rfl) fun K9 hK9 => ?_
        go_simp
        go_at_call 24
        refine (dkone_any _).mono ?_
        rintro e w6 ⟨rfl, g6⟩
        refine hK9 _ _ ?_
        clear hK9 K9
        (try simp only [Act.put, pq1, pq2, pq3])
        refine wpList_val (by rw [hO]; kernel_rfl) (.bool true) (fun K9 hK9 => by go_simp; exact hK9) ?_
        (try simp only [Act.put, pq1, pq2, pq3])
        refine wpList_val (by rw [hO]; kernel_rfl) (.bool true) (fun K9 hK9 => by go_simp; exact hK9) ?_
        (try simp only [Act.put, pq1, pq2, pq3])
        clear HC14 HC16 HC9 HCU
        go_wp2
        go_ret
        exact ⟨rfl, tn (unhide HG4) (tn g5 g6)⟩
    · have hdi : ¬ (k : Int) < (n2 : Int) := by omega
      have hr := unhide HR
      obtain ⟨D1, hD1⟩ : ∃ D1, D1 = faD D [] := ⟨_, rfl⟩
      have cf := lfall0 hr.1.two.a (by have := hr.2.2.1; omega)
      rw [← hD1] at cf
      have k1 : Kp j x D1 := by rw [hD1]; exact hr.2.1.fall _
      have dn1 : D1.down = false := by rw [hD1]; rfl
      have u1 : D1.U = [] := by rw [hD1]; rfl
      have n1 : D1.safe.length = 8 := by rw [hD1, fa_n]; exact hr.2.2.2
      have hstep := fun w2 => (hr.1.step (w' := w2) (D' := D1))
      have HST2 := hide hstep
      have HK1 := hide (And.intro k1 (And.intro dn1 (And.intro u1 n1)))
      clear hr hD1 k1 dn1 u1 n1 HR hstep
      go_upto_region 22 with (go_at_call 15; refine cf.mono ?_; rintro e w2 ⟨rfl, hlf⟩; obtain ⟨F2, hs2⟩ := unhide HST2 w2 hlf; clear cf hlf HST2)
      have hk1 := unhide HK1
      have cr := lread_up hs2.two.a hk1.2.1 (j : Int) j rfl (by rw [hk1.2.2.2]; omega) (by rw [hk1.2.2.1]; decide)
      rw [hk1.1.last] at cr
      clear hk1
      go_upto_region 23 with (go_at_call 18; refine cr.mono ?_; rintro e w3 ⟨a14, c14, rfl, hb14, -, g3⟩; clear cr)
      have hs3 := hs2.nn g3
      have hek := unhide HEK
      have cr2 := lread_up hs3.two.b (unhide HED) (j : Int) j rfl (by rw [hek.2]; omega) (by rw [unhide HEU]; decide)
      rw [hek.1.last] at cr2
      clear hs2 g3 hek
      go_upto_region 24 with (go_at_call 18; refine cr2.mono ?_; rintro e w4 ⟨a16, c16, rfl, hb16, -, g4⟩; clear cr2)
      have hs4 := hs3.nn g4
      have hb14b := hb14.kept g4 (fun _ e => by cases e)
      have hxl : (256 : Nat) = x.length := by rw [unhide HXX]; exact (unhide HX).symm
      have hc14 : ∀ V, w4.grownBy V none → (convert 33 9 (.slice a14 256 c14)).run Try.prog V = .ok (.string (str x)) V := fun V hV => conv_len (hb14b.kept hV (fun _ e => by cases e)) hxl
      have hc16 : ∀ V, w4.grownBy V none → (convert 33 9 (.slice a16 256 c16)).run Try.prog V = .ok (.string (str x)) V := fun V hV => conv_len (hb16.kept hV (fun _ e => by cases e)) hxl
      have hc9 : ∀ V, w4.grownBy V none → (convert 33 9 (.slice a9 256 c9)).run Try.prog V = .ok (.string (str x)) V := fun V hV => conv_len (hs4.rd.kept hV (fun _ e => by cases e)) hxl
      have hcu : ∀ V, w4.grownBy V none → Calls Try.prog 20 #[.pointer (some ⟨c, 0, none⟩)] V (fun e w5 => ∃ ao cu, e = .returned (.slice ao 0 cu) ∧ V.grownBy w5 none) := fun V hV => (lunder (hs4.two.b.nn hV) (by rw [unhide HEU]; decide)).mono (fun e w5 q => by obtain ⟨ao, cu, q1, -, -, q4⟩ := q; rw [unhide HEU] at q1; exact ⟨ao, cu, q1, q4⟩)
      have HC14 := hide hc14
      have HC16 := hide hc16
      have HC9 := hide hc9
      have HCU := hide hcu
      have HG4 := hide hs4.two.a.gb
      obtain ⟨S, hS⟩ : ∃ S, S = str x := ⟨_, rfl⟩
      rw [← hS] at HC14 HC16 HC9
      clear hs3 g4 hs4 hb14 hb14b hb16 hc14 hc16 hc9 hcu hxl hS
      refine region_named fun O hO => ?_
      refine wpList_val (by rw [hO]; kernel_rfl) (.int .i64 0) (fun K9 hK9 => by go_simp; exact hK9) ?_
      (try simp only [Act.put, pq1, pq2, pq3])
      refine wpList_val (by rw [hO]; kernel_rfl) (.bool true) (fun K9 hK9 => by go_simp; exact hK9) ?_
      (try simp only [Act.put, pq1, pq2, pq3])
      refine wpList_val (by rw [hO]; kernel_rfl) (.bool true) (fun K9 hK9 => by go_simp; exact hK9) ?_
      (try simp only [Act.put, pq1, pq2, pq3])
      refine wpList_val (by rw [hO]; kernel_rfl) (.int .i64 0) (fun K9 hK9 => by go_simp; exact hK9) ?_
      (try simp only [Act.put, pq1, pq2, pq3])
      refine wpList_val (by rw [hO]; kernel_rfl) (.bool true) (fun K9 hK9 => by go_simp; exact hK9) ?_
      (try simp only [Act.put, pq1, pq2, pq3])
      refine wpList_val (by rw [hO]; kernel_rfl) (.bool true) (fun K9 hK9 => by go_simp; exact hK9) ?_
      (try simp only [Act.put, pq1, pq2, pq3])
      refine wpList_val (by rw [hO]; kernel_rfl) (.bool true) (fun K9 hK9 => by go_simp; exact hK9) ?_
      (try simp only [Act.put, pq1, pq2, pq3])
      refine wpList_val (by rw [hO]; kernel_rfl) (.slice a14 256 c14) (fun K9 hK9 => by go_simp; exact hK9) ?_
      (try simp only [Act.put, pq1, pq2, pq3])
      refine wpList_val (by rw [hO]; kernel_rfl) (.string S) (fun K9 hK9 => by (have hv1 := unhide HC14 w4 (gb_refl _ _); go_simp); exact hK9) ?_
      (try simp only [Act.put, pq1, pq2, pq3])
      refine wpList_val (by rw [hO]; kernel_rfl) (.slice a9 256 c9) (fun K9 hK9 => by go_simp; exact hK9) ?_
      (try simp only [Act.put, pq1, pq2, pq3])
      refine wpList_val (by rw [hO]; kernel_rfl) (.string S) (fun K9 hK9 => by (have hv1 := unhide HC9 w4 (gb_refl _ _); go_simp); exact hK9) ?_
      (try simp only [Act.put, pq1, pq2, pq3])
      refine wpList_val (by rw [hO]; kernel_rfl) (.bool true) (fun K9 hK9 => by go_simp; exact hK9) ?_
      (try simp only [Act.put, pq1, pq2, pq3])
      refine wpList_val (by rw [hO]; kernel_rfl) (.bool true) (fun K9 hK9 => by go_simp; exact hK9) ?_
      (try simp only [Act.put, pq1, pq2, pq3])
      refine wpList_val (by rw [hO]; kernel_rfl) (.bool true) (fun K9 hK9 => by go_simp; exact hK9) ?_
      (try simp only [Act.put, pq1, pq2, pq3])
      refine wpList_val (by rw [hO]; kernel_rfl) (.slice a16 256 c16) (fun K9 hK9 => by go_simp; exact hK9) ?_
      (try simp only [Act.put, pq1, pq2, pq3])
      refine wpList_val (by rw [hO]; kernel_rfl) (.string S) (fun K9 hK9 => by (have hv1 := unhide HC16 w4 (gb_refl _ _); go_simp); exact hK9) ?_
      (try simp only [Act.put, pq1, pq2, pq3])
      refine wpList_val (by rw [hO]; kernel_rfl) (.slice a9 256 c9) (fun K9 hK9 => by go_simp; exact hK9) ?_
      (try simp only [Act.put, pq1, pq2, pq3])
      refine wpList_val (by rw [hO]; kernel_rfl) (.string S) (fun K9 hK9 => by (have hv1 := unhide HC9 w4 (gb_refl _ _); go_simp); exact hK9) ?_
      (try simp only [Act.put, pq1, pq2, pq3])
      refine wpList_val (by rw [hO]; kernel_rfl) (.bool true) (fun K9 hK9 => by go_simp; exact hK9) ?_
      (try simp only [Act.put, pq1, pq2, pq3])
      refine wpList_val (by rw [hO]; kernel_rfl) (.bool true) (fun K9 hK9 => by go_simp; exact hK9) ?_
      (try simp only [Act.put, pq1, pq2, pq3])
      refine wpList_val (by rw [hO]; kernel_rfl) (.bool true) (fun K9 hK9 => by go_simp; exact hK9) ?_
      (try simp only [Act.put, pq1, pq2, pq3])
      refine wpList_val (by rw [hO]; kernel_rfl) (.pointer (some ⟨c, 0, none⟩)) (fun K9 hK9 => by go_simp; exact hK9) ?_
      (try simp only [Act.put, pq1, pq2, pq3])
      refine wpList_want (by rw [hO]; kernel_rfl) fun K9 hK9 => ?_
      go_simp
      go_at_call 20
      refine (unhide HCU _ (gb_refl _ _)).mono ?_
      rintro e w5 ⟨au, cu, rfl, g5⟩
      refine hK9 _ _ ?_
      clear hK9 K9
      (try simp only [Act.put, pq1, pq2, pq3])
      refine wpList_val (by rw [hO]; kernel_rfl) (.int .i64 (0 : Int)) (fun K9 hK9 => by go_simp; exact hK9) ?_
      (try simp only [Act.put, pq1, pq2, pq3])
      refine wpList_val (by rw [hO]; kernel_rfl) (.bool true) (fun K9 hK9 => by go_simp; exact hK9) ?_
      (try simp only [Act.put, pq1, pq2, pq3])
      refine wpList_val (by rw [hO]; kernel_rfl) (.bool true) (fun K9 hK9 => by go_simp; exact hK9) ?_
      (try simp only [Act.put, pq1, pq2, pq3])
      refine wpList_val (by rw [hO]; kernel_rfl) (.bool true) (fun K9 hK9 => by go_simp; exact hK9) ?_
      (try simp only [Act.put, pq1, pq2, pq3])
      refine wpList_want (by rw [hO]; kernel_rfl) fun K9 hK9 => ?_
      go_simp
      go_at_call 24
      refine (dkone_any _).mono ?_
      rintro e w6 ⟨rfl, g6⟩
      refine hK9 _ _ ?_
      clear hK9 K9
      (try simp only [Act.put, pq1, pq2, pq3])
      refine wpList_val (by rw [hO]; kernel_rfl) (.bool true) (fun K9 hK9 => by go_simp; exact hK9) ?_
      (try simp only [Act.put, pq1, pq2, pq3])
      refine wpList_val (by rw [hO]; kernel_rfl) (.bool true) (fun K9 hK9 => by go_simp; exact hK9) ?_
      (try simp only [Act.put, pq1, pq2, pq3])
      clear HC14 HC16 HC9 HCU
      go_wp2
      go_ret
      exact ⟨rfl, tn (unhide HG4) (tn g5 g6)⟩

end Go.Proofs.Ytfaipdifkmjdeaa
