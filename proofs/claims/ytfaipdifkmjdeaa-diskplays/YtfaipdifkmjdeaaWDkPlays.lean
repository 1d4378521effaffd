/- DiskPlays: the walk. -/
import Derived.Test.YtfaipdifkmjdeaaDkPs
import Derived.Test.YtfaipdifkmjdeaaDkAct
namespace Go.Proofs.Ytfaipdifkmjdeaa
open Go.RowKit

set_option maxRecDepth 100000 in
set_option maxHeartbeats 64000000 in
theorem walk_dplays (w : World) (n : Int) (lo : Option Addr) (lc : Nat) (L : List ActD) (hL0 : ActsD w lo lc L) :
    Calls Try.prog 3 #[.int .i64 n, .slice lo L.length lc] w fun e w' => e = .returned (.bool true) ∧ w.grownBy w' none := by
  obtain ⟨n2, hn2⟩ : ∃ n, n = L.length := ⟨_, rfl⟩
  rw [← hn2]
  have HL0 := hide hL0
  have HN2 := hide hn2
  clear hL0 hn2
  go_enter Try.func3, Try.ntmps3
  go_upto_region 1 with fail
  rename_i J hJ K hK
  go_cut [26] (fun x wx => x = .bool (decide (40 < n)) ∧ wx = w)
  case first =>
    go_wp2
    go_meet
    case rel => exact ⟨rfl, rfl⟩
  case rest =>
    obtain ⟨rfl, hwc⟩ := hcut
    rw [hwc]
    clear hwc
    refine hK _ _ ?_
    clear hK K
    go_cut [0] (fun x wx => ∃ N : Int, x = .int .i64 N ∧ wx = w)
    case first =>
      by_cases h40 : 40 < n
      · go_wp2
        go_meet
        case rel => exact ⟨_, rfl, rfl⟩
      · go_wp2
        go_meet
        case rel => exact ⟨n, rfl, rfl⟩
    case rest =>
      obtain ⟨N, rfl, hwc⟩ := hcut
      rw [hwc]
      clear hwc
      refine hJ _ _ ?_
      clear hJ J
      by_cases hr : 1 ≤ N ∧ N ≤ 2048
      case neg =>
        as_aux_lemma =>
          have cn := dnew_no w N (by omega)
          have cr := rnew_no w N (by omega)
          have hzv := zero_rd
          clear hr
          go_upto_region 5 with (first
            | (go_at_call 8; refine cn.mono ?_; rintro e w1 ⟨rfl, e1⟩; subst w1; clear cn)
            | (go_at_call 9; refine cr.mono ?_; rintro e w2 ⟨rfl, g2⟩; clear cr; obtain ⟨W3, hW3, hB3, g3⟩ := row_new w2 30 #[.slice none 0 0, .slice none 0 0, .int .i64 0, .bool false] [.slice none 0 0, .slice none 0 0, .int .i64 0, .bool false]; have HBN := hide (Blk.new w2 30 [.slice none 0 0, .slice none 0 0, .int .i64 0, .bool false]); have HW3 := hide hW3; have HG3 := hide (tn g2 g3); clear hW3 hB3 g3 g2)
            | (have hB9 := unhide HBN; refine wpList_store_row rfl 30 _ _ rfl w2.heap.size _ rfl rfl _ _ hB9 info_rd rfl (rd4_one _ _ _ _ _ _ _ _) ?_; clear hB9; rw [← unhide HW3]))
          have co := dkone_any W3
          clear HBN
          go_wp2
          go_loopw [9] (fun i wr => i = .int .i64 0 ∧ wr = W3) (fun _ _ => 0)
          case atStart => exact ⟨rfl, rfl⟩
          case round =>
            obtain ⟨rfl, hwr⟩ := hrel
            rw [hwr]
            clear hwr
            go_wp2_with (go_at_call 24; refine co.mono ?_; rintro e w5 ⟨rfl, g5⟩; have HG5 := hide (tn (unhide HG3) g5); clear co g5)
            go_ret
            exact ⟨rfl, unhide HG5⟩
      case pos =>
        obtain ⟨m, rfl⟩ : ∃ m : Nat, N = (m : Int) := ⟨N.toNat, by omega⟩
        have hm1 : 1 ≤ m := by omega
        have hm2 : m ≤ 2048 := by omega
        have cn := lnew (gb_refl w none) m hm1 hm2
        have cr := fun V => rnew_ok V m hm1 hm2
        have HCR := hide cr
        have hzv := zero_rd
        clear hr cr hm1 hm2
        go_upto_region 5 with (first
          | (go_at_call 8; refine cn.mono ?_; rintro e w1 ⟨d, F1, rfl, h1, hF1, g1⟩; clear cn; have HD1 := hide h1; clear h1 hF1 g1)
          | (go_at_call 9; refine (unhide HCR w1).mono ?_; rintro e w2 ⟨v2, rfl, ⟨so, sc, uo, uc, rfl, hr2, hs2, hu2⟩, g2⟩; clear HCR; obtain ⟨RC, hRC⟩ : ∃ RC, RC = rdC so sc uo uc (newD m) := ⟨_, rfl⟩; rw [← hRC]; have hRl : RC.length = 4 := (by rw [hRC]; rfl); have hRo : RC.toArray.all (·.oneCell') = true := (by rw [hRC]; exact rdC_one _ _ _ _ _); obtain ⟨W3, hW3, hB3, g3⟩ := row_new w2 30 #[.slice none 0 0, .slice none 0 0, .int .i64 0, .bool false] RC; have HBN := hide (Blk.new w2 30 [.slice none 0 0, .slice none 0 0, .int .i64 0, .bool false]); have HW3 := hide hW3; have HR2 := hide (And.intro hr2 (And.intro hs2 hu2)); have HG2 := hide g2; have HG3 := hide g3; have HB3 := hide hB3; have HRC := hide hRC; have HRO := hide hRo; have HRL := hide (show (Try.prog.info? 30).map (·.size) = some RC.toArray.size by rw [List.size_toArray, hRl]; exact info_rd); have HR4 := hide (show ([.slice none 0 0, .slice none 0 0, .int .i64 0, .bool false] : List Value).toArray.size = RC.toArray.size by rw [List.size_toArray, List.size_toArray, hRl]; rfl); clear hW3 hB3 g3 g2 hr2 hs2 hu2 hRC hRl hRo)
          | (have hB9 := unhide HBN; refine wpList_store_row rfl 30 _ _ rfl w2.heap.size RC.toArray rfl rfl _ _ hB9 (unhide HRL) (unhide HR4) (unhide HRO) ?_; clear hB9; rw [← unhide HW3]))
        obtain ⟨q, hq⟩ : ∃ q, q = w2.heap.size := ⟨_, rfl⟩
        rw [← hq]
        have hP : Pst w W3 F1 d (newD m) so sc uo uc (newD m) q := by
          have h1 := unhide HD1
          have g2 := unhide HG2
          have g3 := unhide HG3
          have hr := unhide HR2
          have hsz : w2.heap.size < W3.heap.size := (unhide HB3).lt
          refine ⟨h1.nn (tn g2 g3), hr.1.kept g3, by rw [hq, ← unhide HRC]; exact unhide HB3, ⟨fun hm => by have := (h1.lo _ hm).2; have := g2.size; omega, by have := h1.gb.size; have := g2.size; omega⟩, fun ad e => ?_, fun ad e => ?_⟩
          · rcases hr.2.1 ad e with h4 | h4
            · cases h4
            · exact ⟨fun hm => by have := (h1.lo _ hm).2; omega, by omega, by omega⟩
          · rcases hr.2.2 ad e with h4 | h4
            · cases h4
            · exact ⟨fun hm => by have := (h1.lo _ hm).2; omega, by omega, by omega⟩
        have HST := hide (show Pst w W3 F1 d (newD m) so sc uo uc (newD m) q ∧ Alk (newD m) (newD m) ∧ (newD m).U.length ≤ 0 ∧ Lb (newD m) from ⟨hP, Alk.refl _, Nat.le_refl _, by show (-1 : Int) ≤ -1; decide, by show (-1 : Int) < _; decide⟩)
        clear HBN HW3 HR2 HG2 HG3 HB3 HRC HRO HRL HR4 HD1 hP hq
        go_wp2
        go_loopw [9] (fun i wr => ∃ (k : Nat) (D R : Dsk) (F : List Nat) (so : Option Addr) (sc : Nat) (uo : Option Addr) (uc : Nat), i = .int .i64 k ∧ k ≤ n2 ∧ k ≤ 60 ∧ Hid (Pst w wr F d D so sc uo uc R q ∧ Alk D R ∧ D.U.length ≤ k ∧ Lb R)) (fun i _ => n2 - (intOf i).toNat)
        case atStart => exact ⟨0, newD m, newD m, F1, so, sc, uo, uc, rfl, Nat.zero_le _, Nat.zero_le _, HST⟩
        case round =>
          clear HST
          obtain ⟨k, D, R, F, so, sc, uo, uc, rfl, hk, hk6, HR⟩ := hrel
          by_cases hlt : k < n2
          · have hdk : (k : Int) < (n2 : Int) := by omega
            have hdk2 : decide ((k : Int) < (n2 : Int)) = true := decide_eq_true hdk
            by_cases h60 : k < 60
            · skip
              have hlt' : k < L.length := by have := unhide HN2; omega
              obtain ⟨b, o, hlo, hrow, hact⟩ := ((unhide HL0).kept (unhide HR).1.dk.gb).at k hlt'
              obtain ⟨p, hp⟩ : ∃ p, p = L[k] := ⟨_, rfl⟩
              have ha0 := (unhide HL0).ats _ (List.getElem_mem hlt')
              rw [← hp] at hrow hact ha0
              have HA0 := hide ha0
              clear ha0
              obtain ⟨Z, hZ, hzv2⟩ := zero_act
              obtain ⟨EB, hEB⟩ : ∃ EB, EB = acC p := ⟨_, rfl⟩
              obtain ⟨W1, hW1, hB1, g1⟩ := row_new wr 36 Z EB
              have hBZ : Blk (wr.alloc (.cells Z 36)) wr.heap.size 36 Z.toList := by simpa using Blk.new wr 36 Z.toList
              have hiE : (Try.prog.info? 36).map (·.size) = some EB.length := by rw [hEB]; exact info_act
              have hiE2 : (Try.prog.info? 36).map (·.size) = some EB.toArray.size := by rw [hEB]; exact info_act
              have hZE : Z.toList.toArray.size = EB.toArray.size := by rw [hEB]; simp [hZ, acC]
              have hEo : EB.toArray.all (·.oneCell') = true := by rw [hEB]; exact all_oneCell_toArray (acC_one p)
              obtain ⟨pb, hpb⟩ : ∃ q, q = wr.heap.size := ⟨_, rfl⟩
              rw [← hpb] at hB1
              have hx0 : W1.cell? ⟨pb, 0, none⟩ = some (.int .i64 p.kind) := by rw [hB1.cell, hEB]; rfl
              have hx1 : W1.cell? ⟨pb, 1, none⟩ = some (.int .i64 p.n) := by rw [hB1.cell, hEB]; rfl
              have hx2 : W1.cell? ⟨pb, 2, none⟩ = some (.slice p.bo p.be.length p.bc) := by rw [hB1.cell, hEB]; rfl
              have hx3 : W1.cell? ⟨pb, 3, none⟩ = some (.slice p.fo p.fl.length p.fc) := by rw [hB1.cell, hEB]; rfl
              have hP1 := (unhide HR).1.nn g1
              have hA1 := hact.kept g1
              have hB1b : Blk W1 pb 36 (acC p) := by rw [← hEB]; exact hB1
              have hpF : pb ∉ F := fun hm => by have := ((unhide HR).1.dk.lo _ hm).2; omega
              have hpq : pb ≠ q := by have := (unhide HR).1.box.lt; omega
              rw [← hEB] at hrow
              have HW1 := hide hW1
              have HBZ := hide hBZ
              have HIE := hide hiE
              have HIE2 := hide hiE2
              have HZE := hide hZE
              have HEO := hide hEo
              have HP1 := hide hP1
              have HA1 := hide hA1
              have HAB := hide (And.intro hB1b (And.intro hpF hpq))
              have HQ := hide hpb
              have HRR := hide (unhide HR).2
              have hkw : IntKind.i64.wrap ((k : Int) + 1) = (k : Int) + 1 := by rw [IntKind.wrap_i64]; omega
              obtain ⟨nb, hnb⟩ : ∃ n, n = p.be.length := ⟨_, rfl⟩
              obtain ⟨nf, hnf⟩ : ∃ n, n = p.fl.length := ⟨_, rfl⟩
              rw [← hnb] at hx2
              rw [← hnf] at hx3
              have HNB := hide hnb
              have HNF := hide hnf
              clear hp hEB hW1 hB1 g1 hBZ hiE hiE2 hZE hEo hpb hP1 hA1 hact hZ HR hlt' hB1b hpF hpq hnb hnf hdk2
              subst hlo
              go_upto_region 12 with (first
                | (refine wpList_load_mid rfl 36 _ rfl b (o + k * 4) rfl EB _ hrow Try.underlying36 rfl (unhide HIE) ?_; clear hrow)
                | (have hB9 := unhide HBZ; refine wpList_store_row rfl 36 _ _ rfl wr.heap.size EB.toArray rfl rfl _ _ hB9 (unhide HIE2) (unhide HZE) (unhide HEO) ?_; clear hB9; rw [← unhide HW1, ← unhide HQ]))
              clear HBZ HIE HIE2 HZE HEO HW1
              rename_i J hJ K hK
              go_cut [65] (fun x wx => x = .bool (decide ((300 : Int) < (nb : Int))) ∧ wx = W1)
              case first =>
                clear hJ hK
                --@F<
                go_wp2
                go_meet
                case rel => exact ⟨rfl, rfl⟩
                --@F>
              case rest =>
                obtain ⟨rfl, hwc⟩ := hcut
                rw [hwc]
                clear hwc
                refine hK _ _ ?_
                clear hK K
                go_cut [11] (fun x wx => ∃ bb : List UInt8, x = .slice p.bo bb.length p.bc ∧ Bts W1 p.bo p.bc bb ∧ bb.length ≤ 300 ∧ wx = W1)
                case first =>
                  clear hJ
                  --@F<
                  by_cases h3 : 300 < nb
                  · have h3i : (300 : Int) < (nb : Int) := by omega
                    have hsl : ∀ V, (Instr.slice 33 (.slice p.bo nb p.bc) none (some (.int .i64 300)) none).run Try.prog V = .ok (.slice p.bo 300 p.bc) V := fun V => slice_to V 33 5 Try.underlying33 size_byte p.bo nb p.bc 300 (by have := (unhide HA1).b.fits; have := unhide HNB; omega)
                    have hbt := (unhide HA1).b.take 300 (by have := unhide HNB; omega)
                    have hln : (p.be.take 300).length = 300 := by rw [List.length_take]; have := unhide HNB; omega
                    have HBT := hide (And.intro hbt hln)
                    clear hbt hln
                    go_wp2
                    go_meet
                    case rel => exact ⟨p.be.take 300, by rw [(unhide HBT).2], (unhide HBT).1, by rw [(unhide HBT).2]; exact Nat.le_refl _, rfl⟩
                  · have h3i : ¬ (300 : Int) < (nb : Int) := by omega
                    go_wp2
                    go_meet
                    case rel => exact ⟨p.be, by rw [← unhide HNB], (unhide HA1).b, by rw [← unhide HNB]; omega, rfl⟩
                  --@F>
                case rest =>
                  obtain ⟨bb, rfl, hbb, hbl, hwc⟩ := hcut
                  rw [hwc]
                  clear hwc
                  refine hJ _ _ ?_
                  clear hJ J
                  obtain ⟨nbb, hnbb⟩ : ∃ n, n = bb.length := ⟨_, rfl⟩
                  rw [← hnbb]
                  have HBB := hide (And.intro hbb (And.intro hbl hnbb))
                  clear hbb hbl hnbb hx2
                  go_upto_block 2 with fail
                  obtain ⟨RC, hRC⟩ : ∃ RC, RC = rdC so sc uo uc R := ⟨_, rfl⟩
                  have HRC := hide hRC
                  clear hRC
                  rename_i J hJ
                  go_cut [] (fun wx => ∃ (D' R' : Dsk) (F' : List Nat) (so' : Option Addr) (sc' : Nat) (uo' : Option Addr) (uc' : Nat), Pst w wx F' d D' so' sc' uo' uc' R' q ∧ Alk D' R' ∧ D'.U.length ≤ k + 1 ∧ Lb R' ∧ Blk wx pb 36 (acC p))
                  case first =>
                    clear hJ
                    as_aux_lemma =>
                      by_cases k0 : p.kind = 0
                      · as_aux_lemma =>
                          have e0 : (p.kind == 0) = true := beq_iff_eq.2 (by omega)
                          have d0 : decide (p.kind = 0) = true := decide_eq_true (by omega)
                          have e1 : (p.kind == 1) = false := beq_eq_false_iff_ne.2 (by omega)
                          have d1 : decide (p.kind = 1) = false := decide_eq_false (by omega)
                          have e2 : (p.kind == 2) = false := beq_eq_false_iff_ne.2 (by omega)
                          have d2 : decide (p.kind = 2) = false := decide_eq_false (by omega)
                          have e3 : (p.kind == 3) = false := beq_eq_false_iff_ne.2 (by omega)
                          have d3 : decide (p.kind = 3) = false := decide_eq_false (by omega)
                          have hP1 := unhide HP1
                          have hrr := unhide HRR
                          have hab := unhide HAB
                          have hRl : RC.length = 4 := by rw [unhide HRC]; rfl
                          have hRo : RC.toArray.all (·.oneCell') = true := by rw [unhide HRC]; exact rdC_one _ _ _ _ _
                          have hir : (Try.prog.info? 30).map (·.size) = some RC.length := by rw [hRl]; exact info_rd
                          have hra : W1.rangeAt q 0 RC := by rw [unhide HRC]; exact blk_all hP1.box
                          have hUb : D.U.length ≤ 1000000 := by have := hrr.2.1; omega
                          have hRU : R.U.length ≤ 1000000 := by rw [hrr.1.U]; exact hUb
                          have hSb : R.safe.length ≤ 1000000 := by rw [hrr.1.safe]; have := hP1.dk.at_.ok.most; omega
                          have hLb : -9223372036854775808 ≤ R.left := by have := hrr.2.2.1; omega
                          have hrok : R.Ok := hrr.1.ok hP1.dk.at_.ok hrr.2.2.2
                          have hbb := unhide HBB
                          have hcv := conv_len hbb.1 hbb.2.2
                          obtain ⟨TT, hTT⟩ : ∃ T, T = str bb := ⟨_, rfl⟩
                          rw [← hTT] at hcv
                          have hw := hrr.1.write p.n bb
                          obtain ⟨y, hy⟩ : ∃ y, y = (wrD D p.n bb).2 := ⟨_, rfl⟩
                          obtain ⟨R2, hR2⟩ : ∃ R2, R2 = (rwr R p.n bb).1 := ⟨_, rfl⟩
                          have cw := rwrite_any W1 so sc uo uc R hP1.rd p.n bb hRU hSb (by have := hbb.2.1; omega) hLb hrr.2.2.2
                          rw [hw.2, ← hy, ← hTT, ← hR2, ← unhide HRC] at cw
                          have HCW := hide cw
                          have HW := hide hw
                          have HY := hide hy
                          have HRR2 := hide hR2
                          have HRO := hide hRo
                          have HIR := hide hir
                          have HRA := hide hra
                          have HRL := hide hRl
                          clear k0 hP1 hrr hab hRl hRo hir hra hRU hSb hLb hrok hbb hTT hw hy hR2 cw HL0
                          go_wp2_with (first
                            | (refine wpList_load_mid rfl 30 _ rfl q 0 rfl RC _ (unhide HRA) Try.underlying30 rfl (unhide HIR) ?_; clear HRA)
                            | (go_at_call 10; refine (unhide HCW).mono ?_; clear HCW; rintro e w2 ⟨v2, rfl, ⟨so2, sc2, uo2, uc2, rfl, hr2, hs2, hu2⟩, g2⟩; obtain ⟨RC2, hRC2⟩ : ∃ RC2, RC2 = rdC so2 sc2 uo2 uc2 R2 := ⟨_, rfl⟩; rw [← hRC2]; have hRl2 : RC2.length = 4 := (by rw [hRC2]; rfl); have hRo2 : RC2.toArray.all (·.oneCell') = true := (by rw [hRC2]; exact rdC_one _ _ _ _ _); obtain ⟨W3, hW3, hB3, g3⟩ := row_new w2 30 #[.slice none 0 0, .slice none 0 0, .int .i64 0, .bool false] RC2; have HBN := hide (Blk.new w2 30 [.slice none 0 0, .slice none 0 0, .int .i64 0, .bool false]); have HW3 := hide hW3; have HR2 := hide (And.intro (hr2.kept g3) (And.intro hs2 hu2)); have HG2 := hide g2; have HG3 := hide g3; have HB3 := hide hB3; have HRC2 := hide hRC2; have HRO2 := hide hRo2; have HRL2 := hide (show (Try.prog.info? 30).map (·.size) = some RC2.toArray.size by rw [List.size_toArray, hRl2]; exact info_rd); have HIR2 := hide (show (Try.prog.info? 30).map (·.size) = some RC2.length by rw [hRl2]; exact info_rd); have HR4 := hide (show ([.slice none 0 0, .slice none 0 0, .int .i64 0, .bool false] : List Value).toArray.size = RC2.toArray.size by rw [List.size_toArray, List.size_toArray, hRl2]; rfl); have HR5 := hide (show RC.toArray.size = RC2.toArray.size by rw [List.size_toArray, List.size_toArray, hRl2]; exact unhide HRL); have x31 : W3.cell? ⟨pb, 1, none⟩ = some (.int .i64 p.n) := (by rw [(((unhide HAB).1.kept g2 (by simp)).kept g3 (by simp)).cell]; rfl); have hcp := lwrite ((unhide HP1).dk.nn (tn g2 g3)) p.n p.bo p.bc bb ((unhide HBB).1.kept (tn g2 g3) (fun _ e => by cases e)) hUb; rw [← unhide HY, ← (unhide HBB).2.2] at hcp; have HCP := hide hcp; clear hcp; clear hW3 hB3 g3 g2 hr2 hs2 hu2 hRC2 hRl2 hRo2)
                            | (have hB9 := unhide HBN; refine wpList_store_row rfl 30 _ _ rfl w2.heap.size RC2.toArray rfl rfl _ _ hB9 (unhide HRL2) (unhide HR4) (unhide HRO2) ?_; clear hB9 HBN; rw [← unhide HW3])
                            | (go_at_call 11; refine (unhide HCP).mono ?_; clear HCP; rintro e w4 ⟨rfl, hlf⟩; obtain ⟨F4, hP4, hf4, hb4, hn4⟩ := (unhide HP1).two (tn (unhide HG2) (unhide HG3)) (fun ad e => ((unhide HR2).2.1 ad e).imp id fun h => ⟨h.1, Nat.lt_of_lt_of_le h.2 (unhide HG3).size⟩) (fun ad e => ((unhide HR2).2.2 ad e).imp id fun h => ⟨h.1, Nat.lt_of_lt_of_le h.2 (unhide HG3).size⟩) (unhide HR2).1 hlf; have hpb4 := (hf4.blk (((unhide HAB).1.kept (unhide HG2) (by simp)).kept (unhide HG3) (by simp)) (unhide HAB).2.1).row_other q RC2.toArray (fun e => (unhide HAB).2.2 e.symm); have htb := hf4.blk (unhide HB3) (fun hm => by have := ((unhide HP1).dk.lo _ hm).2; have := (unhide HG2).size; omega); have HTB := hide (blk_all htb); have HPB := hide hpb4; rw [← unhide HRC] at hb4; rw [← unhide HRC2] at hP4; have HB4 := hide hb4; have HP4 := hide hP4; clear hlf hf4 hb4 hn4 hP4 hpb4 htb)
                            | (refine wpList_load_mid rfl 30 _ rfl w2.heap.size 0 rfl RC2 _ (unhide HTB) Try.underlying30 rfl (unhide HIR2) ?_; clear HTB)
                            | (have hB9 := unhide HB4; refine wpList_store_row rfl 30 _ _ rfl q RC2.toArray rfl rfl _ _ hB9 (unhide HRL2) (unhide HR5) (unhide HRO2) ?_; clear hB9 HB4))
                          go_meet
                          case rel => exact ⟨_, R2, F4, so2, sc2, uo2, uc2, unhide HP4, by rw [unhide HRR2]; exact (unhide HW).1, Nat.le_trans (wr_u _ _ _) (Nat.succ_le_succ (unhide HRR).2.1), by rw [unhide HRR2]; exact (unhide HRR).2.2.write _ _, unhide HPB⟩
                      · by_cases k1 : p.kind = 1
                        · as_aux_lemma =>
                            have e0 : (p.kind == 0) = false := beq_eq_false_iff_ne.2 (by omega)
                            have d0 : decide (p.kind = 0) = false := decide_eq_false (by omega)
                            have e1 : (p.kind == 1) = true := beq_iff_eq.2 (by omega)
                            have d1 : decide (p.kind = 1) = true := decide_eq_true (by omega)
                            have e2 : (p.kind == 2) = false := beq_eq_false_iff_ne.2 (by omega)
                            have d2 : decide (p.kind = 2) = false := decide_eq_false (by omega)
                            have e3 : (p.kind == 3) = false := beq_eq_false_iff_ne.2 (by omega)
                            have d3 : decide (p.kind = 3) = false := decide_eq_false (by omega)
                            have hP1 := unhide HP1
                            have hrr := unhide HRR
                            have hab := unhide HAB
                            have hRl : RC.length = 4 := by rw [unhide HRC]; rfl
                            have hRo : RC.toArray.all (·.oneCell') = true := by rw [unhide HRC]; exact rdC_one _ _ _ _ _
                            have hir : (Try.prog.info? 30).map (·.size) = some RC.length := by rw [hRl]; exact info_rd
                            have hra : W1.rangeAt q 0 RC := by rw [unhide HRC]; exact blk_all hP1.box
                            have hUb : D.U.length ≤ 1000000 := by have := hrr.2.1; omega
                            have hRU : R.U.length ≤ 1000000 := by rw [hrr.1.U]; exact hUb
                            have hSb : R.safe.length ≤ 1000000 := by rw [hrr.1.safe]; have := hP1.dk.at_.ok.most; omega
                            have hLb : -9223372036854775808 ≤ R.left := by have := hrr.2.2.1; omega
                            have hrok : R.Ok := hrr.1.ok hP1.dk.at_.ok hrr.2.2.2
                            have hw := hrr.1.sync
                            obtain ⟨y, hy⟩ : ∃ y, y = (syD D).2 := ⟨_, rfl⟩
                            obtain ⟨R2, hR2⟩ : ∃ R2, R2 = (rsy R).1 := ⟨_, rfl⟩
                            have cw := rsync_any W1 so sc uo uc R hP1.rd hrok hRU hLb
                            rw [hw.2, ← hy, ← hR2, ← unhide HRC] at cw
                            have HCW := hide cw
                            have HW := hide hw
                            have HY := hide hy
                            have HRR2 := hide hR2
                            have HRO := hide hRo
                            have HIR := hide hir
                            have HRA := hide hra
                            have HRL := hide hRl
                            clear k0 k1 hP1 hrr hab hRl hRo hir hra hRU hSb hLb hrok hw hy hR2 cw HL0
                            go_wp2_with (first
                              | (refine wpList_load_mid rfl 30 _ rfl q 0 rfl RC _ (unhide HRA) Try.underlying30 rfl (unhide HIR) ?_; clear HRA)
                              | (go_at_call 12; refine (unhide HCW).mono ?_; clear HCW; rintro e w2 ⟨v2, rfl, ⟨so2, sc2, uo2, uc2, rfl, hr2, hs2, hu2⟩, g2⟩; obtain ⟨RC2, hRC2⟩ : ∃ RC2, RC2 = rdC so2 sc2 uo2 uc2 R2 := ⟨_, rfl⟩; rw [← hRC2]; have hRl2 : RC2.length = 4 := (by rw [hRC2]; rfl); have hRo2 : RC2.toArray.all (·.oneCell') = true := (by rw [hRC2]; exact rdC_one _ _ _ _ _); obtain ⟨W3, hW3, hB3, g3⟩ := row_new w2 30 #[.slice none 0 0, .slice none 0 0, .int .i64 0, .bool false] RC2; have HBN := hide (Blk.new w2 30 [.slice none 0 0, .slice none 0 0, .int .i64 0, .bool false]); have HW3 := hide hW3; have HR2 := hide (And.intro (hr2.kept g3) (And.intro hs2 hu2)); have HG2 := hide g2; have HG3 := hide g3; have HB3 := hide hB3; have HRC2 := hide hRC2; have HRO2 := hide hRo2; have HRL2 := hide (show (Try.prog.info? 30).map (·.size) = some RC2.toArray.size by rw [List.size_toArray, hRl2]; exact info_rd); have HIR2 := hide (show (Try.prog.info? 30).map (·.size) = some RC2.length by rw [hRl2]; exact info_rd); have HR4 := hide (show ([.slice none 0 0, .slice none 0 0, .int .i64 0, .bool false] : List Value).toArray.size = RC2.toArray.size by rw [List.size_toArray, List.size_toArray, hRl2]; rfl); have HR5 := hide (show RC.toArray.size = RC2.toArray.size by rw [List.size_toArray, List.size_toArray, hRl2]; exact unhide HRL); have hcp := lsync ((unhide HP1).dk.nn (tn g2 g3)) hUb; rw [← unhide HY] at hcp; have HCP := hide hcp; clear hcp; clear hW3 hB3 g3 g2 hr2 hs2 hu2 hRC2 hRl2 hRo2)
                              | (have hB9 := unhide HBN; refine wpList_store_row rfl 30 _ _ rfl w2.heap.size RC2.toArray rfl rfl _ _ hB9 (unhide HRL2) (unhide HR4) (unhide HRO2) ?_; clear hB9 HBN; rw [← unhide HW3])
                              | (go_at_call 13; refine (unhide HCP).mono ?_; clear HCP; rintro e w4 ⟨rfl, hlf⟩; obtain ⟨F4, hP4, hf4, hb4, hn4⟩ := (unhide HP1).two (tn (unhide HG2) (unhide HG3)) (fun ad e => ((unhide HR2).2.1 ad e).imp id fun h => ⟨h.1, Nat.lt_of_lt_of_le h.2 (unhide HG3).size⟩) (fun ad e => ((unhide HR2).2.2 ad e).imp id fun h => ⟨h.1, Nat.lt_of_lt_of_le h.2 (unhide HG3).size⟩) (unhide HR2).1 hlf; have hpb4 := (hf4.blk (((unhide HAB).1.kept (unhide HG2) (by simp)).kept (unhide HG3) (by simp)) (unhide HAB).2.1).row_other q RC2.toArray (fun e => (unhide HAB).2.2 e.symm); have htb := hf4.blk (unhide HB3) (fun hm => by have := ((unhide HP1).dk.lo _ hm).2; have := (unhide HG2).size; omega); have HTB := hide (blk_all htb); have HPB := hide hpb4; rw [← unhide HRC] at hb4; rw [← unhide HRC2] at hP4; have HB4 := hide hb4; have HP4 := hide hP4; clear hlf hf4 hb4 hn4 hP4 hpb4 htb)
                              | (refine wpList_load_mid rfl 30 _ rfl w2.heap.size 0 rfl RC2 _ (unhide HTB) Try.underlying30 rfl (unhide HIR2) ?_; clear HTB)
                              | (have hB9 := unhide HB4; refine wpList_store_row rfl 30 _ _ rfl q RC2.toArray rfl rfl _ _ hB9 (unhide HRL2) (unhide HR5) (unhide HRO2) ?_; clear hB9 HB4))
                            go_meet
                            case rel => exact ⟨_, R2, F4, so2, sc2, uo2, uc2, unhide HP4, by rw [unhide HRR2]; exact (unhide HW).1, Nat.le_succ_of_le (Nat.le_trans (sy_u _) (unhide HRR).2.1), by rw [unhide HRR2]; exact (unhide HRR).2.2.sync, unhide HPB⟩
                        · by_cases k2 : p.kind = 2
                          · as_aux_lemma =>
                              have e0 : (p.kind == 0) = false := beq_eq_false_iff_ne.2 (by omega)
                              have d0 : decide (p.kind = 0) = false := decide_eq_false (by omega)
                              have e1 : (p.kind == 1) = false := beq_eq_false_iff_ne.2 (by omega)
                              have d1 : decide (p.kind = 1) = false := decide_eq_false (by omega)
                              have e2 : (p.kind == 2) = true := beq_iff_eq.2 (by omega)
                              have d2 : decide (p.kind = 2) = true := decide_eq_true (by omega)
                              have e3 : (p.kind == 3) = false := beq_eq_false_iff_ne.2 (by omega)
                              have d3 : decide (p.kind = 3) = false := decide_eq_false (by omega)
                              have hP1 := unhide HP1
                              have cw := larm hP1.dk p.n (unhide HA1).hi
                              obtain ⟨mx, hmx⟩ : ∃ m, m = max p.n (-1) := ⟨_, rfl⟩
                              have hmax : ∀ ts ty (V : World), (Builtin.max_ ts ty #[.int .i64 p.n, .int .i64 (-1)]).run Try.prog V = .ok (.int .i64 mx) V := fun ts ty V => by rw [run_max_int2]; congr 2; split <;> omega
                              have HCW := hide cw
                              have HMX := hide hmx
                              clear k0 k1 k2 hP1 cw hmx HL0
                              go_wp2_with (go_at_call 14; refine (unhide HCW).mono ?_; clear HCW; rintro e w4 ⟨rfl, hlf⟩; obtain ⟨F4, hP4, hf4, hn4⟩ := (unhide HP1).step hlf; have hpb4 := hf4.blk (unhide HAB).1 (unhide HAB).2.1; have x41 : w4.cell? ⟨pb, 1, none⟩ = some (.int .i64 p.n) := (by rw [hpb4.cell]; rfl); have c42 : w4.cell? ⟨q, 2, none⟩ = some (.int .i64 R.left) := (by rw [hP4.box.cell]; rfl); have f42 := hP4.box.fz 2; have HPB := hide (hpb4.other ⟨q, 2, none⟩ (.int .i64 mx) (fun e => (unhide HAB).2.2 e.symm)); have HP4 := hide (hP4.arm mx); clear hlf hP4 hf4 hn4 hpb4)
                              go_meet
                              case rel => exact ⟨_, _, F4, so, sc, uo, uc, unhide HP4, by rw [unhide HMX]; exact (unhide HRR).1.arm p.n, Nat.le_succ_of_le (unhide HRR).2.1, by rw [unhide HMX]; exact Lb.arm (unhide HA1).hi, unhide HPB⟩
                          · by_cases k3 : p.kind = 3
                            · by_cases hnf2 : 200 < nf
                              · as_aux_lemma =>
                                  have e0 : (p.kind == 0) = false := beq_eq_false_iff_ne.2 (by omega)
                                  have d0 : decide (p.kind = 0) = false := decide_eq_false (by omega)
                                  have e1 : (p.kind == 1) = false := beq_eq_false_iff_ne.2 (by omega)
                                  have d1 : decide (p.kind = 1) = false := decide_eq_false (by omega)
                                  have e2 : (p.kind == 2) = false := beq_eq_false_iff_ne.2 (by omega)
                                  have d2 : decide (p.kind = 2) = false := decide_eq_false (by omega)
                                  have e3 : (p.kind == 3) = true := beq_iff_eq.2 (by omega)
                                  have d3 : decide (p.kind = 3) = true := decide_eq_true (by omega)
                                  have hP1 := unhide HP1
                                  have hrr := unhide HRR
                                  have hab := unhide HAB
                                  have hRl : RC.length = 4 := by rw [unhide HRC]; rfl
                                  have hRo : RC.toArray.all (·.oneCell') = true := by rw [unhide HRC]; exact rdC_one _ _ _ _ _
                                  have hir : (Try.prog.info? 30).map (·.size) = some RC.length := by rw [hRl]; exact info_rd
                                  have hra : W1.rangeAt q 0 RC := by rw [unhide HRC]; exact blk_all hP1.box
                                  have hUb : D.U.length ≤ 1000000 := by have := hrr.2.1; omega
                                  have hRU : R.U.length ≤ 1000000 := by rw [hrr.1.U]; exact hUb
                                  have hSb : R.safe.length ≤ 1000000 := by rw [hrr.1.safe]; have := hP1.dk.at_.ok.most; omega
                                  have hLb : -9223372036854775808 ≤ R.left := by have := hrr.2.2.1; omega
                                  have hrok : R.Ok := hrr.1.ok hP1.dk.at_.ok hrr.2.2.2
                                  have hnfi : (200 : Int) < (nf : Int) := by omega
                                  have hsl : ∀ V, (Instr.slice 34 (.slice p.fo nf p.fc) none (some (.int .i64 200)) none).run Try.prog V = .ok (.slice p.fo 200 p.fc) V := fun V => slice_to V 34 3 Try.underlying34 (fun w => by kernel_rfl) p.fo nf p.fc 200 (by have := (unhide HA1).f.fits; have := unhide HNF; omega)
                                  obtain ⟨FL, hFL⟩ : ∃ FL, FL = p.fl.take 200 := ⟨_, rfl⟩
                                  have hFl : FL.length = 200 := by rw [hFL, List.length_take]; have := unhide HNF; omega
                                  have hft := nts_take (unhide HA1).f 200
                                  rw [← hFL] at hft
                                  have hfw := nts_take (unhide HA0).f 200
                                  rw [← hFL] at hfw
                                  have ht : FL.take 500 = FL := List.take_of_length_le (by omega)
                                  have cf := lfates_any W1 p.fo p.fc FL hft
                                  rw [ht, hFl] at cf
                                  have HCF := hide cf
                                  have HFL := hide hFl
                                  have HFW := hide hfw
                                  have HRK := hide hrok
                                  have HUB := hide (And.intro hUb hRU)
                                  have HRO := hide hRo
                                  have HIR := hide hir
                                  have HRA := hide hra
                                  have HRL := hide hRl
                                  clear k0 k1 k2 k3 hP1 hrr hab hRl hRo hir hra hRU hSb hLb hrok hFL hFl hft hfw ht cf hUb HL0 hnf2
                                  go_wp2_with (first
                                    | (go_at_call 16; refine (unhide HCF).mono ?_; clear HCF; rintro e w2 ⟨fo2, fc2, rfl, hf2, hn2, g2⟩; have hoff2 : ∀ ad, fo2 = some ad → ad.block ∉ F := (fun ad e hm => by have := hn2 ad e; have := ((unhide HP1).dk.lo _ hm).2; omega); have hcp := lfall ((unhide HP1).dk.nn g2) (unhide HUB).1 fo2 fc2 _ hf2 hoff2; rw [unhide HFL] at hcp; have HCP := hide hcp; have HG2 := hide g2; clear hf2 hn2 g2 hoff2 hcp)
                                    | (go_at_call 15; refine (unhide HCP).mono ?_; clear HCP; rintro e w4 ⟨rfl, hlf⟩; obtain ⟨F4, hP4, hf4, hn4⟩ := ((unhide HP1).nn (unhide HG2)).step hlf; have hcr := rfall_any w4 so sc uo uc R hP4.rd (unhide HRK) (unhide HUB).2 p.fo p.fc FL ((unhide HFW).kept hP4.dk.gb); rw [unhide HFL, ← unhide HRC] at hcr; have HCR := hide hcr; have hr4 : w4.rangeAt q 0 RC := (by rw [unhide HRC]; exact blk_all hP4.box); have HR4 := hide hr4; have HPB4 := hide (hf4.blk ((unhide HAB).1.kept (unhide HG2) (by simp)) (unhide HAB).2.1); have HP4 := hide hP4; clear hlf hP4 hf4 hn4 hcr hr4)
                                    | (refine wpList_load_mid rfl 30 _ rfl q 0 rfl RC _ (unhide HR4) Try.underlying30 rfl (unhide HIR) ?_; clear HR4)
                                    | (go_at_call 17; refine (unhide HCR).mono ?_; clear HCR; rintro e w5 ⟨v5, rfl, ⟨so2, sc2, uo2, uc2, rfl, hr2, hs2, hu2⟩, g5⟩; obtain ⟨RC2, hRC2⟩ : ∃ RC2, RC2 = rdC so2 sc2 uo2 uc2 (faD R FL) := ⟨_, rfl⟩; rw [← hRC2]; have hRl2 : RC2.length = 4 := (by rw [hRC2]; rfl); have HRO2 := hide (show RC2.toArray.all (·.oneCell') = true by rw [hRC2]; exact rdC_one _ _ _ _ _); have HRL2 := hide (show (Try.prog.info? 30).map (·.size) = some RC2.toArray.size by rw [List.size_toArray, hRl2]; exact info_rd); have HR5 := hide (show RC.toArray.size = RC2.toArray.size by rw [List.size_toArray, List.size_toArray, hRl2]; exact unhide HRL); have hmd := (unhide HP4).made g5 hs2 hu2 hr2; have hP5 := ((unhide HP4).nn g5).store hmd.1 hmd.2.1 hmd.2.2; have hb5 := ((unhide HP4).nn g5).box; rw [← unhide HRC] at hb5; have HB5 := hide hb5; rw [← hRC2] at hP5; have HP5 := hide hP5; have HPB := hide (((unhide HPB4).kept g5 (by simp)).row_other q RC2.toArray (fun e => (unhide HAB).2.2 e.symm)); clear hr2 hs2 hu2 g5 hRC2 hRl2 hmd hP5 hb5)
                                    | (have hB9 := unhide HB5; refine wpList_store_row rfl 30 _ _ rfl q RC2.toArray rfl rfl _ _ hB9 (unhide HRL2) (unhide HR5) (unhide HRO2) ?_; clear hB9 HB5))
                                  go_meet
                                  case rel => exact ⟨_, _, F4, so2, sc2, uo2, uc2, unhide HP5, (unhide HRR).1.fall FL, by rw [fa_u]; exact Nat.zero_le _, Lb.fall R FL, unhide HPB⟩
                              · as_aux_lemma =>
                                  have e0 : (p.kind == 0) = false := beq_eq_false_iff_ne.2 (by omega)
                                  have d0 : decide (p.kind = 0) = false := decide_eq_false (by omega)
                                  have e1 : (p.kind == 1) = false := beq_eq_false_iff_ne.2 (by omega)
                                  have d1 : decide (p.kind = 1) = false := decide_eq_false (by omega)
                                  have e2 : (p.kind == 2) = false := beq_eq_false_iff_ne.2 (by omega)
                                  have d2 : decide (p.kind = 2) = false := decide_eq_false (by omega)
                                  have e3 : (p.kind == 3) = true := beq_iff_eq.2 (by omega)
                                  have d3 : decide (p.kind = 3) = true := decide_eq_true (by omega)
                                  have hP1 := unhide HP1
                                  have hrr := unhide HRR
                                  have hab := unhide HAB
                                  have hRl : RC.length = 4 := by rw [unhide HRC]; rfl
                                  have hRo : RC.toArray.all (·.oneCell') = true := by rw [unhide HRC]; exact rdC_one _ _ _ _ _
                                  have hir : (Try.prog.info? 30).map (·.size) = some RC.length := by rw [hRl]; exact info_rd
                                  have hra : W1.rangeAt q 0 RC := by rw [unhide HRC]; exact blk_all hP1.box
                                  have hUb : D.U.length ≤ 1000000 := by have := hrr.2.1; omega
                                  have hRU : R.U.length ≤ 1000000 := by rw [hrr.1.U]; exact hUb
                                  have hSb : R.safe.length ≤ 1000000 := by rw [hrr.1.safe]; have := hP1.dk.at_.ok.most; omega
                                  have hLb : -9223372036854775808 ≤ R.left := by have := hrr.2.2.1; omega
                                  have hrok : R.Ok := hrr.1.ok hP1.dk.at_.ok hrr.2.2.2
                                  have hnfi : ¬ (200 : Int) < (nf : Int) := by omega
                                  obtain ⟨FL, hFL⟩ : ∃ FL, FL = p.fl := ⟨_, rfl⟩
                                  have hFl : FL.length = nf := by rw [hFL]; exact (unhide HNF).symm
                                  have hft := (unhide HA1).f
                                  rw [← hFL] at hft
                                  have hfw := (unhide HA0).f
                                  rw [← hFL] at hfw
                                  have ht : FL.take 500 = FL := List.take_of_length_le (by omega)
                                  have cf := lfates_any W1 p.fo p.fc FL hft
                                  rw [ht, hFl] at cf
                                  have HCF := hide cf
                                  have HFL := hide hFl
                                  have HFW := hide hfw
                                  have HRK := hide hrok
                                  have HUB := hide (And.intro hUb hRU)
                                  have HRO := hide hRo
                                  have HIR := hide hir
                                  have HRA := hide hra
                                  have HRL := hide hRl
                                  clear k0 k1 k2 k3 hP1 hrr hab hRl hRo hir hra hRU hSb hLb hrok hFL hFl hft hfw ht cf hUb HL0 hnf2
                                  go_wp2_with (first
                                    | (go_at_call 16; refine (unhide HCF).mono ?_; clear HCF; rintro e w2 ⟨fo2, fc2, rfl, hf2, hn2, g2⟩; have hoff2 : ∀ ad, fo2 = some ad → ad.block ∉ F := (fun ad e hm => by have := hn2 ad e; have := ((unhide HP1).dk.lo _ hm).2; omega); have hcp := lfall ((unhide HP1).dk.nn g2) (unhide HUB).1 fo2 fc2 _ hf2 hoff2; rw [unhide HFL] at hcp; have HCP := hide hcp; have HG2 := hide g2; clear hf2 hn2 g2 hoff2 hcp)
                                    | (go_at_call 15; refine (unhide HCP).mono ?_; clear HCP; rintro e w4 ⟨rfl, hlf⟩; obtain ⟨F4, hP4, hf4, hn4⟩ := ((unhide HP1).nn (unhide HG2)).step hlf; have hcr := rfall_any w4 so sc uo uc R hP4.rd (unhide HRK) (unhide HUB).2 p.fo p.fc FL ((unhide HFW).kept hP4.dk.gb); rw [unhide HFL, ← unhide HRC] at hcr; have HCR := hide hcr; have hr4 : w4.rangeAt q 0 RC := (by rw [unhide HRC]; exact blk_all hP4.box); have HR4 := hide hr4; have HPB4 := hide (hf4.blk ((unhide HAB).1.kept (unhide HG2) (by simp)) (unhide HAB).2.1); have HP4 := hide hP4; clear hlf hP4 hf4 hn4 hcr hr4)
                                    | (refine wpList_load_mid rfl 30 _ rfl q 0 rfl RC _ (unhide HR4) Try.underlying30 rfl (unhide HIR) ?_; clear HR4)
                                    | (go_at_call 17; refine (unhide HCR).mono ?_; clear HCR; rintro e w5 ⟨v5, rfl, ⟨so2, sc2, uo2, uc2, rfl, hr2, hs2, hu2⟩, g5⟩; obtain ⟨RC2, hRC2⟩ : ∃ RC2, RC2 = rdC so2 sc2 uo2 uc2 (faD R FL) := ⟨_, rfl⟩; rw [← hRC2]; have hRl2 : RC2.length = 4 := (by rw [hRC2]; rfl); have HRO2 := hide (show RC2.toArray.all (·.oneCell') = true by rw [hRC2]; exact rdC_one _ _ _ _ _); have HRL2 := hide (show (Try.prog.info? 30).map (·.size) = some RC2.toArray.size by rw [List.size_toArray, hRl2]; exact info_rd); have HR5 := hide (show RC.toArray.size = RC2.toArray.size by rw [List.size_toArray, List.size_toArray, hRl2]; exact unhide HRL); have hmd := (unhide HP4).made g5 hs2 hu2 hr2; have hP5 := ((unhide HP4).nn g5).store hmd.1 hmd.2.1 hmd.2.2; have hb5 := ((unhide HP4).nn g5).box; rw [← unhide HRC] at hb5; have HB5 := hide hb5; rw [← hRC2] at hP5; have HP5 := hide hP5; have HPB := hide (((unhide HPB4).kept g5 (by simp)).row_other q RC2.toArray (fun e => (unhide HAB).2.2 e.symm)); clear hr2 hs2 hu2 g5 hRC2 hRl2 hmd hP5 hb5)
                                    | (have hB9 := unhide HB5; refine wpList_store_row rfl 30 _ _ rfl q RC2.toArray rfl rfl _ _ hB9 (unhide HRL2) (unhide HR5) (unhide HRO2) ?_; clear hB9 HB5))
                                  go_meet
                                  case rel => exact ⟨_, _, F4, so2, sc2, uo2, uc2, unhide HP5, (unhide HRR).1.fall FL, by rw [fa_u]; exact Nat.zero_le _, Lb.fall R FL, unhide HPB⟩
                            · as_aux_lemma =>
                                have e0 : (p.kind == 0) = false := beq_eq_false_iff_ne.2 (by omega)
                                have d0 : decide (p.kind = 0) = false := decide_eq_false (by omega)
                                have e1 : (p.kind == 1) = false := beq_eq_false_iff_ne.2 (by omega)
                                have d1 : decide (p.kind = 1) = false := decide_eq_false (by omega)
                                have e2 : (p.kind == 2) = false := beq_eq_false_iff_ne.2 (by omega)
                                have d2 : decide (p.kind = 2) = false := decide_eq_false (by omega)
                                have e3 : (p.kind == 3) = false := beq_eq_false_iff_ne.2 (by omega)
                                have d3 : decide (p.kind = 3) = false := decide_eq_false (by omega)
                                have hP1 := unhide HP1
                                have HPP := hide hP1
                                clear k0 k1 k2 k3 hP1 HL0
                                go_wp2
                                go_meet
                                case rel => exact ⟨D, R, F, so, sc, uo, uc, unhide HPP, (unhide HRR).1, Nat.le_succ_of_le (unhide HRR).2.1, (unhide HRR).2.2, (unhide HAB).1⟩
                  case rest =>
                    obtain ⟨D2, R2, F2, so2, sc2, uo2, uc2, hP2, hA2, hU2, hL2, hB2⟩ := hcut
                    obtain ⟨W2, hW2⟩ : ∃ W, W = wc := ⟨_, rfl⟩
                    rw [← hW2] at hP2 hB2 ⊢
                    clear hW2
                    refine hJ _ _ ?_
                    clear hJ J
                    as_aux_lemma =>
                      clear HP1 HA0 HA1 HAB HRC HRR HBB HNF HNB HQ hx0 hx1 hx3
                      obtain ⟨RC2, hRC2⟩ : ∃ RC2, RC2 = rdC so2 sc2 uo2 uc2 R2 := ⟨_, rfl⟩
                      have hir2 : (Try.prog.info? 30).map (·.size) = some RC2.length := by rw [hRC2]; exact info_rd
                      have hra2 : W2.rangeAt q 0 RC2 := by rw [hRC2]; exact blk_all hP2.box
                      have hU2b : D2.U.length ≤ 1000000 := by omega
                      have hRU2 : R2.U.length ≤ 1000000 := by rw [hA2.U]; exact hU2b
                      have hSb2 : R2.safe.length ≤ 1000000 := by rw [hA2.safe]; have := hP2.dk.at_.ok.most; omega
                      obtain ⟨X, hX⟩ : ∃ X, X = (rdD D2 p.n).1 := ⟨_, rfl⟩
                      obtain ⟨y, hy⟩ : ∃ y, y = (rdD D2 p.n).2 := ⟨_, rfl⟩
                      obtain ⟨nX, hnX⟩ : ∃ n, n = X.length := ⟨_, rfl⟩
                      obtain ⟨TX, hTX⟩ : ∃ T, T = str X := ⟨_, rfl⟩
                      have c34 := lread hP2.dk p.n hU2b
                      rw [← hX, ← hy, ← hnX] at c34
                      have c35 : ∀ V, W2.grownBy V none → Calls Try.prog 19 #[.agg RC2.toArray, .int .i64 p.n] V (fun e w' => e = .returned (.tuple #[.string TX, .int .i64 y]) ∧ V.grownBy w' none) := fun V hV => by
                        have := rread_any V so2 sc2 uo2 uc2 R2 (hP2.rd.kept hV) p.n hRU2 hSb2
                        rw [hA2.read, ← hX, ← hy, ← hTX, ← hRC2] at this
                        exact this
                      obtain ⟨nU, hnU⟩ : ∃ n, n = D2.U.length := ⟨_, rfl⟩
                      obtain ⟨nS, hnS⟩ : ∃ n, n = D2.safe.length := ⟨_, rfl⟩
                      obtain ⟨dn, hdn⟩ : ∃ b, b = D2.down := ⟨_, rfl⟩
                      have c36 : ∀ V, W2.grownBy V none → Calls Try.prog 20 #[.pointer (some ⟨d, 0, none⟩)] V (fun e w' => ∃ ao c, e = .returned (.slice ao nU c) ∧ Nts w' ao c (D2.U.map fun x => (x.1 : Int)) ∧ V.grownBy w' none) := fun V hV => (lunder (hP2.dk.nn hV) hU2b).mono fun e w' h => by
                        obtain ⟨ao, c, h1, h2, -, h4⟩ := h
                        rw [← hnU] at h1
                        exact ⟨ao, c, h1, h2, h4⟩
                      have cdn : ∀ V, W2.grownBy V none → Calls Try.prog 21 #[.pointer (some ⟨d, 0, none⟩)] V (fun e w' => e = .returned (.bool dn) ∧ w' = V) := fun V hV => by rw [hdn]; exact ddown_any _ V F2 d D2 (hP2.dk.nn hV).at_
                      have cse : ∀ V, W2.grownBy V none → Calls Try.prog 22 #[.pointer (some ⟨d, 0, none⟩)] V (fun e w' => e = .returned (.int .i64 (nS : Int)) ∧ w' = V) := fun V hV => by rw [hnS]; exact dsect_any _ V F2 d D2 (hP2.dk.nn hV).at_
                      have q0 : W2.cell? ⟨q, 0, none⟩ = some (.slice so2 nS sc2) := by rw [hP2.box.cell, hnS, ← hA2.safe]; rfl
                      have q1 : W2.cell? ⟨q, 1, none⟩ = some (.slice uo2 nU uc2) := by rw [hP2.box.cell, hnU, ← hA2.U]; rfl
                      have q3 : W2.cell? ⟨q, 3, none⟩ = some (.bool dn) := by rw [hP2.box.cell, hdn, ← hA2.down]; rfl
                      have x21 : W2.cell? ⟨pb, 1, none⟩ = some (.int .i64 p.n) := by rw [hB2.cell]; rfl
                      have HP2 := hide hP2
                      have HAL := hide (And.intro hA2 (And.intro hU2 hL2))
                      have HIR2 := hide hir2
                      have HRA2 := hide hra2
                      have HC35 := hide c35
                      have HC36 := hide c36
                      have HCD := hide cdn
                      have HCE := hide cse
                      have HQ0a := hide q0
                      have HQ1a := hide q1
                      have HQ3a := hide q3
                      have HX1a := hide x21
                      have HXX := hide (And.intro hnX hTX)
                      have HNU := hide (And.intro hnU hnS)
                      clear hP2 hA2 hU2 hL2 hB2 hRC2 hir2 hra2 hU2b hRU2 hSb2 hX hy hnX hTX c35 hnU hnS hdn c36 cdn cse q0 q1 q3
                      go_upto_region 35 with (go_at_call 18; refine c34.mono ?_; clear c34; rintro e w3 ⟨a17, c17, rfl, hb17, -, g3⟩; have x31 := g3.cell (unhide HX1a) (by simp); have hr3 := range_kept (unhide HRA2) g3 (by simp); have HB17 := hide hb17; have HG3 := hide g3; clear hb17 g3)
                      clear x21
                      go_upto_region 36 with (first
                        | (refine wpList_load_mid rfl 30 _ rfl q 0 rfl RC2 _ hr3 Try.underlying30 rfl (unhide HIR2) ?_; clear hr3)
                        | (go_at_call 19; refine (unhide HC35 w3 (unhide HG3)).mono ?_; clear HC35; rintro e w4 ⟨rfl, g4⟩; have HG4 := hide (tn (unhide HG3) g4); have HB17 := hide ((unhide HB17).kept g4 (fun _ e => by cases e)); clear g4))
                      clear x31
                      go_upto_region 37 with (go_at_call 20; refine (unhide HC36 w4 (unhide HG4)).mono ?_; clear HC36; rintro e w5 ⟨a21, c21, rfl, hu21, g5⟩; have HG5 := hide (tn (unhide HG4) g5); have HB17 := hide ((unhide HB17).kept g5 (fun _ e => by cases e)); have HU21 := hide hu21; clear hu21 g5)
                      have HC17 : Hid (∀ V, w5.grownBy V none → (convert 33 9 (.slice a17 nX c17)).run Try.prog V = .ok (.string TX) V) := fun V hV => by rw [(unhide HXX).2]; exact conv_len ((unhide HB17).kept hV (fun _ e => by cases e)) (unhide HXX).1
                      have HQ0 := hide ((unhide HG5).cell (unhide HQ0a) (by simp))
                      have HQ1 := hide ((unhide HG5).cell (unhide HQ1a) (by simp))
                      have HQ3 := hide ((unhide HG5).cell (unhide HQ3a) (by simp))
                      have HX1 := hide ((unhide HG5).cell (unhide HX1a) (by simp))
                      have HDN : Hid (∀ V, w5.grownBy V none → Calls Try.prog 21 #[.pointer (some ⟨d, 0, none⟩)] V (fun e w' => e = .returned (.bool dn) ∧ w' = V)) := fun V hV => unhide HCD V (tn (unhide HG5) hV)
                      have HSE : Hid (∀ V, w5.grownBy V none → Calls Try.prog 22 #[.pointer (some ⟨d, 0, none⟩)] V (fun e w' => e = .returned (.int .i64 (nS : Int)) ∧ w' = V)) := fun V hV => unhide HCE V (tn (unhide HG5) hV)
                      clear HQ0a HQ1a HQ3a HX1a HCD HCE HB17 HG3 HG4 HIR2 HRA2
                      refine wp_region_noPanic ?_
                      refine wp_region_held_drew (S := fun V => w5.grownBy V none) (by kernel_rfl) (gb_drew (gb_refl _ _)) (fun _ => ?_)
                      refine wpAnyH_take (i := 0) (oi := ⟨some 143, .move (.tmp 17), _, _, _, _⟩) (v := (.slice a17 nX c17)) rfl (by kernel_rfl) (by kernel_rfl) (by kernel_rfl) (fun _ _ _ h => h) (Or.inl ⟨by rfl, fun V (hV : w5.grownBy V none) => by go_simp⟩) (gb_drew (gb_refl _ _)) ?_
                      (try simp only [Act.put, pq1, pq2, pq3])
                      refine wpAnyH_take (i := 1) (oi := ⟨some 144, .convert 33 9 (.tmp 143), _, _, _, _⟩) (v := (.string TX)) rfl (by kernel_rfl) (by kernel_rfl) (by kernel_rfl) (fun _ _ _ h => h) (Or.inl ⟨by rfl, fun V (hV : w5.grownBy V none) => by (have hv1 := unhide HC17 V hV; go_simp)⟩) (gb_drew (gb_refl _ _)) ?_
                      (try simp only [Act.put, pq1, pq2, pq3])
                      refine wpAnyH_take (i := 2) (oi := ⟨some 145, .move (.tmp 19), _, _, _, _⟩) (v := (.string TX)) rfl (by kernel_rfl) (by kernel_rfl) (by kernel_rfl) (fun _ _ _ h => h) (Or.inl ⟨by rfl, fun V (hV : w5.grownBy V none) => by go_simp⟩) (gb_drew (gb_refl _ _)) ?_
                      (try simp only [Act.put, pq1, pq2, pq3])
                      refine wpAnyH_take (i := 3) (oi := ⟨some 146, .binOp .neq 9 (.tmp 144) (.tmp 145) 9, _, _, _, _⟩) (v := (.bool false)) rfl (by kernel_rfl) (by kernel_rfl) (by kernel_rfl) (fun _ _ _ h => h) (Or.inl ⟨by rfl, fun V (hV : w5.grownBy V none) => by go_simp⟩) (gb_drew (gb_refl _ _)) ?_
                      (try simp only [Act.put, pq1, pq2, pq3])
                      refine wpAnyH_take (i := 4) (oi := ⟨some 147, .move (.tmp 146), _, _, _, _⟩) (v := (.bool false)) rfl (by kernel_rfl) (by kernel_rfl) (by kernel_rfl) (fun _ _ _ h => h) (Or.inl ⟨by rfl, fun V (hV : w5.grownBy V none) => by go_simp⟩) (gb_drew (gb_refl _ _)) ?_
                      (try simp only [Act.put, pq1, pq2, pq3])
                      refine wpAnyH_take (i := 5) (oi := ⟨some 148, .move (.tmp 18), _, _, _, _⟩) (v := (.int .i64 y)) rfl (by kernel_rfl) (by kernel_rfl) (by kernel_rfl) (fun _ _ _ h => h) (Or.inl ⟨by rfl, fun V (hV : w5.grownBy V none) => by go_simp⟩) (gb_drew (gb_refl _ _)) ?_
                      (try simp only [Act.put, pq1, pq2, pq3])
                      refine wpAnyH_take (i := 6) (oi := ⟨some 149, .move (.tmp 20), _, _, _, _⟩) (v := (.int .i64 y)) rfl (by kernel_rfl) (by kernel_rfl) (by kernel_rfl) (fun _ _ _ h => h) (Or.inl ⟨by rfl, fun V (hV : w5.grownBy V none) => by go_simp⟩) (gb_drew (gb_refl _ _)) ?_
                      (try simp only [Act.put, pq1, pq2, pq3])
                      refine wpAnyH_take (i := 7) (oi := ⟨some 150, .binOp .neq 3 (.tmp 148) (.tmp 149) 3, _, _, _, _⟩) (v := (.bool false)) rfl (by kernel_rfl) (by kernel_rfl) (by kernel_rfl) (fun _ _ _ h => h) (Or.inl ⟨by rfl, fun V (hV : w5.grownBy V none) => by go_simp⟩) (gb_drew (gb_refl _ _)) ?_
                      (try simp only [Act.put, pq1, pq2, pq3])
                      refine wpAnyH_take (i := 8) (oi := ⟨some 151, .pick (.tmp 147) (.const (.bool true)) (.tmp 150), _, _, _, _⟩) (v := (.bool false)) rfl (by kernel_rfl) (by kernel_rfl) (by kernel_rfl) (fun _ _ _ h => h) (Or.inl ⟨by rfl, fun V (hV : w5.grownBy V none) => by go_simp⟩) (gb_drew (gb_refl _ _)) ?_
                      (try simp only [Act.put, pq1, pq2, pq3])
                      refine wpAnyH_take (i := 9) (oi := ⟨some 152, .move (.tmp 151), _, _, _, _⟩) (v := (.bool false)) rfl (by kernel_rfl) (by kernel_rfl) (by kernel_rfl) (fun _ _ _ h => h) (Or.inl ⟨by rfl, fun V (hV : w5.grownBy V none) => by go_simp⟩) (gb_drew (gb_refl _ _)) ?_
                      (try simp only [Act.put, pq1, pq2, pq3])
                      refine wpAnyH_take (i := 10) (oi := ⟨some 153, .move (.tmp 5), _, _, _, _⟩) (v := (.pointer (some ⟨d, 0, none⟩))) rfl (by kernel_rfl) (by kernel_rfl) (by kernel_rfl) (fun _ _ _ h => h) (Or.inl ⟨by rfl, fun V (hV : w5.grownBy V none) => by go_simp⟩) (gb_drew (gb_refl _ _)) ?_
                      (try simp only [Act.put, pq1, pq2, pq3])
                      refine wpAnyH_take (i := 12) (oi := ⟨some 155, .fieldAddr 30 (.tmp 7) 3, _, _, _, _⟩) (v := (.pointer (some ⟨q, 3, none⟩))) rfl (by kernel_rfl) (by kernel_rfl) (by kernel_rfl) (fun _ _ _ h => h) (Or.inl ⟨by rfl, fun V (hV : w5.grownBy V none) => by go_simp⟩) (gb_drew (gb_refl _ _)) ?_
                      (try simp only [Act.put, pq1, pq2, pq3])
                      refine wpAnyH_take (i := 13) (oi := ⟨some 156, .load 4 (.tmp 155), _, _, _, _⟩) (v := (.bool dn)) rfl (by kernel_rfl) (by kernel_rfl) (by kernel_rfl) (fun _ _ _ h => h) (Or.inl ⟨by rfl, fun V (hV : w5.grownBy V none) => by (have hv1 := hV.cell (unhide HQ3) (by simp); go_simp)⟩) (gb_drew (gb_refl _ _)) ?_
                      (try simp only [Act.put, pq1, pq2, pq3])
                      refine wpAnyH_ready (rs := [11]) (by kernel_rfl) (by simp) ?_
                      refine AllReadyH.cons (o := ⟨some 154, .call { callee := .value (.func 21), args := #[(.tmp 153)], argTypes := #[23] }, _, _, _, _⟩) rfl (fun K9 hK9 => ?_) AllReadyH.nil
                      go_simp
                      go_at_call 21
                      refine (unhide HDN _ (gb_drew (gb_refl _ _))).mono ?_
                      rintro e w6 ⟨rfl, e6⟩
                      subst w6
                      go_wp2_with fail
                      refine hK9.out _ _ (gb_drew (gb_refl _ _)) (fun _ => ?_)
                      clear hK9 K9
                      (try simp only [Act.put, pq1, pq2, pq3])
                      refine wpAnyH_take (i := 14) (oi := ⟨some 157, .binOp .neq 4 (.tmp 154) (.tmp 156) 4, _, _, _, _⟩) (v := (.bool false)) rfl (by kernel_rfl) (by kernel_rfl) (by kernel_rfl) (fun _ _ _ h => h) (Or.inl ⟨by rfl, fun V (hV : w5.grownBy V none) => by go_simp⟩) (gb_drew (gb_refl _ _)) ?_
                      (try simp only [Act.put, pq1, pq2, pq3])
                      refine wpAnyH_take (i := 15) (oi := ⟨some 158, .pick (.tmp 152) (.const (.bool true)) (.tmp 157), _, _, _, _⟩) (v := (.bool false)) rfl (by kernel_rfl) (by kernel_rfl) (by kernel_rfl) (fun _ _ _ h => h) (Or.inl ⟨by rfl, fun V (hV : w5.grownBy V none) => by go_simp⟩) (gb_drew (gb_refl _ _)) ?_
                      (try simp only [Act.put, pq1, pq2, pq3])
                      refine wpAnyH_take (i := 16) (oi := ⟨some 159, .move (.tmp 158), _, _, _, _⟩) (v := (.bool false)) rfl (by kernel_rfl) (by kernel_rfl) (by kernel_rfl) (fun _ _ _ h => h) (Or.inl ⟨by rfl, fun V (hV : w5.grownBy V none) => by go_simp⟩) (gb_drew (gb_refl _ _)) ?_
                      (try simp only [Act.put, pq1, pq2, pq3])
                      refine wpAnyH_take (i := 17) (oi := ⟨some 160, .move (.tmp 21), _, _, _, _⟩) (v := (.slice a21 nU c21)) rfl (by kernel_rfl) (by kernel_rfl) (by kernel_rfl) (fun _ _ _ h => h) (Or.inl ⟨by rfl, fun V (hV : w5.grownBy V none) => by go_simp⟩) (gb_drew (gb_refl _ _)) ?_
                      (try simp only [Act.put, pq1, pq2, pq3])
                      refine wpAnyH_take (i := 18) (oi := ⟨some 161, .call { callee := .builtin .len, args := #[(.tmp 160)], argTypes := #[34] }, _, _, _, _⟩) (v := (.int .i64 (nU : Int))) rfl (by kernel_rfl) (by kernel_rfl) (by kernel_rfl) (fun _ _ _ h => h) (Or.inl ⟨by rfl, fun V (hV : w5.grownBy V none) => by go_simp⟩) (gb_drew (gb_refl _ _)) ?_
                      (try simp only [Act.put, pq1, pq2, pq3])
                      refine wpAnyH_take (i := 19) (oi := ⟨some 162, .fieldAddr 30 (.tmp 7) 1, _, _, _, _⟩) (v := (.pointer (some ⟨q, 1, none⟩))) rfl (by kernel_rfl) (by kernel_rfl) (by kernel_rfl) (fun _ _ _ h => h) (Or.inl ⟨by rfl, fun V (hV : w5.grownBy V none) => by go_simp⟩) (gb_drew (gb_refl _ _)) ?_
                      (try simp only [Act.put, pq1, pq2, pq3])
                      refine wpAnyH_take (i := 20) (oi := ⟨some 163, .load 28 (.tmp 162), _, _, _, _⟩) (v := (.slice uo2 nU uc2)) rfl (by kernel_rfl) (by kernel_rfl) (by kernel_rfl) (fun _ _ _ h => h) (Or.inl ⟨by rfl, fun V (hV : w5.grownBy V none) => by (have hv1 := hV.cell (unhide HQ1) (by simp); go_simp)⟩) (gb_drew (gb_refl _ _)) ?_
                      (try simp only [Act.put, pq1, pq2, pq3])
                      refine wpAnyH_take (i := 21) (oi := ⟨some 164, .call { callee := .builtin .len, args := #[(.tmp 163)], argTypes := #[28] }, _, _, _, _⟩) (v := (.int .i64 (nU : Int))) rfl (by kernel_rfl) (by kernel_rfl) (by kernel_rfl) (fun _ _ _ h => h) (Or.inl ⟨by rfl, fun V (hV : w5.grownBy V none) => by go_simp⟩) (gb_drew (gb_refl _ _)) ?_
                      (try simp only [Act.put, pq1, pq2, pq3])
                      refine wpAnyH_take (i := 22) (oi := ⟨some 165, .binOp .neq 3 (.tmp 161) (.tmp 164) 3, _, _, _, _⟩) (v := (.bool false)) rfl (by kernel_rfl) (by kernel_rfl) (by kernel_rfl) (fun _ _ _ h => h) (Or.inl ⟨by rfl, fun V (hV : w5.grownBy V none) => by go_simp⟩) (gb_drew (gb_refl _ _)) ?_
                      (try simp only [Act.put, pq1, pq2, pq3])
                      refine wpAnyH_take (i := 23) (oi := ⟨some 166, .pick (.tmp 159) (.const (.bool true)) (.tmp 165), _, _, _, _⟩) (v := (.bool false)) rfl (by kernel_rfl) (by kernel_rfl) (by kernel_rfl) (fun _ _ _ h => h) (Or.inl ⟨by rfl, fun V (hV : w5.grownBy V none) => by go_simp⟩) (gb_drew (gb_refl _ _)) ?_
                      (try simp only [Act.put, pq1, pq2, pq3])
                      refine wpAnyH_take (i := 24) (oi := ⟨some 167, .move (.tmp 166), _, _, _, _⟩) (v := (.bool false)) rfl (by kernel_rfl) (by kernel_rfl) (by kernel_rfl) (fun _ _ _ h => h) (Or.inl ⟨by rfl, fun V (hV : w5.grownBy V none) => by go_simp⟩) (gb_drew (gb_refl _ _)) ?_
                      (try simp only [Act.put, pq1, pq2, pq3])
                      refine wpAnyH_take (i := 25) (oi := ⟨some 168, .move (.tmp 5), _, _, _, _⟩) (v := (.pointer (some ⟨d, 0, none⟩))) rfl (by kernel_rfl) (by kernel_rfl) (by kernel_rfl) (fun _ _ _ h => h) (Or.inl ⟨by rfl, fun V (hV : w5.grownBy V none) => by go_simp⟩) (gb_drew (gb_refl _ _)) ?_
                      (try simp only [Act.put, pq1, pq2, pq3])
                      refine wpAnyH_take (i := 27) (oi := ⟨some 170, .fieldAddr 30 (.tmp 7) 0, _, _, _, _⟩) (v := (.pointer (some ⟨q, 0, none⟩))) rfl (by kernel_rfl) (by kernel_rfl) (by kernel_rfl) (fun _ _ _ h => h) (Or.inl ⟨by rfl, fun V (hV : w5.grownBy V none) => by go_simp⟩) (gb_drew (gb_refl _ _)) ?_
                      (try simp only [Act.put, pq1, pq2, pq3])
                      refine wpAnyH_take (i := 28) (oi := ⟨some 171, .load 27 (.tmp 170), _, _, _, _⟩) (v := (.slice so2 nS sc2)) rfl (by kernel_rfl) (by kernel_rfl) (by kernel_rfl) (fun _ _ _ h => h) (Or.inl ⟨by rfl, fun V (hV : w5.grownBy V none) => by (have hv1 := hV.cell (unhide HQ0) (by simp); go_simp)⟩) (gb_drew (gb_refl _ _)) ?_
                      (try simp only [Act.put, pq1, pq2, pq3])
                      refine wpAnyH_take (i := 29) (oi := ⟨some 172, .call { callee := .builtin .len, args := #[(.tmp 171)], argTypes := #[27] }, _, _, _, _⟩) (v := (.int .i64 (nS : Int))) rfl (by kernel_rfl) (by kernel_rfl) (by kernel_rfl) (fun _ _ _ h => h) (Or.inl ⟨by rfl, fun V (hV : w5.grownBy V none) => by go_simp⟩) (gb_drew (gb_refl _ _)) ?_
                      (try simp only [Act.put, pq1, pq2, pq3])
                      refine wpAnyH_ready (rs := [26]) (by kernel_rfl) (by simp) ?_
                      refine AllReadyH.cons (o := ⟨some 169, .call { callee := .value (.func 22), args := #[(.tmp 168)], argTypes := #[23] }, _, _, _, _⟩) rfl (fun K9 hK9 => ?_) AllReadyH.nil
                      go_simp
                      go_at_call 22
                      refine (unhide HSE _ (gb_drew (gb_refl _ _))).mono ?_
                      rintro e w7 ⟨rfl, e7⟩
                      subst w7
                      go_wp2_with fail
                      refine hK9.out _ _ (gb_drew (gb_refl _ _)) (fun _ => ?_)
                      clear hK9 K9
                      (try simp only [Act.put, pq1, pq2, pq3])
                      refine wpAnyH_take (i := 30) (oi := ⟨some 173, .binOp .neq 3 (.tmp 169) (.tmp 172) 3, _, _, _, _⟩) (v := (.bool false)) rfl (by kernel_rfl) (by kernel_rfl) (by kernel_rfl) (fun _ _ _ h => h) (Or.inl ⟨by rfl, fun V (hV : w5.grownBy V none) => by go_simp⟩) (gb_drew (gb_refl _ _)) ?_
                      (try simp only [Act.put, pq1, pq2, pq3])
                      refine wpAnyH_take (i := 31) (oi := ⟨some 174, .pick (.tmp 167) (.const (.bool true)) (.tmp 173), _, _, _, _⟩) (v := (.bool false)) rfl (by kernel_rfl) (by kernel_rfl) (by kernel_rfl) (fun _ _ _ h => h) (Or.inl ⟨by rfl, fun V (hV : w5.grownBy V none) => by go_simp⟩) (gb_drew (gb_refl _ _)) ?_
                      (try simp only [Act.put, pq1, pq2, pq3])
                      refine wpAnyH_done (by kernel_rfl) ?_ _
                      refine NoPanic.normal ?_
                      clear HC17 HDN HSE HQ3 HXX
                      have HWD := hide (gb_drew (gb_refl w5 none))
                      go_wp2
                      go_loopw [22] (fun i wr => ∃ j : Nat, i = .int .i64 j ∧ j ≤ nU ∧ w5.grownBy wr none) (fun i _ => nU - (intOf i).toNat)
                      case atStart => exact ⟨0, rfl, Nat.zero_le _, gb_drew (gb_refl w5 none)⟩
                      case round =>
                        obtain ⟨j, rfl, hj, hg⟩ := hrel
                        by_cases hju : j < nU
                        · have hji : (j : Int) < (nU : Int) := by omega
                          have hnb : nU ≤ 1000 := by have := (unhide HNU).1; have := (unhide HAL).2.1; omega
                          have hjw : IntKind.i64.wrap ((j : Int) + 1) = (j : Int) + 1 := by rw [IntKind.wrap_i64]; omega
                          have hjU : j < D2.U.length := by have := (unhide HNU).1; omega
                          have hjR : j < R2.U.length := by rw [(unhide HAL).1.U]; exact hjU
                          obtain ⟨ub, uz, hau, hcu⟩ := (unhide HU21).at j (by rw [List.length_map]; exact hjU)
                          obtain ⟨rb, rz, hru, hrow⟩ := (unhide HP2).rd.und.at j hjR
                          obtain ⟨I, hI⟩ : ∃ I, I = D2.U[j].1 := ⟨_, rfl⟩
                          have hRI : R2.U[j].1 = I := by
                            have : R2.U[j]? = D2.U[j]? := by rw [(unhide HAL).1.U]
                            rw [List.getElem?_eq_getElem hjR, List.getElem?_eq_getElem hjU] at this
                            rw [hI]
                            injection this with this
                            rw [this]
                          rw [List.getElem_map, ← hI] at hcu
                          have hc1 := hrow 0 _ rfl
                          rw [hRI] at hc1
                          simp only [Nat.add_zero] at hc1
                          have HU0 := hide (hg.cell hcu (by simp))
                          have HU1 := hide (hg.cell ((unhide HG5).cell hc1 (by simp)) (by simp))
                          have HQ1r := hide (hg.cell (unhide HQ1) (by simp))
                          have HGR := hide hg
                          clear hnb hcu hc1 hrow hI hRI hjU hjR hg HQ1 HQ0 HX1 HL0
                          subst hau hru
                          have HQ1 := HQ1r
                          go_upto_region 42 with fail
                          refine wp_region_noPanic ?_
                          refine wp_region_held_drew (S := fun V => wr.grownBy V none) (by kernel_rfl) (gb_drew (gb_refl _ _)) (fun _ => ?_)
                          refine wpAnyH_take (i := 0) (oi := ⟨some 181, .move (.tmp 21), _, _, _, _⟩) (v := (.slice (some ⟨ub, uz, none⟩) nU c21)) rfl (by kernel_rfl) (by kernel_rfl) (by kernel_rfl) (fun _ _ _ h => h) (Or.inl ⟨by rfl, fun V (hV : wr.grownBy V none) => by go_simp⟩) (gb_drew (gb_refl _ _)) ?_
                          (try simp only [Act.put, pq1, pq2, pq3])
                          refine wpAnyH_take (i := 1) (oi := ⟨some 182, .move (.tmp 22), _, _, _, _⟩) (v := (.int .i64 (j : Int))) rfl (by kernel_rfl) (by kernel_rfl) (by kernel_rfl) (fun _ _ _ h => h) (Or.inl ⟨by rfl, fun V (hV : wr.grownBy V none) => by go_simp⟩) (gb_drew (gb_refl _ _)) ?_
                          (try simp only [Act.put, pq1, pq2, pq3])
                          refine wpAnyH_take (i := 2) (oi := ⟨some 183, .indexAddr 34 (.tmp 181) (.tmp 182), _, _, _, _⟩) (v := (.pointer (some ⟨ub, uz + j, none⟩))) rfl (by kernel_rfl) (by kernel_rfl) (by kernel_rfl) (fun _ _ _ h => h) (Or.inl ⟨by rfl, fun V (hV : wr.grownBy V none) => by go_simp⟩) (gb_drew (gb_refl _ _)) ?_
                          (try simp only [Act.put, pq1, pq2, pq3])
                          refine wpAnyH_take (i := 3) (oi := ⟨some 184, .load 3 (.tmp 183), _, _, _, _⟩) (v := (.int .i64 (I : Int))) rfl (by kernel_rfl) (by kernel_rfl) (by kernel_rfl) (fun _ _ _ h => h) (Or.inl ⟨by rfl, fun V (hV : wr.grownBy V none) => by (have hv1 := hV.cell (unhide HU0) (by simp); go_simp)⟩) (gb_drew (gb_refl _ _)) ?_
                          (try simp only [Act.put, pq1, pq2, pq3])
                          refine wpAnyH_take (i := 4) (oi := ⟨some 185, .fieldAddr 30 (.tmp 7) 1, _, _, _, _⟩) (v := (.pointer (some ⟨q, 1, none⟩))) rfl (by kernel_rfl) (by kernel_rfl) (by kernel_rfl) (fun _ _ _ h => h) (Or.inl ⟨by rfl, fun V (hV : wr.grownBy V none) => by go_simp⟩) (gb_drew (gb_refl _ _)) ?_
                          (try simp only [Act.put, pq1, pq2, pq3])
                          refine wpAnyH_take (i := 5) (oi := ⟨some 186, .load 28 (.tmp 185), _, _, _, _⟩) (v := (.slice (some ⟨rb, rz, none⟩) nU uc2)) rfl (by kernel_rfl) (by kernel_rfl) (by kernel_rfl) (fun _ _ _ h => h) (Or.inl ⟨by rfl, fun V (hV : wr.grownBy V none) => by (have hv1 := hV.cell (unhide HQ1) (by simp); go_simp)⟩) (gb_drew (gb_refl _ _)) ?_
                          (try simp only [Act.put, pq1, pq2, pq3])
                          refine wpAnyH_take (i := 6) (oi := ⟨some 187, .move (.tmp 22), _, _, _, _⟩) (v := (.int .i64 (j : Int))) rfl (by kernel_rfl) (by kernel_rfl) (by kernel_rfl) (fun _ _ _ h => h) (Or.inl ⟨by rfl, fun V (hV : wr.grownBy V none) => by go_simp⟩) (gb_drew (gb_refl _ _)) ?_
                          (try simp only [Act.put, pq1, pq2, pq3])
                          refine wpAnyH_take (i := 7) (oi := ⟨some 188, .indexAddr 28 (.tmp 186) (.tmp 187), _, _, _, _⟩) (v := (.pointer (some ⟨rb, rz + j * 2, none⟩))) rfl (by kernel_rfl) (by kernel_rfl) (by kernel_rfl) (fun _ _ _ h => h) (Or.inl ⟨by rfl, fun V (hV : wr.grownBy V none) => by go_simp⟩) (gb_drew (gb_refl _ _)) ?_
                          (try simp only [Act.put, pq1, pq2, pq3])
                          refine wpAnyH_take (i := 8) (oi := ⟨some 189, .fieldAddr 54 (.tmp 188) 0, _, _, _, _⟩) (v := (.pointer (some ⟨rb, rz + j * 2, none⟩))) rfl (by kernel_rfl) (by kernel_rfl) (by kernel_rfl) (fun _ _ _ h => h) (Or.inl ⟨by rfl, fun V (hV : wr.grownBy V none) => by go_simp⟩) (gb_drew (gb_refl _ _)) ?_
                          (try simp only [Act.put, pq1, pq2, pq3])
                          refine wpAnyH_take (i := 9) (oi := ⟨some 190, .load 3 (.tmp 189), _, _, _, _⟩) (v := (.int .i64 (I : Int))) rfl (by kernel_rfl) (by kernel_rfl) (by kernel_rfl) (fun _ _ _ h => h) (Or.inl ⟨by rfl, fun V (hV : wr.grownBy V none) => by (have hv1 := hV.cell (unhide HU1) (by simp); go_simp)⟩) (gb_drew (gb_refl _ _)) ?_
                          (try simp only [Act.put, pq1, pq2, pq3])
                          refine wpAnyH_take (i := 10) (oi := ⟨some 191, .binOp .neq 3 (.tmp 184) (.tmp 190) 3, _, _, _, _⟩) (v := (.bool false)) rfl (by kernel_rfl) (by kernel_rfl) (by kernel_rfl) (fun _ _ _ h => h) (Or.inl ⟨by rfl, fun V (hV : wr.grownBy V none) => by go_simp⟩) (gb_drew (gb_refl _ _)) ?_
                          (try simp only [Act.put, pq1, pq2, pq3])
                          refine wpAnyH_done (by kernel_rfl) ?_ _
                          refine NoPanic.normal ?_
                          go_wp2
                          go_roundw
                          case rel => exact ⟨j + 1, by go_num, by omega, tn (unhide HGR) (gb_drew (gb_refl _ _))⟩
                          case measure => simp [intOf]; omega
                        · have hji : ¬ (j : Int) < (nU : Int) := by omega
                          have HGR := hide hg
                          have hx1r := hg.cell (unhide HX1) (by simp)
                          have hq0r := hg.cell (unhide HQ0) (by simp)
                          have HFINR : Hid (∀ W, wr.grownBy W none → Pst w W F2 d D2 so2 sc2 uo2 uc2 R2 q ∧ Alk D2 R2 ∧ D2.U.length ≤ k + 1 ∧ Lb R2) := fun W g => ⟨(unhide HP2).nn (tn (unhide HG5) (tn (unhide HGR) g)), (unhide HAL).1, (unhide HAL).2.1, (unhide HAL).2.2⟩
                          have hjn : j = nU := by omega
                          clear hg HQ1 HU21 hj
                          by_cases hn0 : p.n < 0
                          · have hn0i : ¬ (0 : Int) ≤ p.n := by omega
                            clear HL0
                            go_wp2
                            go_roundw
                            case rel => exact ⟨k + 1, D2, R2, F2, so2, sc2, uo2, uc2, by go_num, by omega, by omega, unhide HFINR _ (gb_refl _ _)⟩
                            case measure => simp [intOf]; omega
                          by_cases hn1 : (nS : Int) ≤ p.n
                          · have hn0i : (0 : Int) ≤ p.n := by omega
                            have hn0d : decide ((0 : Int) ≤ p.n) = true := decide_eq_true hn0i
                            have hn1i : ¬ p.n < (nS : Int) := by omega
                            clear HL0
                            go_wp2
                            go_roundw
                            case rel => exact ⟨k + 1, D2, R2, F2, so2, sc2, uo2, uc2, by go_num, by omega, by omega, unhide HFINR _ (gb_refl _ _)⟩
                            case measure => simp [intOf]; omega
                          obtain ⟨i, hi⟩ : ∃ i : Nat, p.n = (i : Int) := ⟨p.n.toNat, by omega⟩
                          have hin : i < nS := by omega
                          have hiS : i < D2.safe.length := by have := (unhide HNU).2; omega
                          have hii : (i : Int) < (nS : Int) := by omega
                          rw [hi] at hx1r
                          have cs := lsafe_up ((unhide HP2).dk.nn (tn (unhide HG5) (unhide HGR))) (i : Int) i rfl hiS
                          obtain ⟨TK, hTK⟩ : ∃ T, T = str (keptD D2 i) := ⟨_, rfl⟩
                          have hkl := keptD_len (unhide HP2).dk.at_.ok hiS
                          obtain ⟨sb, sz, hso, hcs⟩ := (unhide HP2).rd.safe.at i (by rw [List.length_map, (unhide HAL).1.safe]; exact hiS)
                          have hkd : (R2.safe.map sc1)[i]'(by rw [List.length_map, (unhide HAL).1.safe]; exact hiS) = .string TK := by
                            rw [List.getElem_map, hTK]
                            unfold keptD
                            have : R2.safe[i]? = D2.safe[i]? := by rw [(unhide HAL).1.safe]
                            rw [← this, List.getElem?_eq_getElem (by rw [(unhide HAL).1.safe]; exact hiS)]
                            rfl
                          rw [hkd] at hcs
                          have HKA := hide ((unhide HGR).cell ((unhide HG5).cell hcs (by simp)) (by simp))
                          have HTK := hide (And.intro hTK hkl)
                          have HCS := hide cs
                          have HX1r := hide hx1r
                          have HQ0r := hide hq0r
                          clear hn0 hn1 cs hTK hkl hcs hkd hiS hin HL0
                          subst hso
                          go_upto_region 46 with (go_at_call 23; refine (unhide HCS).mono ?_; clear HCS; rintro e w8 ⟨a23, c23, rfl, hb23, -, g8⟩; have HB23 := hide hb23; have HG8 := hide g8; clear hb23 g8)
                          clear hx1r hq0r
                          have HX1b := hide ((unhide HG8).cell (unhide HX1r) (by simp))
                          have HQ0b := hide ((unhide HG8).cell (unhide HQ0r) (by simp))
                          have HK0 := hide ((unhide HG8).cell (unhide HKA) (by simp))
                          have HC23 : Hid (∀ V, w8.grownBy V none → (convert 33 9 (.slice a23 256 c23)).run Try.prog V = .ok (.string TK) V) := fun V hV => by rw [(unhide HTK).1]; exact conv_len ((unhide HB23).kept hV (fun _ e => by cases e)) (unhide HTK).2.symm
                          clear HX1 HQ0 HX1r HQ0r HKA HTK HB23 hi
                          have HX1 := HX1b
                          have HQ0 := HQ0b
                          refine wp_region_noPanic ?_
                          refine wp_region_held_drew (S := fun V => w8.grownBy V none) (by kernel_rfl) (gb_drew (gb_refl _ _)) (fun _ => ?_)
                          refine wpAnyH_take (i := 0) (oi := ⟨some 210, .move (.tmp 24), _, _, _, _⟩) (v := (.int .i64 0)) rfl (by kernel_rfl) (by kernel_rfl) (by kernel_rfl) (fun _ _ _ h => h) (Or.inl ⟨by rfl, fun V (hV : w8.grownBy V none) => by go_simp⟩) (gb_drew (gb_refl _ _)) ?_
                          (try simp only [Act.put, pq1, pq2, pq3])
                          refine wpAnyH_take (i := 1) (oi := ⟨some 211, .binOp .neq 24 (.tmp 210) (.const (.int .i64 0)) 24, _, _, _, _⟩) (v := (.bool false)) rfl (by kernel_rfl) (by kernel_rfl) (by kernel_rfl) (fun _ _ _ h => h) (Or.inl ⟨by rfl, fun V (hV : w8.grownBy V none) => by go_simp⟩) (gb_drew (gb_refl _ _)) ?_
                          (try simp only [Act.put, pq1, pq2, pq3])
                          refine wpAnyH_take (i := 2) (oi := ⟨some 212, .move (.tmp 211), _, _, _, _⟩) (v := (.bool false)) rfl (by kernel_rfl) (by kernel_rfl) (by kernel_rfl) (fun _ _ _ h => h) (Or.inl ⟨by rfl, fun V (hV : w8.grownBy V none) => by go_simp⟩) (gb_drew (gb_refl _ _)) ?_
                          (try simp only [Act.put, pq1, pq2, pq3])
                          refine wpAnyH_take (i := 3) (oi := ⟨some 213, .move (.tmp 23), _, _, _, _⟩) (v := (.slice a23 256 c23)) rfl (by kernel_rfl) (by kernel_rfl) (by kernel_rfl) (fun _ _ _ h => h) (Or.inl ⟨by rfl, fun V (hV : w8.grownBy V none) => by go_simp⟩) (gb_drew (gb_refl _ _)) ?_
                          (try simp only [Act.put, pq1, pq2, pq3])
                          refine wpAnyH_take (i := 4) (oi := ⟨some 214, .convert 33 9 (.tmp 213), _, _, _, _⟩) (v := (.string TK)) rfl (by kernel_rfl) (by kernel_rfl) (by kernel_rfl) (fun _ _ _ h => h) (Or.inl ⟨by rfl, fun V (hV : w8.grownBy V none) => by (have hv1 := unhide HC23 V hV; go_simp)⟩) (gb_drew (gb_refl _ _)) ?_
                          (try simp only [Act.put, pq1, pq2, pq3])
                          refine wpAnyH_take (i := 5) (oi := ⟨some 215, .fieldAddr 30 (.tmp 7) 0, _, _, _, _⟩) (v := (.pointer (some ⟨q, 0, none⟩))) rfl (by kernel_rfl) (by kernel_rfl) (by kernel_rfl) (fun _ _ _ h => h) (Or.inl ⟨by rfl, fun V (hV : w8.grownBy V none) => by go_simp⟩) (gb_drew (gb_refl _ _)) ?_
                          (try simp only [Act.put, pq1, pq2, pq3])
                          refine wpAnyH_take (i := 6) (oi := ⟨some 216, .load 27 (.tmp 215), _, _, _, _⟩) (v := (.slice (some ⟨sb, sz, none⟩) nS sc2)) rfl (by kernel_rfl) (by kernel_rfl) (by kernel_rfl) (fun _ _ _ h => h) (Or.inl ⟨by rfl, fun V (hV : w8.grownBy V none) => by (have hv1 := hV.cell (unhide HQ0) (by simp); go_simp)⟩) (gb_drew (gb_refl _ _)) ?_
                          (try simp only [Act.put, pq1, pq2, pq3])
                          refine wpAnyH_take (i := 7) (oi := ⟨some 217, .fieldAddr 36 (.tmp 10) 1, _, _, _, _⟩) (v := (.pointer (some ⟨pb, 1, none⟩))) rfl (by kernel_rfl) (by kernel_rfl) (by kernel_rfl) (fun _ _ _ h => h) (Or.inl ⟨by rfl, fun V (hV : w8.grownBy V none) => by go_simp⟩) (gb_drew (gb_refl _ _)) ?_
                          (try simp only [Act.put, pq1, pq2, pq3])
                          refine wpAnyH_take (i := 8) (oi := ⟨some 218, .load 3 (.tmp 217), _, _, _, _⟩) (v := (.int .i64 (i : Int))) rfl (by kernel_rfl) (by kernel_rfl) (by kernel_rfl) (fun _ _ _ h => h) (Or.inl ⟨by rfl, fun V (hV : w8.grownBy V none) => by (have hv1 := hV.cell (unhide HX1) (by simp); go_simp)⟩) (gb_drew (gb_refl _ _)) ?_
                          (try simp only [Act.put, pq1, pq2, pq3])
                          refine wpAnyH_take (i := 9) (oi := ⟨some 219, .indexAddr 27 (.tmp 216) (.tmp 218), _, _, _, _⟩) (v := (.pointer (some ⟨sb, sz + i, none⟩))) rfl (by kernel_rfl) (by kernel_rfl) (by kernel_rfl) (fun _ _ _ h => h) (Or.inl ⟨by rfl, fun V (hV : w8.grownBy V none) => by go_simp⟩) (gb_drew (gb_refl _ _)) ?_
                          (try simp only [Act.put, pq1, pq2, pq3])
                          refine wpAnyH_take (i := 10) (oi := ⟨some 220, .load 9 (.tmp 219), _, _, _, _⟩) (v := (.string TK)) rfl (by kernel_rfl) (by kernel_rfl) (by kernel_rfl) (fun _ _ _ h => h) (Or.inl ⟨by rfl, fun V (hV : w8.grownBy V none) => by (have hv1 := hV.cell (unhide HK0) (by simp); go_simp)⟩) (gb_drew (gb_refl _ _)) ?_
                          (try simp only [Act.put, pq1, pq2, pq3])
                          refine wpAnyH_take (i := 11) (oi := ⟨some 221, .binOp .neq 9 (.tmp 214) (.tmp 220) 9, _, _, _, _⟩) (v := (.bool false)) rfl (by kernel_rfl) (by kernel_rfl) (by kernel_rfl) (fun _ _ _ h => h) (Or.inl ⟨by rfl, fun V (hV : w8.grownBy V none) => by go_simp⟩) (gb_drew (gb_refl _ _)) ?_
                          (try simp only [Act.put, pq1, pq2, pq3])
                          refine wpAnyH_take (i := 12) (oi := ⟨some 222, .pick (.tmp 212) (.const (.bool true)) (.tmp 221), _, _, _, _⟩) (v := (.bool false)) rfl (by kernel_rfl) (by kernel_rfl) (by kernel_rfl) (fun _ _ _ h => h) (Or.inl ⟨by rfl, fun V (hV : w8.grownBy V none) => by go_simp⟩) (gb_drew (gb_refl _ _)) ?_
                          (try simp only [Act.put, pq1, pq2, pq3])
                          refine wpAnyH_done (by kernel_rfl) ?_ _
                          refine NoPanic.normal ?_
                          go_wp2
                          go_roundw
                          case rel => exact ⟨k + 1, D2, R2, F2, _, sc2, uo2, uc2, by go_num, by omega, by omega, unhide HFINR _ (gb_drew (unhide HG8))⟩
                          case measure => simp [intOf]; omega
            · have h60i : ¬ (k : Int) < 60 := by omega
              have co := dkone_any wr
              have HG := hide (unhide HR).1.dk.gb
              clear HR hdk2
              go_wp2_with (go_at_call 24; refine co.mono ?_; rintro e w5 ⟨rfl, g5⟩; have HG5 := hide (tn (unhide HG) g5); clear co g5)
              go_ret
              exact ⟨rfl, unhide HG5⟩
          · have hdi : ¬ (k : Int) < (n2 : Int) := by omega
            have co := dkone_any wr
            have HG := hide (unhide HR).1.dk.gb
            clear HR
            go_wp2_with (go_at_call 24; refine co.mono ?_; rintro e w5 ⟨rfl, g5⟩; have HG5 := hide (tn (unhide HG) g5); clear co g5)
            go_ret
            exact ⟨rfl, unhide HG5⟩

end Go.Proofs.Ytfaipdifkmjdeaa
