/- DiskNobody: the walk. -/
import Derived.Test.YtfaipdifkmjdeaaDkFt
namespace Go.Proofs.Ytfaipdifkmjdeaa
open Go.RowKit

theorem plain_disk (V : World) : Blk (V.alloc (.cells #[.slice none 0 0, .slice none 0 0, .map none, .int .i64 0, .bool false] 61)) V.heap.size 61 [.slice none 0 0, .slice none 0 0, .map none, .int .i64 0, .bool false] := Blk.new V _ _

set_option maxRecDepth 100000 in
set_option maxHeartbeats 4000000 in
theorem walk_dnobody (w : World) (p : ActD) : Calls Try.prog 5 #[.agg (acC p).toArray] w fun e w' => e = .returned (.bool true) ∧ w.grownBy w' none := by
  obtain ⟨W0, hW0, hB0, g0⟩ := box_new w 36 (acC p)
  have hst : w.grownBy W0 none ∧ Blk W0 w.heap.size 36 (acC p) := ⟨g0, hB0⟩
  have HST := hide hst
  obtain ⟨q, hq⟩ : ∃ q, q = w.heap.size := ⟨_, rfl⟩
  rw [← hq] at HST
  have HW0 := hide (show W0 = w.alloc (.cells #[.int .i64 p.kind, .int .i64 p.n, .slice p.bo p.be.length p.bc, .slice p.fo p.fl.length p.fc] 36) from hW0)
  have HQ := hide hq
  clear hst g0 hB0 hW0 hq
  rw [show (acC p).toArray = #[.int .i64 p.kind, .int .i64 p.n, .slice p.bo p.be.length p.bc, .slice p.fo p.fl.length p.fc] from rfl]
  go_enter Try.func5, Try.ntmps5
  go_wp2_with (rw [← unhide HW0, ← unhide HQ])
  go_loopw [3] (fun i wr => ∃ j : Nat, i = .int .i64 j ∧ j ≤ 2 ∧ Hid (w.grownBy wr none ∧ Blk wr q 36 (acC p))) (fun i _ => 2 - (intOf i).toNat)
  case atStart => exact ⟨0, rfl, Nat.zero_le _, HST⟩
  case round =>
    obtain ⟨j, rfl, hj, HR⟩ := hrel
    by_cases hlt : j < 2
    · obtain ⟨W1, hW1⟩ : ∃ W, W = wr.alloc (.cells #[.slice none 0 0, .slice none 0 0, .map none, .int .i64 0, .bool false] 61) := ⟨_, rfl⟩
      have hB1 : Blk W1 wr.heap.size 61 [.slice none 0 0, .slice none 0 0, .map none, .int .i64 0, .bool false] := by rw [hW1]; exact plain_disk wr
      have g1 : wr.grownBy W1 none := by rw [hW1]; exact gb_alloc (gb_refl _ _) _
      have hA1 := (unhide HR).2.kept g1 (by simp)
      have hn1 : W1.cell? ⟨q, 1, none⟩ = some (.int .i64 p.n) := by rw [hA1.cell]; rfl
      have G1 := tn (unhide HR).1 g1
      obtain ⟨d, hd⟩ : ∃ d, d = wr.heap.size := ⟨_, rfl⟩
      rw [← hd] at hB1
      have HW1 := hide hW1
      have HD := hide hd
      clear hW1 hd HR g1
      rcases (show j = 0 ∨ j = 1 by omega) with rfl | rfl
      · have hN : NoDk W1 (some ⟨d, 0, none⟩) := noDk_plain hB1
        obtain ⟨po, hpo⟩ : ∃ po, po = some (⟨d, 0, none⟩ : Addr) := ⟨_, rfl⟩
        rw [← hpo] at hN
        have HPO := hide hpo
        have HA1 := hide hA1
        have HG1 := hide G1
        have HN := hide hN
        clear hpo hB1 hA1 G1 hN
        go_upto_region 7 with (rw [← unhide HW1, ← unhide HD, ← unhide HPO])
        go_upto_region 9 with (first
          | (go_at_call 14; refine (narm_any _ _ (unhide HN) _).mono ?_; rintro e w2 ⟨rfl, e2⟩; subst w2)
          | (go_at_call 15; refine (nfall_any _ _ (unhide HN)).mono ?_; rintro e w2 ⟨rfl, g2⟩; have HN2 := hide ((unhide HN).nn g2); have HG9 := hide (tn (unhide HG1) g2); have HA9 := hide ((unhide HA1).kept g2 (by simp)); clear g2))
        have hn2 : w2.cell? ⟨q, 1, none⟩ = some (.int .i64 p.n) := by rw [(unhide HA9).cell]; rfl
        go_upto_region 11 with (first
          | (go_at_call 18; refine (nread_any _ _ (unhide HN2) _).mono ?_; rintro e w3 ⟨rfl, e2⟩; subst w3)
          | (go_at_call 23; refine (nsafe_any _ _ (unhide HN2) _).mono ?_; rintro e w3 ⟨rfl, e2⟩; subst w3))
        refine region_named fun O hO => ?_
        refine wpList_val (by rw [hO]; kernel_rfl) (.int .i64 1) (fun K9 hK9 => by go_simp; exact hK9) ?_
        (try simp only [Act.put, pq1, pq2, pq3])
        refine wpList_val (by rw [hO]; kernel_rfl) (.bool false) (fun K9 hK9 => by go_simp; exact hK9) ?_
        (try simp only [Act.put, pq1, pq2, pq3])
        refine wpList_val (by rw [hO]; kernel_rfl) (.bool false) (fun K9 hK9 => by go_simp; exact hK9) ?_
        (try simp only [Act.put, pq1, pq2, pq3])
        refine wpList_val (by rw [hO]; kernel_rfl) (.int .i64 1) (fun K9 hK9 => by go_simp; exact hK9) ?_
        (try simp only [Act.put, pq1, pq2, pq3])
        refine wpList_val (by rw [hO]; kernel_rfl) (.bool false) (fun K9 hK9 => by go_simp; exact hK9) ?_
        (try simp only [Act.put, pq1, pq2, pq3])
        refine wpList_val (by rw [hO]; kernel_rfl) (.bool false) (fun K9 hK9 => by go_simp; exact hK9) ?_
        (try simp only [Act.put, pq1, pq2, pq3])
        refine wpList_val (by rw [hO]; kernel_rfl) (.bool false) (fun K9 hK9 => by go_simp; exact hK9) ?_
        (try simp only [Act.put, pq1, pq2, pq3])
        refine wpList_val (by rw [hO]; kernel_rfl) (.pointer po) (fun K9 hK9 => by go_simp; exact hK9) ?_
        (try simp only [Act.put, pq1, pq2, pq3])
        refine wpList_val (by rw [hO]; kernel_rfl) (.pointer (some ⟨q, 1, none⟩)) (fun K9 hK9 => by go_simp; exact hK9) ?_
        (try simp only [Act.put, pq1, pq2, pq3])
        refine wpList_val (by rw [hO]; kernel_rfl) (.int .i64 p.n) (fun K9 hK9 => by go_simp; exact hK9) ?_
        (try simp only [Act.put, pq1, pq2, pq3])
        refine wpList_want (by rw [hO]; kernel_rfl) fun K9 hK9 => ?_
        go_simp
        go_at_call 11
        refine (nwrite_any _ _ (unhide HN2) _ _).mono ?_
        rintro e w3 ⟨rfl, e3⟩
        subst w3
        refine hK9 _ _ ?_
        clear hK9 K9
        (try simp only [Act.put, pq1, pq2, pq3])
        refine wpList_val (by rw [hO]; kernel_rfl) (.bool false) (fun K9 hK9 => by go_simp; exact hK9) ?_
        (try simp only [Act.put, pq1, pq2, pq3])
        refine wpList_val (by rw [hO]; kernel_rfl) (.bool false) (fun K9 hK9 => by go_simp; exact hK9) ?_
        (try simp only [Act.put, pq1, pq2, pq3])
        refine wpList_val (by rw [hO]; kernel_rfl) (.bool false) (fun K9 hK9 => by go_simp; exact hK9) ?_
        (try simp only [Act.put, pq1, pq2, pq3])
        refine wpList_val (by rw [hO]; kernel_rfl) (.pointer po) (fun K9 hK9 => by go_simp; exact hK9) ?_
        (try simp only [Act.put, pq1, pq2, pq3])
        refine wpList_want (by rw [hO]; kernel_rfl) fun K9 hK9 => ?_
        go_simp
        go_at_call 13
        refine (nsync_any _ _ (unhide HN2)).mono ?_
        rintro e w3 ⟨rfl, e3⟩
        subst w3
        refine hK9 _ _ ?_
        clear hK9 K9
        (try simp only [Act.put, pq1, pq2, pq3])
        refine wpList_val (by rw [hO]; kernel_rfl) (.bool false) (fun K9 hK9 => by go_simp; exact hK9) ?_
        (try simp only [Act.put, pq1, pq2, pq3])
        refine wpList_val (by rw [hO]; kernel_rfl) (.bool false) (fun K9 hK9 => by go_simp; exact hK9) ?_
        (try simp only [Act.put, pq1, pq2, pq3])
        refine wpList_val (by rw [hO]; kernel_rfl) (.bool false) (fun K9 hK9 => by go_simp; exact hK9) ?_
        (try simp only [Act.put, pq1, pq2, pq3])
        refine wpList_val (by rw [hO]; kernel_rfl) (.pointer po) (fun K9 hK9 => by go_simp; exact hK9) ?_
        (try simp only [Act.put, pq1, pq2, pq3])
        refine wpList_want (by rw [hO]; kernel_rfl) fun K9 hK9 => ?_
        go_simp
        go_at_call 21
        refine (ndown_any _ _ (unhide HN2)).mono ?_
        rintro e w3 ⟨rfl, e3⟩
        subst w3
        refine hK9 _ _ ?_
        clear hK9 K9
        (try simp only [Act.put, pq1, pq2, pq3])
        refine wpList_val (by rw [hO]; kernel_rfl) (.bool false) (fun K9 hK9 => by go_simp; exact hK9) ?_
        (try simp only [Act.put, pq1, pq2, pq3])
        refine wpList_val (by rw [hO]; kernel_rfl) (.bool false) (fun K9 hK9 => by go_simp; exact hK9) ?_
        (try simp only [Act.put, pq1, pq2, pq3])
        refine wpList_val (by rw [hO]; kernel_rfl) (.pointer po) (fun K9 hK9 => by go_simp; exact hK9) ?_
        (try simp only [Act.put, pq1, pq2, pq3])
        refine wpList_want (by rw [hO]; kernel_rfl) fun K9 hK9 => ?_
        go_simp
        go_at_call 22
        refine (nsect_any _ _ (unhide HN2)).mono ?_
        rintro e w3 ⟨rfl, e3⟩
        subst w3
        refine hK9 _ _ ?_
        clear hK9 K9
        (try simp only [Act.put, pq1, pq2, pq3])
        refine wpList_val (by rw [hO]; kernel_rfl) (.pointer po) (fun K9 hK9 => by go_simp; exact hK9) ?_
        (try simp only [Act.put, pq1, pq2, pq3])
        refine wpList_want (by rw [hO]; kernel_rfl) fun K9 hK9 => ?_
        go_simp
        go_at_call 20
        refine (nunder_any _ _ (unhide HN2)).mono ?_
        rintro e w3 ⟨rfl, e3⟩
        subst w3
        refine hK9 _ _ ?_
        clear hK9 K9
        (try simp only [Act.put, pq1, pq2, pq3])
        refine wpList_val (by rw [hO]; kernel_rfl) (.int .i64 0) (fun K9 hK9 => by go_simp; exact hK9) ?_
        (try simp only [Act.put, pq1, pq2, pq3])
        refine wpList_val (by rw [hO]; kernel_rfl) (.int .i64 0) (fun K9 hK9 => by go_simp; exact hK9) ?_
        (try simp only [Act.put, pq1, pq2, pq3])
        refine wpList_val (by rw [hO]; kernel_rfl) (.bool false) (fun K9 hK9 => by go_simp; exact hK9) ?_
        (try simp only [Act.put, pq1, pq2, pq3])
        refine wpList_val (by rw [hO]; kernel_rfl) (.bool false) (fun K9 hK9 => by go_simp; exact hK9) ?_
        (try simp only [Act.put, pq1, pq2, pq3])
        refine wpList_val (by rw [hO]; kernel_rfl) (.bool false) (fun K9 hK9 => by go_simp; exact hK9) ?_
        (try simp only [Act.put, pq1, pq2, pq3])
        refine wpList_val (by rw [hO]; kernel_rfl) (.pointer po) (fun K9 hK9 => by go_simp; exact hK9) ?_
        (try simp only [Act.put, pq1, pq2, pq3])
        refine wpList_want (by rw [hO]; kernel_rfl) fun K9 hK9 => ?_
        go_simp
        go_at_call 25
        refine (nclone_any _ _ (unhide HN2)).mono ?_
        rintro e w3 ⟨rfl, e3⟩
        subst w3
        refine hK9 _ _ ?_
        clear hK9 K9
        (try simp only [Act.put, pq1, pq2, pq3])
        refine wpList_val (by rw [hO]; kernel_rfl) (.bool false) (fun K9 hK9 => by go_simp; exact hK9) ?_
        (try simp only [Act.put, pq1, pq2, pq3])
        refine wpList_val (by rw [hO]; kernel_rfl) (.bool false) (fun K9 hK9 => by go_simp; exact hK9) ?_
        (try simp only [Act.put, pq1, pq2, pq3])
        go_wp2
        go_roundw
        case rel => exact ⟨1, by go_num, by omega, unhide HG9, unhide HA9⟩
        case measure => simp [intOf]
      · have hN : NoDk W1 none := noDk_nil W1
        obtain ⟨po, hpo⟩ : ∃ po, po = (none : Option Addr) := ⟨_, rfl⟩
        rw [← hpo] at hN
        have HPO := hide hpo
        have HA1 := hide hA1
        have HG1 := hide G1
        have HN := hide hN
        clear hpo hB1 hA1 G1 hN
        go_upto_region 7 with (rw [← unhide HW1, ← unhide HD])
        rw [← unhide HPO]
        go_upto_region 9 with (first
          | (go_at_call 14; refine (narm_any _ _ (unhide HN) _).mono ?_; rintro e w2 ⟨rfl, e2⟩; subst w2)
          | (go_at_call 15; refine (nfall_any _ _ (unhide HN)).mono ?_; rintro e w2 ⟨rfl, g2⟩; have HN2 := hide ((unhide HN).nn g2); have HG9 := hide (tn (unhide HG1) g2); have HA9 := hide ((unhide HA1).kept g2 (by simp)); clear g2))
        have hn2 : w2.cell? ⟨q, 1, none⟩ = some (.int .i64 p.n) := by rw [(unhide HA9).cell]; rfl
        go_upto_region 11 with (first
          | (go_at_call 18; refine (nread_any _ _ (unhide HN2) _).mono ?_; rintro e w3 ⟨rfl, e2⟩; subst w3)
          | (go_at_call 23; refine (nsafe_any _ _ (unhide HN2) _).mono ?_; rintro e w3 ⟨rfl, e2⟩; subst w3))
        refine region_named fun O hO => ?_
        refine wpList_val (by rw [hO]; kernel_rfl) (.int .i64 1) (fun K9 hK9 => by go_simp; exact hK9) ?_
        (try simp only [Act.put, pq1, pq2, pq3])
        refine wpList_val (by rw [hO]; kernel_rfl) (.bool false) (fun K9 hK9 => by go_simp; exact hK9) ?_
        (try simp only [Act.put, pq1, pq2, pq3])
        refine wpList_val (by rw [hO]; kernel_rfl) (.bool false) (fun K9 hK9 => by go_simp; exact hK9) ?_
        (try simp only [Act.put, pq1, pq2, pq3])
        refine wpList_val (by rw [hO]; kernel_rfl) (.int .i64 1) (fun K9 hK9 => by go_simp; exact hK9) ?_
        (try simp only [Act.put, pq1, pq2, pq3])
        refine wpList_val (by rw [hO]; kernel_rfl) (.bool false) (fun K9 hK9 => by go_simp; exact hK9) ?_
        (try simp only [Act.put, pq1, pq2, pq3])
        refine wpList_val (by rw [hO]; kernel_rfl) (.bool false) (fun K9 hK9 => by go_simp; exact hK9) ?_
        (try simp only [Act.put, pq1, pq2, pq3])
        refine wpList_val (by rw [hO]; kernel_rfl) (.bool false) (fun K9 hK9 => by go_simp; exact hK9) ?_
        (try simp only [Act.put, pq1, pq2, pq3])
        refine wpList_val (by rw [hO]; kernel_rfl) (.pointer po) (fun K9 hK9 => by go_simp; exact hK9) ?_
        (try simp only [Act.put, pq1, pq2, pq3])
        refine wpList_val (by rw [hO]; kernel_rfl) (.pointer (some ⟨q, 1, none⟩)) (fun K9 hK9 => by go_simp; exact hK9) ?_
        (try simp only [Act.put, pq1, pq2, pq3])
        refine wpList_val (by rw [hO]; kernel_rfl) (.int .i64 p.n) (fun K9 hK9 => by go_simp; exact hK9) ?_
        (try simp only [Act.put, pq1, pq2, pq3])
        refine wpList_want (by rw [hO]; kernel_rfl) fun K9 hK9 => ?_
        go_simp
        go_at_call 11
        refine (nwrite_any _ _ (unhide HN2) _ _).mono ?_
        rintro e w3 ⟨rfl, e3⟩
        subst w3
        refine hK9 _ _ ?_
        clear hK9 K9
        (try simp only [Act.put, pq1, pq2, pq3])
        refine wpList_val (by rw [hO]; kernel_rfl) (.bool false) (fun K9 hK9 => by go_simp; exact hK9) ?_
        (try simp only [Act.put, pq1, pq2, pq3])
        refine wpList_val (by rw [hO]; kernel_rfl) (.bool false) (fun K9 hK9 => by go_simp; exact hK9) ?_
        (try simp only [Act.put, pq1, pq2, pq3])
        refine wpList_val (by rw [hO]; kernel_rfl) (.bool false) (fun K9 hK9 => by go_simp; exact hK9) ?_
        (try simp only [Act.put, pq1, pq2, pq3])
        refine wpList_val (by rw [hO]; kernel_rfl) (.pointer po) (fun K9 hK9 => by go_simp; exact hK9) ?_
        (try simp only [Act.put, pq1, pq2, pq3])
        refine wpList_want (by rw [hO]; kernel_rfl) fun K9 hK9 => ?_
        go_simp
        go_at_call 13
        refine (nsync_any _ _ (unhide HN2)).mono ?_
        rintro e w3 ⟨rfl, e3⟩
        subst w3
        refine hK9 _ _ ?_
        clear hK9 K9
        (try simp only [Act.put, pq1, pq2, pq3])
        refine wpList_val (by rw [hO]; kernel_rfl) (.bool false) (fun K9 hK9 => by go_simp; exact hK9) ?_
        (try simp only [Act.put, pq1, pq2, pq3])
        refine wpList_val (by rw [hO]; kernel_rfl) (.bool false) (fun K9 hK9 => by go_simp; exact hK9) ?_
        (try simp only [Act.put, pq1, pq2, pq3])
        refine wpList_val (by rw [hO]; kernel_rfl) (.bool false) (fun K9 hK9 => by go_simp; exact hK9) ?_
        (try simp only [Act.put, pq1, pq2, pq3])
        refine wpList_val (by rw [hO]; kernel_rfl) (.pointer po) (fun K9 hK9 => by go_simp; exact hK9) ?_
        (try simp only [Act.put, pq1, pq2, pq3])
        refine wpList_want (by rw [hO]; kernel_rfl) fun K9 hK9 => ?_
        go_simp
        go_at_call 21
        refine (ndown_any _ _ (unhide HN2)).mono ?_
        rintro e w3 ⟨rfl, e3⟩
        subst w3
        refine hK9 _ _ ?_
        clear hK9 K9
        (try simp only [Act.put, pq1, pq2, pq3])
        refine wpList_val (by rw [hO]; kernel_rfl) (.bool false) (fun K9 hK9 => by go_simp; exact hK9) ?_
        (try simp only [Act.put, pq1, pq2, pq3])
        refine wpList_val (by rw [hO]; kernel_rfl) (.bool false) (fun K9 hK9 => by go_simp; exact hK9) ?_
        (try simp only [Act.put, pq1, pq2, pq3])
        refine wpList_val (by rw [hO]; kernel_rfl) (.pointer po) (fun K9 hK9 => by go_simp; exact hK9) ?_
        (try simp only [Act.put, pq1, pq2, pq3])
        refine wpList_want (by rw [hO]; kernel_rfl) fun K9 hK9 => ?_
        go_simp
        go_at_call 22
        refine (nsect_any _ _ (unhide HN2)).mono ?_
        rintro e w3 ⟨rfl, e3⟩
        subst w3
        refine hK9 _ _ ?_
        clear hK9 K9
        (try simp only [Act.put, pq1, pq2, pq3])
        refine wpList_val (by rw [hO]; kernel_rfl) (.pointer po) (fun K9 hK9 => by go_simp; exact hK9) ?_
        (try simp only [Act.put, pq1, pq2, pq3])
        refine wpList_want (by rw [hO]; kernel_rfl) fun K9 hK9 => ?_
        go_simp
        go_at_call 20
        refine (nunder_any _ _ (unhide HN2)).mono ?_
        rintro e w3 ⟨rfl, e3⟩
        subst w3
        refine hK9 _ _ ?_
        clear hK9 K9
        (try simp only [Act.put, pq1, pq2, pq3])
        refine wpList_val (by rw [hO]; kernel_rfl) (.int .i64 0) (fun K9 hK9 => by go_simp; exact hK9) ?_
        (try simp only [Act.put, pq1, pq2, pq3])
        refine wpList_val (by rw [hO]; kernel_rfl) (.int .i64 0) (fun K9 hK9 => by go_simp; exact hK9) ?_
        (try simp only [Act.put, pq1, pq2, pq3])
        refine wpList_val (by rw [hO]; kernel_rfl) (.bool false) (fun K9 hK9 => by go_simp; exact hK9) ?_
        (try simp only [Act.put, pq1, pq2, pq3])
        refine wpList_val (by rw [hO]; kernel_rfl) (.bool false) (fun K9 hK9 => by go_simp; exact hK9) ?_
        (try simp only [Act.put, pq1, pq2, pq3])
        refine wpList_val (by rw [hO]; kernel_rfl) (.bool false) (fun K9 hK9 => by go_simp; exact hK9) ?_
        (try simp only [Act.put, pq1, pq2, pq3])
        refine wpList_val (by rw [hO]; kernel_rfl) (.pointer po) (fun K9 hK9 => by go_simp; exact hK9) ?_
        (try simp only [Act.put, pq1, pq2, pq3])
        refine wpList_want (by rw [hO]; kernel_rfl) fun K9 hK9 => ?_
        go_simp
        go_at_call 25
        refine (nclone_any _ _ (unhide HN2)).mono ?_
        rintro e w3 ⟨rfl, e3⟩
        subst w3
        refine hK9 _ _ ?_
        clear hK9 K9
        (try simp only [Act.put, pq1, pq2, pq3])
        refine wpList_val (by rw [hO]; kernel_rfl) (.bool false) (fun K9 hK9 => by go_simp; exact hK9) ?_
        (try simp only [Act.put, pq1, pq2, pq3])
        refine wpList_val (by rw [hO]; kernel_rfl) (.bool false) (fun K9 hK9 => by go_simp; exact hK9) ?_
        (try simp only [Act.put, pq1, pq2, pq3])
        go_wp2
        go_roundw
        case rel => exact ⟨2, by go_num, by omega, unhide HG9, unhide HA9⟩
        case measure => simp [intOf]
    · have hjn : ¬ (j : Int) < 2 := by omega
      have co := dkone_any wr
      have HG := hide (unhide HR).1
      clear HR
      go_wp2_with (go_at_call 24; refine co.mono ?_; rintro e w5 ⟨rfl, g5⟩; have HG5 := hide (tn (unhide HG) g5); clear co g5)
      go_ret
      exact ⟨rfl, unhide HG5⟩

end Go.Proofs.Ytfaipdifkmjdeaa
