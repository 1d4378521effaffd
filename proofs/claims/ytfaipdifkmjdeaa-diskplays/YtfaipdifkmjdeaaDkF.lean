/- What disk's first answers: a sector's first write, which goes out of those under way. -/
import Derived.Test.YtfaipdifkmjdeaaDkWr
namespace Go.Proofs.Ytfaipdifkmjdeaa
open Go.RowKit

theorem size_secs (w : World) : (Go.sizeOf 70).run Try.prog w = .ok 256 w := by kernel_rfl
set_option maxRecDepth 100000 in
set_option maxHeartbeats 4000000 in
theorem dfirst_any (w : World) (d m : Nat) (K : List (Nat × Value)) (hd : w.cell? ⟨d, 2, none⟩ = some (.map (some m))) (hdm : d ≠ m) (hM : ImapAt w m K) (i b o k c : Nat) (hget : getI K i = some (.slice (some ⟨b, o, none⟩) (k + 1) c)) (hc : k + 1 ≤ c) (EB : List Value) (hEl : EB.length = 256) (hE1 : ∀ u ∈ EB, u.oneCell' = true) (hr : w.rangeAt b o EB) (hbm : b ≠ m) :
    Calls Try.prog 41 #[.pointer (some ⟨d, 0, none⟩), .int .i64 (i : Int)] w fun e w' => e = .returned (.agg EB.toArray) ∧ ImapAt w' m (if k = 0 then delI K i else putI K i (.slice (cutK (some ⟨b, o, none⟩) c 1 256) k (c - 1))) ∧ w.grownBy w' (some m) := by
  obtain ⟨Z, hZ, hzv⟩ := zero_secA
  have hEo : EB.toArray.all (·.oneCell') = true := all_oneCell_toArray hE1
  have hiE : (Try.prog.info? 70).map (·.size) = some EB.length := by rw [hEl]; exact info_secs
  have hiE2 : (Try.prog.info? 70).map (·.size) = some EB.toArray.size := by rw [List.size_toArray]; exact hiE
  have hZE : Z.toList.toArray.size = EB.toArray.size := by simp [hZ, hEl]
  obtain ⟨W1, hW1⟩ : ∃ W, W = w.alloc (.cells Z 70) := ⟨_, rfl⟩
  have hBZ : Blk W1 w.heap.size 70 Z.toList := by rw [hW1]; simpa using Blk.new w 70 Z.toList
  have g1 : w.grownBy W1 none := by rw [hW1]; exact gb_alloc (gb_refl _ _) _
  have hM1 := hM.none g1
  have hd1 := g1.cell hd (by simp)
  have hr1 := range_kept hr g1 (by simp)
  have hqm : some w.heap.size ≠ some m := fun e => hM1.blk hBZ (by cases e; rfl)
  have hlk := hM1.look 59 58 Try.underlying59 (.slice none 0 0) (zero_secs W1) i false
  rw [hget] at hlk
  unfold keyN at hlk
  simp only [Bool.false_eq_true, if_false, Option.getD_some] at hlk
  have HIE := hide hiE
  have HIE2 := hide hiE2
  have HZE := hide hZE
  have HEO := hide hEo
  have HW1 := hide hW1
  by_cases hk : k = 0
  · subst hk
    rw [if_pos rfl]
    obtain ⟨W2, hdel, hM2, g2, -⟩ := hM1.del 59 58 0 #[59, 3] rfl Try.underlying59 i
    have hdl : ∀ U, (Builtin.delete_ #[59, 3] U #[.map (some m), .int .i64 (i : Int)]).run Try.prog W1 = .ok (.tuple #[]) W2 := fun U => hdel
    have hB2 := hBZ.kept g2 hqm
    have hr2 := range_kept hr1 g2 (fun e => hbm (by cases e; rfl))
    have G2 : w.grownBy W2 (some m) := gb_trans (gb_none _ g1) g2 (fun _ e => Or.inr e)
    have hfin : ImapAt (W2.setRow w.heap.size EB.toArray) m (delI K i) ∧ w.grownBy (W2.setRow w.heap.size EB.toArray) (some m) :=
      ⟨hM2.kept (gb_row (gb_refl W2 (some w.heap.size)) _ (Or.inr rfl)) (Ne.symm hqm), gb_row G2 _ (Or.inl (Nat.le_refl _))⟩
    have HF := hide hfin
    have HB2 := hide hB2
    clear hiE hiE2 hZE hEo hW1 hBZ hM hM1 hM2 hd hr hr1 hE1 hZ g1 g2 G2 hB2 hfin hget hqm hdel hEl hbm hc
    go_enter Try.func41, Try.ntmps41
    go_wp2_with (first
      | rw [← unhide HW1]
      | (refine wpList_load_mid rfl 70 _ rfl b o rfl EB _ hr2 Try.underlying70 rfl (unhide HIE) ?_; clear hr2)
      | (have hB9 := unhide HB2; refine wpList_store_row rfl 70 _ _ rfl w.heap.size EB.toArray rfl rfl _ _ hB9 (unhide HIE2) (unhide HZE) (unhide HEO) ?_; clear hB9))
    refine bodyPost_ret (results_cell_row rfl _ _ _ _ _ _ _ rfl ((unhide HB2).row EB) Try.underlying70 rfl (unhide HIE2)) rfl ?_
    exact ⟨rfl, unhide HF⟩
  · rw [if_neg hk]
    have gd : W1.grownBy W1.drew none := gb_drew (gb_refl _ _)
    have hsl : ∀ V : World, (Instr.slice 58 (.slice (some ⟨b, o, none⟩) (k + 1) c) (some (.int .i64 ((1 : Nat) : Int))) none none).run Try.prog V = .ok (.slice (cutK (some ⟨b, o, none⟩) c 1 256) (k + 1 - 1) (c - 1)) V := fun V => slice_fromK V 58 70 256 Try.underlying58 size_secs (some ⟨b, o, none⟩) (k + 1) c 1 (by omega)
    rw [Nat.add_sub_cancel] at hsl
    obtain ⟨v1, hv1⟩ : ∃ v, v = Value.slice (cutK (some ⟨b, o, none⟩) c 1 256) k (c - 1) := ⟨_, rfl⟩
    rw [← hv1] at hsl ⊢
    obtain ⟨W2, hup, hM2, g2, -⟩ := (hM1.none gd).store 59 58 Try.underlying59 i v1
    unfold keyN at hup
    have G12 : W1.grownBy W2 (some m) := gb_trans (gb_none _ gd) g2 (fun _ e => Or.inr e)
    have hB2 := hBZ.kept G12 hqm
    have hr2 := range_kept hr1 G12 (fun e => hbm (by cases e; rfl))
    have G2 : w.grownBy W2 (some m) := gb_trans (gb_none _ g1) G12 (fun _ e => Or.inr e)
    have hfin : ImapAt (W2.setRow w.heap.size EB.toArray) m (putI K i v1) ∧ w.grownBy (W2.setRow w.heap.size EB.toArray) (some m) :=
      ⟨hM2.kept (gb_row (gb_refl W2 (some w.heap.size)) _ (Or.inr rfl)) (Ne.symm hqm), gb_row G2 _ (Or.inl (Nat.le_refl _))⟩
    have hS1 : W1.drew.cell? ⟨d, 2, none⟩ = some (.map (some m)) := gd.cell hd1 (by simp)
    have hS2 : W2.cell? ⟨d, 2, none⟩ = some (.map (some m)) := G12.cell hd1 (fun e => hdm (by cases e; rfl))
    have HF := hide hfin
    have HB2 := hide hB2
    have HS1 := hide hS1
    have HS2 := hide hS2
    have hk1 : decide (((k + 1 : Nat) : Int) = 1) = false := by simp; omega
    have hk2 : ¬ ((k : Int) + 1 = 1) := by omega
    have hk3 : ¬ (k + 1 = 1) := by omega
    clear hv1 hiE hiE2 hZE hEo hW1 hBZ hM hM1 hM2 hd hr hr1 hE1 hZ g1 g2 G2 hB2 hfin hget hqm hEl hbm hc gd hS1 hS2 G12 hdm
    go_enter Try.func41, Try.ntmps41
    go_upto_region 4 with (rw [← unhide HW1])
    refine wp_region_noPanic ?_
    refine wp_region_held_drew (S := fun V => V.cell? ⟨d, 2, none⟩ = some (.map (some m))) (by kernel_rfl) (unhide HS1) (fun _ => ?_)
    refine wpAnyH_take (i := 0) (oi := ⟨some 20, .move (.tmp 0), _, _, _, _⟩) (v := (.pointer (some ⟨d, 0, none⟩))) rfl (by kernel_rfl) (by kernel_rfl) (by kernel_rfl) (fun _ _ _ h => h) (Or.inl ⟨by rfl, fun V (hV : V.cell? ⟨d, 2, none⟩ = some (.map (some m))) => by go_simp⟩) (unhide HS1) ?_
    (try simp only [Act.put, pq1, pq2, pq3])
    refine wpAnyH_take (i := 1) (oi := ⟨some 21, .nilCheck (.tmp 20), _, _, _, _⟩) (v := (.pointer (some ⟨d, 0, none⟩))) rfl (by kernel_rfl) (by kernel_rfl) (by kernel_rfl) (fun _ _ _ h => h) (Or.inl ⟨by rfl, fun V (hV : V.cell? ⟨d, 2, none⟩ = some (.map (some m))) => by go_simp⟩) (unhide HS1) ?_
    (try simp only [Act.put, pq1, pq2, pq3])
    refine wpAnyH_take (i := 2) (oi := ⟨some 22, .fieldAddr 61 (.tmp 21) 2, _, _, _, _⟩) (v := (.pointer (some ⟨d, 2, none⟩))) rfl (by kernel_rfl) (by kernel_rfl) (by kernel_rfl) (fun _ _ _ h => h) (Or.inl ⟨by rfl, fun V (hV : V.cell? ⟨d, 2, none⟩ = some (.map (some m))) => by go_simp⟩) (unhide HS1) ?_
    (try simp only [Act.put, pq1, pq2, pq3])
    refine wpAnyH_take (i := 3) (oi := ⟨some 23, .load 59 (.tmp 22), _, _, _, _⟩) (v := (.map (some m))) rfl (by kernel_rfl) (by kernel_rfl) (by kernel_rfl) (fun _ _ _ h => h) (Or.inl ⟨by rfl, fun V (hV : V.cell? ⟨d, 2, none⟩ = some (.map (some m))) => by (have hv2 := hV; go_simp)⟩) (unhide HS1) ?_
    (try simp only [Act.put, pq1, pq2, pq3])
    refine wpAnyH_take (i := 4) (oi := ⟨some 24, .move (.tmp 1), _, _, _, _⟩) (v := (.int .i64 (i : Int))) rfl (by kernel_rfl) (by kernel_rfl) (by kernel_rfl) (fun _ _ _ h => h) (Or.inl ⟨by rfl, fun V (hV : V.cell? ⟨d, 2, none⟩ = some (.map (some m))) => by go_simp⟩) (unhide HS1) ?_
    (try simp only [Act.put, pq1, pq2, pq3])
    refine wpAnyH_take (i := 5) (oi := ⟨some 25, .move (.tmp 5), _, _, _, _⟩) (v := (.slice (some ⟨b, o, none⟩) (k + 1) c)) rfl (by kernel_rfl) (by kernel_rfl) (by kernel_rfl) (fun _ _ _ h => h) (Or.inl ⟨by rfl, fun V (hV : V.cell? ⟨d, 2, none⟩ = some (.map (some m))) => by go_simp⟩) (unhide HS1) ?_
    (try simp only [Act.put, pq1, pq2, pq3])
    refine wpAnyH_take (i := 6) (oi := ⟨some 26, .slice 58 (.tmp 25) (some (.const (.int .i64 1))) none none, _, _, _, _⟩) (v := (v1)) rfl (by kernel_rfl) (by kernel_rfl) (by kernel_rfl) (fun _ _ _ h => h) (Or.inl ⟨by rfl, fun V (hV : V.cell? ⟨d, 2, none⟩ = some (.map (some m))) => by (have hs1 := hsl V; simp only [Int.natCast_one] at hs1; go_simp)⟩) (unhide HS1) ?_
    (try simp only [Act.put, pq1, pq2, pq3])
    refine wpAnyH_ready (rs := [7]) (by kernel_rfl) (by simp) ?_
    refine AllReadyH.cons (o := ⟨none, .mapUpdate 59 (.tmp 23) (.tmp 24) (.tmp 26), _, _, _, _⟩) rfl (fun K9 hK9 => ?_) AllReadyH.nil
    go_simp
    refine hK9.out _ _ (unhide HS2) (fun _ => ?_)
    clear hK9 K9
    (try simp only [Act.put, pq1, pq2, pq3])
    refine wpAnyH_done (by kernel_rfl) ?_ _
    refine NoPanic.normal ?_
    clear hup
    go_wp2_with (first
      | (refine wpList_load_mid rfl 70 _ rfl b o rfl EB _ hr2 Try.underlying70 rfl (unhide HIE) ?_; clear hr2)
      | (have hB9 := unhide HB2; refine wpList_store_row rfl 70 _ _ rfl w.heap.size EB.toArray rfl rfl _ _ hB9 (unhide HIE2) (unhide HZE) (unhide HEO) ?_; clear hB9))
    refine bodyPost_ret (results_cell_row rfl _ _ _ _ _ _ _ rfl ((unhide HB2).row EB) Try.underlying70 rfl (unhide HIE2)) rfl ?_
    exact ⟨rfl, unhide HF⟩

end Go.Proofs.Ytfaipdifkmjdeaa
