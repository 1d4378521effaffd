/- What disk's settle answers: all writes under way end, each by its fate. -/
import Derived.Test.YtfaipdifkmjdeaaDkH
namespace Go.Proofs.Ytfaipdifkmjdeaa
open Go.RowKit

theorem own_val {w : World} {base n k : Nat} {t : TypeId} {v : Value} {xs : List Value} (h : w.ownsRow base t k v n xs) : ∃ ao c, v = .slice ao n c := by
  rcases h.2 with ⟨rfl, h2⟩ | ⟨g, cap, cur, rfl, _⟩
  · exact ⟨none, 0, by rw [h2]⟩
  · exact ⟨_, _, rfl⟩
theorem own_cell {w : World} {base n : Nat} {t : TypeId} {v : Value} {xs : List Value} (h : w.ownsRow base t 1 v n xs) (j : Nat) (hj : j < n) : ∃ b c, v = .slice (some ⟨b, 0, none⟩) n c ∧ w.cell? ⟨b, j, none⟩ = xs[j]? := by
  rcases h.2 with ⟨rfl, h2⟩ | ⟨g, cap, cur, rfl, _, hh, h3, h4, h5, h6⟩
  · omega
  · refine ⟨g, cap, rfl, ?_⟩
    rw [cell_of_row w g j _ _ _ hh, ← h6, List.getElem?_take_of_lt (by omega)]
    simp

theorem slice_sech (b o hi : Nat) (h2 : hi ≤ 256) (W : World) : (Instr.sliceAt 70 (.pointer (some ⟨b, o, none⟩)) none (some (.int .i64 (hi : Int))) none).run Try.prog W = .ok (.slice (some ⟨b, o, none⟩) hi 256) W := by
  have ea : Try.prog.arrayLen 70 = 256 := by simp [Program.arrayLen, Try.underlying70]
  have ee : Try.prog.elem 70 = 5 := by simp [Program.elem, Try.underlying70]
  rw [run_sliceAt_array_h W 70 ⟨b, o, none⟩ (by rw [ea, ee]; exact Try.underlying70) .i64 _ (by omega) (by omega), ea, ee, size_byte]
  simp only [Result.andThen_ok, slicedAt, Int.toNat_natCast, Nat.zero_mul, Nat.sub_zero]
  rw [if_neg (by omega), Addr.add_mid]
  simp

set_option maxRecDepth 100000 in
set_option maxHeartbeats 8000000 in
theorem dsettle_any (u : Nat) (w : World) (F : List Nat) (d : Nat) (D : Dsk) (h : DiskAt u w F d D) (hU : D.U.length ≤ 1000000) (g : Nat) (lb : Array Value) (f : Nat → Int)
    (eg : ∀ args w, (callFunc g args).run Try.prog w = .ok (.enter g args) w) (cg : ∀ (k : Nat) (V : World), k < D.U.length → Fr w V F → Calls Try.prog g (#[.int .i64 (k : Int)] ++ lb) V fun e V' => e = .returned (.int .i64 (f k)) ∧ V' = V) :
    Calls Try.prog 32 #[.pointer (some ⟨d, 0, none⟩), .func (.func g) #[] lb] w fun e w' => e = .returned (.tuple #[]) ∧ DiskAt u w' F d (settleD f D) ∧ Fr w w' F := by
  obtain ⟨s, c, m, X, ov, K, h⟩ := h
  have hok := h.ok
  have hH := h.h
  have hc1 := h.c1
  obtain ⟨O, hO⟩ : ∃ O, O = D.U.map (·.1) := ⟨_, rfl⟩
  rw [← hO] at hH
  have hOl : O.length = D.U.length := by rw [hO, List.length_map]
  obtain ⟨U, hUU⟩ : ∃ U, U = D.U := ⟨_, rfl⟩
  obtain ⟨S, hS⟩ : ∃ S, S = D.safe := ⟨_, rfl⟩
  obtain ⟨ao, oc, hov⟩ := own_val hH.ord
  obtain ⟨n, hn⟩ : ∃ n, n = U.length := ⟨_, rfl⟩
  rw [hOl, ← hUU, ← hn] at hov
  rw [← hUU, ← hS] at hH
  rw [← hUU] at hU cg hO
  rw [← hn] at hU cg
  have hst : (∃ K', DiskH u w F d s c m X ov K' (layAll f 0 (U.take 0) S) O (U.drop 0) D.left D.down) ∧ Fr w w F := ⟨⟨K, hH⟩, Fr.refl _ _⟩
  have HST := hide hst
  have HOK := hide hok
  have HO := hide hO
  have HU := hide hUU
  have HS := hide hS
  have HOV := hide hov
  have HN := hide hn
  have HCG := hide cg
  rw [hov] at hc1
  clear hst hok hO hUU hS hH h cg hOl hn hov
  go_enter Try.func32, Try.ntmps32
  go_wp2
  go_loopw [13] (fun i wr => ∃ j : Nat, i = .int .i64 j ∧ j ≤ n ∧ Hid ((∃ K', DiskH u wr F d s c m X ov K' (layAll f 0 (U.take j) S) O (U.drop j) D.left D.down) ∧ Fr w wr F)) (fun i _ => n - (intOf i).toNat)
  case atStart => exact ⟨0, rfl, Nat.zero_le _, HST⟩
  case round =>
    obtain ⟨j, rfl, hj, HR⟩ := hrel
    by_cases hlt : j < n
    · have hlt' : j < U.length := by have := unhide HN; omega
      obtain ⟨⟨K', hH⟩, hF⟩ := unhide HR
      obtain ⟨⟨i, t⟩, hit⟩ : ∃ x, x = U[j] := ⟨_, rfl⟩
      rw [List.drop_eq_getElem_cons hlt', ← hit] at hH
      have hsn : layAll f 0 (U.take (j + 1)) S = lay1 (layAll f 0 (U.take j) S) (i, t) (clampN (f j)) := by
        rw [List.take_succ_eq_append_getElem hlt', layAll_snoc, ← hit, List.length_take, Nat.min_eq_left (Nat.le_of_lt hlt'), Nat.zero_add]
      obtain ⟨SJ, hSJ⟩ : ∃ SJ, SJ = layAll f 0 (U.take j) S := ⟨_, rfl⟩
      rw [← hSJ] at hH hsn
      have hxi := hH.inn (i, t) (by simp)
      simp only at hxi
      obtain ⟨EB, hEB⟩ : ∃ EB, EB = secC t := ⟨_, rfl⟩
      have hEl : EB.length = 256 := by rw [hEB, secC_len]; exact hxi.2
      have hE1 : ∀ u ∈ EB, u.oneCell' = true := by rw [hEB]; exact secC_one _
      have hEo : EB.toArray.all (·.oneCell') = true := all_oneCell_toArray hE1
      obtain ⟨Z, hZ, hzv⟩ := zero_secA
      have hiE2 : (Try.prog.info? 70).map (·.size) = some EB.toArray.size := by rw [List.size_toArray, hEl]; exact info_secs
      have hZE : Z.toList.toArray.size = EB.toArray.size := by simp [hZ, hEl]
      -- the order's cell
      have hord := hH.ord
      have hOL : O.length = n := by rw [unhide HO, List.length_map, unhide HN]
      rw [hOL, unhide HOV] at hord
      obtain ⟨ob, oc2, hoe, hoc⟩ := own_cell hord j hlt
      injection hoe with hao _ hcap
      have hOj : (O.map keyN)[j]? = some (keyN i) := by rw [unhide HO, List.map_map, List.getElem?_map, List.getElem?_eq_getElem hlt', ← hit]; rfl
      rw [hOj] at hoc
      unfold keyN at hoc
      subst hao hcap
      -- first
      obtain ⟨bb, o, cc, q1, q2, q3, q4, q5⟩ := hH.took
      have hc2 : wr.cell? ⟨d, 2, none⟩ = some (.map (some m)) := by rw [hH.blk.cell]; rfl
      rw [← hEB] at q3
      have cf := dfirst_any wr d m K' hc2 (Ne.symm hH.m_d) hH.map i bb o _ cc q1 q2 EB hEl hE1 q3 q4
      obtain ⟨K2, hK2⟩ : ∃ K2, K2 = (if (rowsU (U.drop (j + 1)) i).length = 0 then delI K' i else putI K' i (.slice (cutK (some ⟨bb, o, none⟩) cc 1 256) (rowsU (U.drop (j + 1)) i).length (cc - 1))) := ⟨_, rfl⟩
      rw [← hK2] at cf q5
      have hwide := hH.wide
      have hlw := hH.low
      have HQ5 := hide q5
      have HF0 := hide hF
      have HIE2 := hide hiE2
      have HZE := hide hZE
      have HEO := hide hEo
      have HEL := hide hEl
      have HEB := hide hEB
      have HSN := hide hsn
      have HSJ := hide hSJ
      have HXI := hide hxi
      have HLW := hide hlw
      have HWD := hide hwide
      have HIN := hide (And.intro hH.inS hH.inM)
      have hjw : IntKind.i64.wrap ((j : Int) + 1) = (j : Int) + 1 := by rw [IntKind.wrap_i64]; omega
      clear hH hF hit hsn hSJ hxi hEB hEl hE1 hEo hZ hiE2 hZE hord hOL hOj hc2 q1 q2 q3 q4 q5 hK2 hwide hlw HR
      go_upto_region 4 with (first
        | (go_at_call 41; refine cf.mono ?_; rintro e w2 ⟨rfl, hM2, g2⟩; clear cf
           have hH2 := unhide HQ5 w2 hM2 g2
           have hF2 := (unhide HF0).then g2 (fun x e => by cases e; exact Or.inl (unhide HIN).2)
           obtain ⟨W3, hW3, hB3, g3⟩ := row_new w2 70 Z EB
           have hBZ : Blk (w2.alloc (.cells Z 70)) w2.heap.size 70 Z.toList := by simpa using Blk.new w2 70 Z.toList
           have HH3 := hide (hH2.nn g3)
           have HF3 := hide (hF2.then g3 (fun x e => by cases e))
           have HB3 := hide hB3
           have HBZ := hide hBZ
           have HW3 := hide hW3
           clear hH2 hF2 hB3 g3 hBZ hW3 hM2 g2 HQ5 HF0)
        | (have hB9 := unhide HBZ; refine wpList_store_row rfl 70 _ _ rfl w2.heap.size EB.toArray rfl rfl _ _ hB9 (unhide HIE2) (unhide HZE) (unhide HEO) ?_; clear hB9; rw [← unhide HW3]))
      have cg := unhide HCG j W3 hlt (unhide HF3)
      obtain ⟨y, hy⟩ : ∃ y, y = f j := ⟨_, rfl⟩
      obtain ⟨nn, hnn⟩ : ∃ k, k = clampN y := ⟨_, rfl⟩
      rw [← hy] at cg
      have hn256 : nn ≤ 256 := by rw [hnn]; exact clampN_le _
      have hci := clampN_int y
      rw [← hnn] at hci
      obtain ⟨y1, hy1⟩ : ∃ y1 : Int, y1 = max y 0 := ⟨_, rfl⟩
      have hmax : ∀ ts ty (V : World), (Builtin.max_ ts ty #[.int .i64 y, .int .i64 0]).run Try.prog V = .ok (.int .i64 y1) V := fun ts ty V => by rw [run_max_int2]; congr 2; split <;> omega
      have hmin : ∀ ts ty (V : World), (Builtin.min_ ts ty #[.int .i64 y1, .int .i64 256]).run Try.prog V = .ok (.int .i64 (nn : Int)) V := fun ts ty V => by rw [run_min_int2]; congr 2; split <;> omega
      have HNN := hide hnn
      have HY := hide hy
      clear hnn hy hci hy1
      go_upto_region 5 with (refine cg.mono ?_; rintro e w4 ⟨rfl, e4⟩; subst w4; clear cg)
      obtain ⟨q, hq⟩ : ∃ q, q = w2.heap.size := ⟨_, rfl⟩
      rw [← hq] at HB3 ⊢
      obtain ⟨W3d, hW3d⟩ : ∃ W, W = W3.drew := ⟨_, rfl⟩
      have gd : W3.grownBy W3d none := by rw [hW3d]; exact gb_drew (gb_refl _ _)
      have hH4 := (unhide HH3).nn gd
      have hF4 := (unhide HF3).then gd (fun x e => by cases e)
      have hB4 := (unhide HB3).kept gd (by simp)
      rw [unhide HEB] at hB4
      have hx := range_bts (blk_all hB4) (by rw [(unhide HXI).2]; unfold maxLen; omega)
      have hi3 : i < SJ.length := (unhide HXI).1
      obtain ⟨hlc, hth⟩ := lay_cells hH4.sec (unhide HWD) i hi3 t (unhide HXI).2 nn hn256
      have hcp := copy_bts W3d s (i * 256) nn 256 (some ⟨q, 0, none⟩) t.length t hx (by rw [(unhide HXI).2, Nat.min_eq_right hn256]; exact hth)
      rw [(unhide HXI).2, Nat.min_eq_right hn256] at hcp
      obtain ⟨W4, hW4⟩ : ∃ W, W = W3d.setCells s (i * 256) ((t.take nn).map bv) := ⟨_, rfl⟩
      rw [← hW4] at hcp hlc
      have g4 : W3d.grownBy W4 (some s) := by rw [hW4]; exact gb_setCells (Or.inr rfl) _ _ (gb_refl _ _)
      have hH5 := hH4.wrote g4 hlc (lay1_len _ _ _) (lay1_wide (unhide HWD) (unhide HXI).2 hn256 hi3)
      have hfin : (∃ K', DiskH u W4 F d s c m X ov K' (layAll f 0 (U.take (j + 1)) S) O (U.drop (j + 1)) D.left D.down) ∧ Fr w W4 F := ⟨⟨K2, by rw [unhide HSN, ← unhide HY, ← unhide HNN]; exact hH5⟩, hF4.then g4 (fun x e => by cases e; exact Or.inl (unhide HIN).1)⟩
      obtain ⟨sl, hsl⟩ : ∃ k, k = SJ.length := ⟨_, rfl⟩
      have hS4 : W3d.cell? ⟨d, 0, none⟩ = some (.slice (some ⟨s, 0, none⟩) sl c) := by rw [hH4.blk.cell, hsl]; rfl
      have hS5 : W4.cell? ⟨d, 0, none⟩ = some (.slice (some ⟨s, 0, none⟩) sl c) := by rw [hH5.blk.cell, hsl, lay1_len]; rfl
      rw [← hsl] at hi3
      have HFIN := hide hfin
      have HS4 := hide hS4
      have HS5 := hide hS5
      have HW3d := hide hW3d
      have hss := slice_sec q
      have hsh := slice_sech s (i * 256) nn hn256
      clear hfin hS4 hS5 hW3d hsl hH5 hH4 hF4 hB4 hx hlc hth g4 gd hW4 hq hn256
      refine wp_region_noPanic ?_
      refine wp_region_held_drew (S := fun V => V.cell? ⟨d, 0, none⟩ = some (.slice (some ⟨s, 0, none⟩) sl c)) (by kernel_rfl) (by rw [← unhide HW3d]; exact unhide HS4) (fun _ => ?_)
      rw [← unhide HW3d]
      refine wpAnyH_take (i := 0) (oi := ⟨some 26, .move (.tmp 0), _, _, _, _⟩) (v := (.pointer (some ⟨d, 0, none⟩))) rfl (by kernel_rfl) (by kernel_rfl) (by kernel_rfl) (fun _ _ _ h => h) (Or.inl ⟨by rfl, fun V (hV : V.cell? ⟨d, 0, none⟩ = some (.slice (some ⟨s, 0, none⟩) sl c)) => by go_simp⟩) (unhide HS4) ?_
      (try simp only [Act.put, pq1, pq2, pq3])
      refine wpAnyH_take (i := 1) (oi := ⟨some 27, .nilCheck (.tmp 26), _, _, _, _⟩) (v := (.pointer (some ⟨d, 0, none⟩))) rfl (by kernel_rfl) (by kernel_rfl) (by kernel_rfl) (fun _ _ _ h => h) (Or.inl ⟨by rfl, fun V (hV : V.cell? ⟨d, 0, none⟩ = some (.slice (some ⟨s, 0, none⟩) sl c)) => by go_simp⟩) (unhide HS4) ?_
      (try simp only [Act.put, pq1, pq2, pq3])
      refine wpAnyH_take (i := 2) (oi := ⟨some 28, .fieldAddr 61 (.tmp 27) 0, _, _, _, _⟩) (v := (.pointer (some ⟨d, 0, none⟩))) rfl (by kernel_rfl) (by kernel_rfl) (by kernel_rfl) (fun _ _ _ h => h) (Or.inl ⟨by rfl, fun V (hV : V.cell? ⟨d, 0, none⟩ = some (.slice (some ⟨s, 0, none⟩) sl c)) => by go_simp⟩) (unhide HS4) ?_
      (try simp only [Act.put, pq1, pq2, pq3])
      refine wpAnyH_take (i := 3) (oi := ⟨some 29, .load 58 (.tmp 28), _, _, _, _⟩) (v := (.slice (some ⟨s, 0, none⟩) sl c)) rfl (by kernel_rfl) (by kernel_rfl) (by kernel_rfl) (fun _ _ _ h => h) (Or.inl ⟨by rfl, fun V (hV : V.cell? ⟨d, 0, none⟩ = some (.slice (some ⟨s, 0, none⟩) sl c)) => by (have hv2 := hV; go_simp)⟩) (unhide HS4) ?_
      (try simp only [Act.put, pq1, pq2, pq3])
      refine wpAnyH_take (i := 4) (oi := ⟨some 30, .move (.tmp 5), _, _, _, _⟩) (v := (.int .i64 (i : Int))) rfl (by kernel_rfl) (by kernel_rfl) (by kernel_rfl) (fun _ _ _ h => h) (Or.inl ⟨by rfl, fun V (hV : V.cell? ⟨d, 0, none⟩ = some (.slice (some ⟨s, 0, none⟩) sl c)) => by go_simp⟩) (unhide HS4) ?_
      (try simp only [Act.put, pq1, pq2, pq3])
      refine wpAnyH_take (i := 5) (oi := ⟨some 31, .indexAddr 58 (.tmp 29) (.tmp 30), _, _, _, _⟩) (v := (.pointer (some ⟨s, i * 256, none⟩))) rfl (by kernel_rfl) (by kernel_rfl) (by kernel_rfl) (fun _ _ _ h => h) (Or.inl ⟨by rfl, fun V (hV : V.cell? ⟨d, 0, none⟩ = some (.slice (some ⟨s, 0, none⟩) sl c)) => by go_simp⟩) (unhide HS4) ?_
      (try simp only [Act.put, pq1, pq2, pq3])
      refine wpAnyH_take (i := 6) (oi := ⟨some 32, .move (.tmp 7), _, _, _, _⟩) (v := (.int .i64 (nn : Int))) rfl (by kernel_rfl) (by kernel_rfl) (by kernel_rfl) (fun _ _ _ h => h) (Or.inl ⟨by rfl, fun V (hV : V.cell? ⟨d, 0, none⟩ = some (.slice (some ⟨s, 0, none⟩) sl c)) => by go_simp⟩) (unhide HS4) ?_
      (try simp only [Act.put, pq1, pq2, pq3])
      refine wpAnyH_take (i := 7) (oi := ⟨some 33, .slice 70 (.tmp 31) none (some (.tmp 32)) none, _, _, _, _⟩) (v := (.slice (some ⟨s, i * 256, none⟩) nn 256)) rfl (by kernel_rfl) (by kernel_rfl) (by kernel_rfl) (fun _ _ _ h => h) (Or.inl ⟨by rfl, fun V (hV : V.cell? ⟨d, 0, none⟩ = some (.slice (some ⟨s, 0, none⟩) sl c)) => by (have hs1 := hsh V; go_simp)⟩) (unhide HS4) ?_
      (try simp only [Act.put, pq1, pq2, pq3])
      refine wpAnyH_take (i := 8) (oi := ⟨some 34, .slice 70 (.tmp 6) none none none, _, _, _, _⟩) (v := (.slice (some ⟨q, 0, none⟩) 256 256)) rfl (by kernel_rfl) (by kernel_rfl) (by kernel_rfl) (fun _ _ _ h => h) (Or.inl ⟨by rfl, fun V (hV : V.cell? ⟨d, 0, none⟩ = some (.slice (some ⟨s, 0, none⟩) sl c)) => by (have hs1 := hss V; go_simp)⟩) (unhide HS4) ?_
      (try simp only [Act.put, pq1, pq2, pq3])
      refine wpAnyH_ready (rs := [9]) (by kernel_rfl) (by simp) ?_
      refine AllReadyH.cons (o := ⟨some 35, .call { callee := .builtin .copy, args := #[(.tmp 33), (.tmp 34)], argTypes := #[33, 33] }, _, _, _, _⟩) rfl (fun K9 hK9 => ?_) AllReadyH.nil
      go_simp
      refine hK9.out _ _ (unhide HS5) (fun _ => ?_)
      clear hK9 K9
      (try simp only [Act.put, pq1, pq2, pq3])
      refine wpAnyH_done (by kernel_rfl) ?_ _
      refine NoPanic.normal ?_
      clear hcp hss hsh hmax hmin
      go_wp2
      go_roundw
      case rel => exact ⟨j + 1, by go_num, by omega, HFIN⟩
      case measure => simp [intOf]; omega
    · have hjn : j = n := by omega
      obtain ⟨⟨K', hH⟩, hF⟩ := unhide HR
      rw [hjn, unhide HN, List.drop_length, List.take_length] at hH
      have hK : K' = [] := by
        cases hk : K' with
        | nil => rfl
        | cons p r => exact absurd ((hH.keys p.1).1 (by rw [hk]; simp)) (by simp)
      rw [hK] at hH
      have g5 := gb_set wr d 1 (.slice none 0 0)
      have hfin : DiskAt u (wr.setCell ⟨d, 1, none⟩ (.slice none 0 0)) F d (settleD f D) := by
        refine ⟨s, c, m, X, .slice none 0 0, [], ?_, ?_, ?_, World.ownsRow_nil _ _ _ _, ⟨hH.map.kept g5 (fun e => hH.m_d (by cases e; rfl)), fun i => by simp [settleD], (fun p hp => by cases hp), (fun p hp => by cases hp)⟩, hH.inD, hH.inS, hH.inM, (fun b hb => by cases hb), (fun p hp => by cases hp), ?_, (unhide HOK).settle f⟩
        · have := hH.blk.set 1 (.slice none 0 0)
          unfold settleD
          rw [← unhide HU, ← unhide HS]
          exact this
        · have := hH.sec.other ⟨d, 1, none⟩ (.slice none 0 0) hH.d_s
          unfold settleD
          rw [← unhide HU, ← unhide HS]
          exact this
        · have := hH.fits
          unfold settleD
          rw [← unhide HU, ← unhide HS]
          exact this
        · intro x hx
          have := hH.low x hx
          exact ⟨this.1, by simpa [World.setCell] using this.2⟩
      have hF5 := hF.then g5 (fun x e => by cases e; exact Or.inl hH.inD)
      have hc1r : wr.cell? ⟨d, 1, none⟩ = some ov := by rw [hH.blk.cell]; rfl
      have hf1r := hH.blk.fz 1
      have HFIN := hide hfin
      have HF5 := hide hF5
      clear hfin hF5 hH hF HR hK
      go_wp2
      go_end0
      exact ⟨rfl, unhide HFIN, unhide HF5⟩

end Go.Proofs.Ytfaipdifkmjdeaa
