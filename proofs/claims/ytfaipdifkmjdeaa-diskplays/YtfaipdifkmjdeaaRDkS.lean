/- What the document's settled answers (package coffretref14): of writes under way so many bytes each are safe. -/
import Derived.Test.YtfaipdifkmjdeaaRDkW
import Derived.Test.YtfaipdifkmjdeaaMIdx
import Derived.Test.YtfaipdifkmjdeaaMNts
namespace Go.Proofs.Ytfaipdifkmjdeaa
open Go.RowKit

theorem layAll_next (f : Nat → Int) (U : List (Nat × List UInt8)) (S : List (List UInt8)) (j : Nat) (hj : j < U.length) : layAll f 0 (U.take (j + 1)) S = lay1 (layAll f 0 (U.take j) S) U[j] (clampN (f j)) := by
  rw [List.take_succ_eq_append_getElem hj, layAll_snoc, List.length_take, Nat.min_eq_left (Nat.le_of_lt hj), Nat.zero_add]
theorem lay1_zero (S : List (List UInt8)) (x : Nat × List UInt8) : lay1 S x 0 = S := by
  unfold lay1
  by_cases hx : x.1 < S.length
  · rw [List.getElem?_eq_getElem hx, Option.getD_some, List.take_zero, List.drop_zero, List.nil_append, List.set_getElem_self]
  · rw [List.set_eq_of_length_le (by omega)]
theorem bs_st0 (V : World) : (Instr.buildSlice 27 0 #[]).run Try.prog V = .ok (.slice (some ⟨V.heap.size, 0, none⟩) 0 0) (V.alloc (.cells #[] 9)) := by kernel_rfl
theorem info_rwc : (Try.prog.info? 54).map (·.size) = some 2 := by kernel_rfl
theorem zero_rw : ∀ w, (zeroValue 54).run Try.prog w = .ok (.agg #[.int .i64 0, .string ⟨#[]⟩]) w := fun w => by kernel_rfl
theorem rw_one (k : Int) (s : ByteArray) : (#[Value.int .i64 k, Value.string s] : Array Value).all (·.oneCell') = true := by simp [Value.oneCell']

set_option maxRecDepth 100000 in
set_option maxHeartbeats 8000000 in
theorem rsettled_any (w : World) (so : Option Addr) (sc : Nat) (uo : Option Addr) (uc : Nat) (D : Dsk) (h : RdW w so sc uo uc D) (hok : D.Ok) (hU : D.U.length ≤ 1000000) (fo : Option Addr) (fc : Nat) (L : List Int) (hL : Nts w fo fc L) :
    Calls Try.prog 31 #[.agg (rdC so sc uo uc D).toArray, .slice fo L.length fc] w fun e w' => ∃ so' sc', e = .returned (.agg (rdC so' sc' none 0 (settleD (fateL L) D)).toArray) ∧ RdW w' so' sc' none 0 (settleD (fateL L) D) ∧ (∀ ad, so' = some ad → w.heap.size ≤ ad.block ∧ ad.block < w'.heap.size) ∧ w.grownBy w' none := by
  obtain ⟨n1, hn1⟩ : ∃ n, n = D.safe.length := ⟨_, rfl⟩
  obtain ⟨n2, hn2⟩ : ∃ n, n = D.U.length := ⟨_, rfl⟩
  obtain ⟨n3, hn3⟩ : ∃ n, n = L.length := ⟨_, rfl⟩
  obtain ⟨lf, hlf⟩ : ∃ l, l = D.left := ⟨_, rfl⟩
  obtain ⟨dn, hdn⟩ : ∃ b, b = D.down := ⟨_, rfl⟩
  have e0 : rdC so sc uo uc D = [.slice so n1 sc, .slice uo n2 uc, .int .i64 lf, .bool dn] := by rw [hn1, hn2, hlf, hdn]; rfl
  rw [e0, ← hn3]
  obtain ⟨W1, hW1, hB1, g1⟩ := box_new w 30 [.slice so n1 sc, .slice uo n2 uc, .int .i64 lf, .bool dn]
  obtain ⟨W2, hW2, hB2, g2⟩ := box_new W1 30 [.slice none 0 0, .slice none 0 0, .int .i64 0, .bool false]
  have s1 : W1.heap.size = w.heap.size + 1 := by rw [hW1, World.size_alloc]
  have s2 : W2.heap.size = w.heap.size + 2 := by rw [hW2, World.size_alloc, s1]
  rw [s1] at hB2
  have hB1' := hB1.kept g2 (by simp)
  have hzv := zero_rd
  have hfold : ((w.alloc (.cells #[.slice so n1 sc, .slice uo n2 uc, .int .i64 lf, .bool dn] 30)).alloc (.cells #[.slice none 0 0, .slice none 0 0, .int .i64 0, .bool false] 30)) = W2 := by rw [hW2, hW1]
  have HF := hide hfold
  obtain ⟨W3, hW3, ho3, g3⟩ := own_newT W2 9 1 W2.heap.size (Nat.le_refl _)
  have hB3 := hB1'.kept g3 (by simp)
  have hC3 := hB2.kept g3 (by simp)
  have hc0 := hB3.cell 0
  simp only [List.getElem?_cons_zero] at hc0
  have HB3 := hide hB3
  have HC3 := hide hC3
  have HO3 := hide ho3
  have HW3 := hide hW3
  have HG3 := hide (tn (tn g1 g2) g3)
  have HS3 : Hid (W2.heap.size ≤ W3.heap.size ∧ W2.heap.size = w.heap.size + 2) := ⟨g3.size, s2⟩
  have HM3 := hide (h.safe.kept (tn (tn g1 g2) g3)).zero
  have H2 := hide h
  have HL := hide hL
  have HOK := hide hok
  have HN1 := hide hn1
  have HN2 := hide hn2
  have HN3 := hide hn3
  have HLF := hide (And.intro hlf hdn)
  have hn1b : n1 ≤ 2048 := by rw [hn1]; exact hok.most
  have hn2b : n2 ≤ 1000000 := by omega
  have hpos : 0 < n1 := by rw [hn1]; exact hok.pos
  clear hW1 hW2 hB1 hB2 hB1' g1 g2 s1 s2 hfold h e0 hU hn1 hn2 hn3 hlf hdn hok hL hB3 hC3 ho3 hW3 g3
  go_enter Try.func31, Try.ntmps31
  go_upto_region 2 with (first
    | (rw [unhide HF])
    | (rw [← unhide HW3])
    | (refine wpList_append_cel rfl _ _ 27 9 (.string ⟨#[]⟩) 16 Try.underlying27 info_sc rfl rfl W2.heap.size _ 0 [] rfl (unhide HO3) so sc (D.safe.map sc1) (unhide HM3) n1 (by rw [List.length_map]; exact unhide HN1) rfl (by omega) (by unfold maxLen; omega) (unhide HS3).1 ?_; intro v5 w5 ho5 g5; obtain ⟨a5, c5, rfl⟩ := own_val ho5; have HO5 := hide ho5; have HB5 := hide ((unhide HB3).kept g5 (own_apart_t (unhide HO3) (unhide HB3) (by decide))); have HC5 := hide ((unhide HC3).kept g5 (own_apart_t (unhide HO3) (unhide HC3) (by decide))); have HG5 := hide (gb_trans (unhide HG3) g5 (fun x e => Or.inl (by have := (unhide HO3).lt x e; have := (unhide HS3).2; omega))); clear ho5 g5))
  have ho5 : w5.ownsRow W2.heap.size 9 1 (.slice a5 n1 c5) n1 (D.safe.map sc1) := by have := unhide HO5; simpa using this
  obtain ⟨b5, c5', hv5, -⟩ := own_cell ho5 0 hpos
  have ha5 : a5 = some ⟨b5, 0, none⟩ := by injection hv5
  subst ha5
  have HIN : Hid (∀ k (_ : k < D.U.length), D.U[k].1 < n1 ∧ D.U[k].2.length = 256) := fun k hk => by rw [unhide HN1]; exact (unhide HOK).inn _ (List.getElem_mem hk)
  have HLW : Hid (∀ k, ∀ s ∈ layAll (fateL L) 0 (D.U.take k) D.safe, s.length = 256) := fun k => layAll_wide _ _ _ _ (unhide HOK).wide (fun x hx => (unhide HOK).inn x (List.mem_of_mem_take hx))
  have HST := hide (show w5.ownsRow W2.heap.size 9 1 (.slice (some ⟨b5, 0, none⟩) n1 c5) n1 ((layAll (fateL L) 0 (D.U.take 0) D.safe).map sc1) ∧ Blk w5 w.heap.size 30 [.slice so n1 sc, .slice uo n2 uc, .int .i64 lf, .bool dn] ∧ Blk w5 (w.heap.size + 1) 30 [.slice none 0 0, .slice none 0 0, .int .i64 0, .bool false] ∧ w.grownBy w5 none from ⟨ho5, unhide HB5, unhide HC5, unhide HG5⟩)
  clear ho5 hv5 hc0 HO5 HB5 HC5 HG5 HO3 HB3 HC3 HG3 HM3 HW3 HF
  go_wp2
  go_loopw [6] (fun i wr => ∃ j : Nat, i = .int .i64 j ∧ j ≤ n2 ∧ Hid (wr.ownsRow W2.heap.size 9 1 (.slice (some ⟨b5, 0, none⟩) n1 c5) n1 ((layAll (fateL L) 0 (D.U.take j) D.safe).map sc1) ∧ Blk wr w.heap.size 30 [.slice so n1 sc, .slice uo n2 uc, .int .i64 lf, .bool dn] ∧ Blk wr (w.heap.size + 1) 30 [.slice none 0 0, .slice none 0 0, .int .i64 0, .bool false] ∧ w.grownBy wr none)) (fun i _ => n2 - (intOf i).toNat)
  case atStart => exact ⟨0, rfl, Nat.zero_le _, HST⟩
  case round =>
    obtain ⟨j, rfl, hj, HR⟩ := hrel
    have hc1 := (unhide HR).2.1.cell 1
    simp only [List.getElem?_cons_zero, List.getElem?_cons_succ] at hc1
    by_cases hlt : j < n2
    · have hji : (j : Int) < (n2 : Int) := by omega
      have hjw : IntKind.i64.wrap ((j : Int) + 1) = (j : Int) + 1 := by rw [IntKind.wrap_i64]; omega
      have hjU : j < D.U.length := by have := unhide HN2; omega
      by_cases hcl : clampN (fateL L j) = 0
      · have hsame : layAll (fateL L) 0 (D.U.take (j + 1)) D.safe = layAll (fateL L) 0 (D.U.take j) D.safe := by rw [layAll_next _ _ _ _ hjU, hcl, lay1_zero]
        have HR2 : Hid (wr.ownsRow W2.heap.size 9 1 (.slice (some ⟨b5, 0, none⟩) n1 c5) n1 ((layAll (fateL L) 0 (D.U.take (j + 1)) D.safe).map sc1) ∧ Blk wr w.heap.size 30 [.slice so n1 sc, .slice uo n2 uc, .int .i64 lf, .bool dn] ∧ Blk wr (w.heap.size + 1) 30 [.slice none 0 0, .slice none 0 0, .int .i64 0, .bool false] ∧ w.grownBy wr none) := by rw [hsame]; exact HR
        by_cases h3 : j < n3
        · have h3i : (j : Int) < (n3 : Int) := by omega
          obtain ⟨fb, f0, hfo, hfc⟩ := (unhide HL).kept (unhide HR).2.2.2 |>.at j (by rw [← unhide HN3]; exact h3)
          obtain ⟨y, hy⟩ : ∃ y, y = L[j]'(by rw [← unhide HN3]; exact h3) := ⟨_, rfl⟩
          rw [← hy] at hfc
          have hfy : fateL L j = y := by unfold fateL; rw [List.getElem?_eq_getElem (by rw [← unhide HN3]; exact h3), hy]; rfl
          have hy0 : y ≤ 0 := by rw [hfy] at hcl; unfold clampN at hcl; omega
          have hyi : ¬ (256 : Int) < y := by omega
          have hyj : ¬ (0 : Int) < y := by omega
          clear hy hfy hcl hsame HR
          subst hfo
          go_wp2
          go_roundw
          case rel => exact ⟨j + 1, by go_num, by omega, HR2⟩
          case measure => simp [intOf]; omega
        · have h3i : ¬ (j : Int) < (n3 : Int) := by omega
          clear hcl hsame HR
          go_wp2
          go_roundw
          case rel => exact ⟨j + 1, by go_num, by omega, HR2⟩
          case measure => simp [intOf]; omega
      · obtain ⟨nn, hnn⟩ : ∃ n, n = clampN (fateL L j) := ⟨_, rfl⟩
        have hnl : nn ≤ 256 := by rw [hnn]; exact clampN_le _
        have hn0 : 0 < nn := by omega
        have hf0 : 0 < fateL L j := by unfold clampN at hcl; omega
        have h3 : j < n3 := by
          rw [unhide HN3]
          apply Classical.byContradiction
          intro hh
          unfold fateL at hf0
          rw [List.getElem?_eq_none (by omega)] at hf0
          simp at hf0
        have h3i : (j : Int) < (n3 : Int) := by omega
        obtain ⟨fb, f0, hfo, hfc⟩ := (unhide HL).kept (unhide HR).2.2.2 |>.at j (by rw [← unhide HN3]; exact h3)
        obtain ⟨y, hy⟩ : ∃ y, y = L[j]'(by rw [← unhide HN3]; exact h3) := ⟨_, rfl⟩
        rw [← hy] at hfc
        have hfy : fateL L j = y := by unfold fateL; rw [List.getElem?_eq_getElem (by rw [← unhide HN3]; exact h3), hy]; rfl
        rw [hfy] at hnn hf0
        have hnn2 : (256 < y ∧ nn = 256) ∨ (¬ 256 < y ∧ y = (nn : Int)) := by unfold clampN at hnn; omega
        -- the write's cells
        obtain ⟨rb, ro, huo, hrow⟩ := ((unhide H2).und.kept (unhide HR).2.2.2).at j hjU
        obtain ⟨I, hI⟩ : ∃ I, I = D.U[j].1 := ⟨_, rfl⟩
        obtain ⟨B, hB⟩ : ∃ B, B = D.U[j].2 := ⟨_, rfl⟩
        have hIB := unhide HIN j hjU
        rw [← hI, ← hB] at hIB
        obtain ⟨SP, hSP⟩ : ∃ SP, SP = layAll (fateL L) 0 (D.U.take j) D.safe := ⟨_, rfl⟩
        have hSPl : SP.length = n1 := by rw [hSP, layAll_len, unhide HN1]
        have hIS : I < SP.length := by rw [hSPl]; exact hIB.1
        obtain ⟨P, hP⟩ : ∃ P, P = SP[I] := ⟨_, rfl⟩
        have hPl : P.length = 256 := by rw [hP]; exact unhide HLW j _ (by rw [← hSP]; exact List.getElem_mem hIS)
        have hnext : layAll (fateL L) 0 (D.U.take (j + 1)) D.safe = SP.set I (B.take nn ++ P.drop nn) := by
          rw [layAll_next _ _ _ _ hjU, ← hSP, hfy, ← hnn]
          unfold lay1
          rw [← hI, ← hB, List.getElem?_eq_getElem hIS, ← hP]
          rfl
        obtain ⟨EB, hEB⟩ : ∃ EB, EB = rwC D.U[j] := ⟨_, rfl⟩
        obtain ⟨TB, hTB⟩ : ∃ T, T = str B := ⟨_, rfl⟩
        have hEB2 : EB = [.int .i64 (I : Int), .string TB] := by rw [hEB, hTB, hI, hB]; rfl
        rw [← hEB, hEB2] at hrow
        obtain ⟨W6, hW6, hB6, g6⟩ := row_new wr 54 #[.int .i64 0, .string ⟨#[]⟩] [.int .i64 (I : Int), .string TB]
        have hBn := Blk.new wr 54 [.int .i64 0, .string ⟨#[]⟩]
        have hzr := zero_rw
        have ho6 := own_keepT (unhide HR).1 g6
        rw [← hSP] at ho6
        have hb6 := (unhide HR).2.1.kept g6 (by simp)
        have hd6 := (unhide HR).2.2.1.kept g6 (by simp)
        have hcI := own_thereT ho6 I (sc1 P) (by rw [List.getElem?_map, List.getElem?_eq_getElem hIS, ← hP]; rfl)
        obtain ⟨TP, hTP⟩ : ∃ T, T = str P := ⟨_, rfl⟩
        obtain ⟨T1, hT1⟩ : ∃ T, T = str (B.take nn) := ⟨_, rfl⟩
        obtain ⟨T2, hT2⟩ : ∃ T, T = str (P.drop nn) := ⟨_, rfl⟩
        obtain ⟨T3, hT3⟩ : ∃ T, T = str (B.take nn ++ P.drop nn) := ⟨_, rfl⟩
        have hcP : W6.cell? ⟨b5, I, none⟩ = some (.string TP) := by rw [hTP]; exact hcI.1
        have hs1 : ∀ V, (Instr.slice 9 (.string TB) none (some (.int .i64 (nn : Int))) none).run Try.prog V = .ok (.string T1) V := fun V => by rw [hTB, hT1]; exact slice_str_to B nn (by omega) V
        have hs2 : ∀ V, (Instr.slice 9 (.string TP) (some (.int .i64 (nn : Int))) none none).run Try.prog V = .ok (.string T2) V := fun V => by rw [hTP, hT2]; exact slice_str_from P nn (by omega) V
        have hadd : T1 ++ T2 = T3 := by rw [hT1, hT2, hT3, str_app]
        have hsz : ¬ 9223372036854775807 < T1.size + T2.size := by rw [hT1, hT2, str_size, str_size, List.length_take, List.length_drop]; omega
        have hq0 := hB6.cell 0
        have hq1 := hB6.cell 1
        simp only [List.getElem?_cons_zero, List.getElem?_cons_succ] at hq0 hq1
        have gs := gb_set W6 b5 I (.string T3)
        have hIn : I < n1 := hIB.1
        have hbnew : W2.heap.size ≤ b5 := ((unhide HR).1.lt b5 rfl).1
        have HFIN : Hid ((W6.setCell ⟨b5, I, none⟩ (.string T3)).drew.ownsRow W2.heap.size 9 1 (.slice (some ⟨b5, 0, none⟩) n1 c5) n1 ((layAll (fateL L) 0 (D.U.take (j + 1)) D.safe).map sc1) ∧ Blk (W6.setCell ⟨b5, I, none⟩ (.string T3)).drew w.heap.size 30 [.slice so n1 sc, .slice uo n2 uc, .int .i64 lf, .bool dn] ∧ Blk (W6.setCell ⟨b5, I, none⟩ (.string T3)).drew (w.heap.size + 1) 30 [.slice none 0 0, .slice none 0 0, .int .i64 0, .bool false] ∧ w.grownBy (W6.setCell ⟨b5, I, none⟩ (.string T3)).drew none) := by
          refine ⟨?_, ?_, ?_, ?_⟩
          · have := own_keepT (own_setT ho6 I (.string T3)) (gb_drew (gb_refl _ none))
            rw [hnext, List.map_set]
            rw [hT3] at this ⊢
            exact this
          · exact ((hb6.other ⟨b5, I, none⟩ (.string T3) (by have := (unhide HS3).2; show b5 ≠ _; omega))).drew
          · exact ((hd6.other ⟨b5, I, none⟩ (.string T3) (by have := (unhide HS3).2; show b5 ≠ _; omega))).drew
          · exact gb_drew (gb_trans (tn (unhide HR).2.2.2 g6) gs (fun x e => by cases e; exact Or.inl (by have := (unhide HS3).2; omega)))
        have HNQ0 : b5 < wr.heap.size := ((unhide HR).1.lt b5 rfl).2
        have HW6 := hide (show W6 = (wr.alloc (.cells #[.int .i64 0, .string ⟨#[]⟩] 54)).setRow wr.heap.size #[.int .i64 (I : Int), .string TB] from hW6)
        have HBN := hide hBn
        have HQ0 := hide hq0
        have HQ1 := hide hq1
        have HCP := hide hcP
        have HCF := hide hcI.2
        have HS1 := hide hs1
        have HS2 := hide hs2
        have HSZ := hide hsz
        have HADD := hide hadd
        have HROW := hide hrow
        obtain ⟨q, hq⟩ : ∃ q, q = wr.heap.size := ⟨_, rfl⟩
        rw [← hq] at HQ0 HQ1
        have HQ := hide hq
        have HNQ : Hid (some q ≠ some b5) := fun e => by injection e with e; omega
        clear hnn hfy hy hI hB hIB hSPl hSP hIS hP hPl hnext hEB hEB2 hTB hW6 hB6 g6 hBn ho6 hb6 hd6 hcI hTP hT1 hT2 hT3 hcP hs1 hs2 hadd hsz hq0 hq1 gs hbnew HR hrow hcl hf0 hq
        subst hfo huo
        rcases hnn2 with ⟨hy1, hy2⟩ | ⟨hy1, hy2⟩
        · have hyi : (256 : Int) < y := hy1
          have hk0 : (0 : Int) < 256 := by decide
          go_upto_region 12 with (first
            | (have hr9 := unhide HROW; refine wpList_load_mid rfl 54 _ rfl rb (ro + j * 2) rfl [.int .i64 (I : Int), .string TB] _ hr9 Try.underlying54 rfl info_rwc ?_; clear hr9)
            | (have hB9 := unhide HBN; refine wpList_store_row rfl 54 _ _ rfl wr.heap.size _ rfl rfl _ _ hB9 info_rwc rfl (rw_one _ _) ?_; clear hB9; rw [← unhide HW6, ← unhide HQ]))
          subst hy2
          refine wp_region_noPanic ?_
          refine wp_region_held_drew (S := fun V => W6.grownBy V (some b5)) (by kernel_rfl) (gb_drew (gb_refl W6 (some b5))) (fun _ => ?_)
          refine wpAnyH_take (i := 0) (oi := ⟨some 37, .move (.tmp 5), _, _, _, _⟩) (v := (.slice (some ⟨b5, 0, none⟩) n1 c5)) rfl (by kernel_rfl) (by kernel_rfl) (by kernel_rfl) (fun _ _ _ h => h) (Or.inl ⟨by rfl, fun V (hV : W6.grownBy V (some b5)) => by go_simp⟩) (gb_drew (gb_refl W6 (some b5))) ?_
          (try simp only [Act.put, pq1, pq2, pq3])
          refine wpAnyH_take (i := 1) (oi := ⟨some 38, .fieldAddr 54 (.tmp 8) 0, _, _, _, _⟩) (v := (.pointer (some ⟨q, 0, none⟩))) rfl (by kernel_rfl) (by kernel_rfl) (by kernel_rfl) (fun _ _ _ h => h) (Or.inl ⟨by rfl, fun V (hV : W6.grownBy V (some b5)) => by go_simp⟩) (gb_drew (gb_refl W6 (some b5))) ?_
          (try simp only [Act.put, pq1, pq2, pq3])
          refine wpAnyH_take (i := 2) (oi := ⟨some 39, .load 3 (.tmp 38), _, _, _, _⟩) (v := (.int .i64 (I : Int))) rfl (by kernel_rfl) (by kernel_rfl) (by kernel_rfl) (fun _ _ _ h => h) (Or.inl ⟨by rfl, fun V (hV : W6.grownBy V (some b5)) => by (have hv1 := hV.cell (unhide HQ0) (unhide HNQ); go_simp)⟩) (gb_drew (gb_refl W6 (some b5))) ?_
          (try simp only [Act.put, pq1, pq2, pq3])
          refine wpAnyH_take (i := 3) (oi := ⟨some 40, .fieldAddr 54 (.tmp 8) 1, _, _, _, _⟩) (v := (.pointer (some ⟨q, 1, none⟩))) rfl (by kernel_rfl) (by kernel_rfl) (by kernel_rfl) (fun _ _ _ h => h) (Or.inl ⟨by rfl, fun V (hV : W6.grownBy V (some b5)) => by go_simp⟩) (gb_drew (gb_refl W6 (some b5))) ?_
          (try simp only [Act.put, pq1, pq2, pq3])
          refine wpAnyH_take (i := 4) (oi := ⟨some 41, .load 9 (.tmp 40), _, _, _, _⟩) (v := (.string TB)) rfl (by kernel_rfl) (by kernel_rfl) (by kernel_rfl) (fun _ _ _ h => h) (Or.inl ⟨by rfl, fun V (hV : W6.grownBy V (some b5)) => by (have hv1 := hV.cell (unhide HQ1) (unhide HNQ); go_simp)⟩) (gb_drew (gb_refl W6 (some b5))) ?_
          (try simp only [Act.put, pq1, pq2, pq3])
          refine wpAnyH_take (i := 5) (oi := ⟨some 42, .move (.tmp 7), _, _, _, _⟩) (v := (.int .i64 256)) rfl (by kernel_rfl) (by kernel_rfl) (by kernel_rfl) (fun _ _ _ h => h) (Or.inl ⟨by rfl, fun V (hV : W6.grownBy V (some b5)) => by go_simp⟩) (gb_drew (gb_refl W6 (some b5))) ?_
          (try simp only [Act.put, pq1, pq2, pq3])
          refine wpAnyH_take (i := 6) (oi := ⟨some 43, .slice 9 (.tmp 41) none (some (.tmp 42)) none, _, _, _, _⟩) (v := (.string T1)) rfl (by kernel_rfl) (by kernel_rfl) (by kernel_rfl) (fun _ _ _ h => h) (Or.inl ⟨by rfl, fun V (hV : W6.grownBy V (some b5)) => by (have hv1 := unhide HS1 V; rw [show ((256 : Nat) : Int) = 256 from rfl] at hv1; go_simp)⟩) (gb_drew (gb_refl W6 (some b5))) ?_
          (try simp only [Act.put, pq1, pq2, pq3])
          refine wpAnyH_take (i := 7) (oi := ⟨some 44, .move (.tmp 5), _, _, _, _⟩) (v := (.slice (some ⟨b5, 0, none⟩) n1 c5)) rfl (by kernel_rfl) (by kernel_rfl) (by kernel_rfl) (fun _ _ _ h => h) (Or.inl ⟨by rfl, fun V (hV : W6.grownBy V (some b5)) => by go_simp⟩) (gb_drew (gb_refl W6 (some b5))) ?_
          (try simp only [Act.put, pq1, pq2, pq3])
          refine wpAnyH_take (i := 8) (oi := ⟨some 45, .fieldAddr 54 (.tmp 8) 0, _, _, _, _⟩) (v := (.pointer (some ⟨q, 0, none⟩))) rfl (by kernel_rfl) (by kernel_rfl) (by kernel_rfl) (fun _ _ _ h => h) (Or.inl ⟨by rfl, fun V (hV : W6.grownBy V (some b5)) => by go_simp⟩) (gb_drew (gb_refl W6 (some b5))) ?_
          (try simp only [Act.put, pq1, pq2, pq3])
          refine wpAnyH_take (i := 9) (oi := ⟨some 46, .load 3 (.tmp 45), _, _, _, _⟩) (v := (.int .i64 (I : Int))) rfl (by kernel_rfl) (by kernel_rfl) (by kernel_rfl) (fun _ _ _ h => h) (Or.inl ⟨by rfl, fun V (hV : W6.grownBy V (some b5)) => by (have hv1 := hV.cell (unhide HQ0) (unhide HNQ); go_simp)⟩) (gb_drew (gb_refl W6 (some b5))) ?_
          (try simp only [Act.put, pq1, pq2, pq3])
          refine wpAnyH_take (i := 10) (oi := ⟨some 47, .indexAddr 27 (.tmp 44) (.tmp 46), _, _, _, _⟩) (v := (.pointer (some ⟨b5, I, none⟩))) rfl (by kernel_rfl) (by kernel_rfl) (by kernel_rfl) (fun _ _ _ h => h) (Or.inl ⟨by rfl, fun V (hV : W6.grownBy V (some b5)) => by go_simp⟩) (gb_drew (gb_refl W6 (some b5))) ?_
          (try simp only [Act.put, pq1, pq2, pq3])
          refine wpAnyH_take (i := 12) (oi := ⟨some 49, .move (.tmp 7), _, _, _, _⟩) (v := (.int .i64 256)) rfl (by kernel_rfl) (by kernel_rfl) (by kernel_rfl) (fun _ _ _ h => h) (Or.inl ⟨by rfl, fun V (hV : W6.grownBy V (some b5)) => by go_simp⟩) (gb_drew (gb_refl W6 (some b5))) ?_
          (try simp only [Act.put, pq1, pq2, pq3])
          refine wpAnyH_ready (rs := [11]) (by kernel_rfl) (by simp) ?_
          refine AllReadyH.cons (o := ⟨some 48, .load 9 (.tmp 47), _, _, _, _⟩) rfl (fun K9 hK9 => ?_) AllReadyH.nil
          have hv1 : W6.drew.cell? ⟨b5, I, none⟩ = some (.string TP) := unhide HCP
          go_simp
          clear hv1
          refine hK9.out _ _ (gb_drew (gb_refl W6 (some b5))) (fun _ => ?_)
          clear hK9 K9
          (try simp only [Act.put, pq1, pq2, pq3])
          refine wpAnyH_take (i := 13) (oi := ⟨some 50, .slice 9 (.tmp 48) (some (.tmp 49)) none none, _, _, _, _⟩) (v := (.string T2)) rfl (by kernel_rfl) (by kernel_rfl) (by kernel_rfl) (fun _ _ _ h => h) (Or.inl ⟨by rfl, fun V (hV : W6.grownBy V (some b5)) => by (have hv1 := unhide HS2 V; rw [show ((256 : Nat) : Int) = 256 from rfl] at hv1; go_simp)⟩) (gb_drew (gb_refl W6 (some b5))) ?_
          (try simp only [Act.put, pq1, pq2, pq3])
          refine wpAnyH_take (i := 14) (oi := ⟨some 51, .binOp .add 9 (.tmp 43) (.tmp 50) 9, _, _, _, _⟩) (v := (.string T3)) rfl (by kernel_rfl) (by kernel_rfl) (by kernel_rfl) (fun _ _ _ h => h) (Or.inl ⟨by rfl, fun V (hV : W6.grownBy V (some b5)) => by (have hv1 := unhide HADD; have hv2 := unhide HSZ; go_simp)⟩) (gb_drew (gb_refl W6 (some b5))) ?_
          (try simp only [Act.put, pq1, pq2, pq3])
          refine wpAnyH_take (i := 15) (oi := ⟨some 52, .indexAddr 27 (.tmp 37) (.tmp 39), _, _, _, _⟩) (v := (.pointer (some ⟨b5, I, none⟩))) rfl (by kernel_rfl) (by kernel_rfl) (by kernel_rfl) (fun _ _ _ h => h) (Or.inl ⟨by rfl, fun V (hV : W6.grownBy V (some b5)) => by go_simp⟩) (gb_drew (gb_refl W6 (some b5))) ?_
          (try simp only [Act.put, pq1, pq2, pq3])
          refine wpAnyH_ready (rs := [16]) (by kernel_rfl) (by simp) ?_
          refine AllReadyH.cons (o := ⟨none, .store 9 (.tmp 52) (.tmp 51), _, _, _, _⟩) rfl (fun K9 hK9 => ?_) AllReadyH.nil
          have hv1 : W6.drew.cell? ⟨b5, I, none⟩ = some (.string TP) := unhide HCP
          have hv2 : W6.drew.frozen? ⟨b5, I, none⟩ = false := unhide HCF
          go_simp
          refine hK9.out _ _ (gb_drew (gb_set W6 b5 I (.string T3))) (fun _ => ?_)
          clear hK9 K9 hv1 hv2
          (try simp only [Act.put, pq1, pq2, pq3])
          refine wpAnyH_done (by kernel_rfl) ?_ _
          refine NoPanic.normal ?_
          go_wp2
          go_roundw
          case rel => exact ⟨j + 1, by go_num, by omega, HFIN⟩
          case measure => simp [intOf]; omega
        · have hyi : ¬ (256 : Int) < y := hy1
          subst hy2
          have hk0 : (0 : Int) < (nn : Int) := by omega
          go_upto_region 12 with (first
            | (have hr9 := unhide HROW; refine wpList_load_mid rfl 54 _ rfl rb (ro + j * 2) rfl [.int .i64 (I : Int), .string TB] _ hr9 Try.underlying54 rfl info_rwc ?_; clear hr9)
            | (have hB9 := unhide HBN; refine wpList_store_row rfl 54 _ _ rfl wr.heap.size _ rfl rfl _ _ hB9 info_rwc rfl (rw_one _ _) ?_; clear hB9; rw [← unhide HW6, ← unhide HQ]))
          refine wp_region_noPanic ?_
          refine wp_region_held_drew (S := fun V => W6.grownBy V (some b5)) (by kernel_rfl) (gb_drew (gb_refl W6 (some b5))) (fun _ => ?_)
          refine wpAnyH_take (i := 0) (oi := ⟨some 37, .move (.tmp 5), _, _, _, _⟩) (v := (.slice (some ⟨b5, 0, none⟩) n1 c5)) rfl (by kernel_rfl) (by kernel_rfl) (by kernel_rfl) (fun _ _ _ h => h) (Or.inl ⟨by rfl, fun V (hV : W6.grownBy V (some b5)) => by go_simp⟩) (gb_drew (gb_refl W6 (some b5))) ?_
          (try simp only [Act.put, pq1, pq2, pq3])
          refine wpAnyH_take (i := 1) (oi := ⟨some 38, .fieldAddr 54 (.tmp 8) 0, _, _, _, _⟩) (v := (.pointer (some ⟨q, 0, none⟩))) rfl (by kernel_rfl) (by kernel_rfl) (by kernel_rfl) (fun _ _ _ h => h) (Or.inl ⟨by rfl, fun V (hV : W6.grownBy V (some b5)) => by go_simp⟩) (gb_drew (gb_refl W6 (some b5))) ?_
          (try simp only [Act.put, pq1, pq2, pq3])
          refine wpAnyH_take (i := 2) (oi := ⟨some 39, .load 3 (.tmp 38), _, _, _, _⟩) (v := (.int .i64 (I : Int))) rfl (by kernel_rfl) (by kernel_rfl) (by kernel_rfl) (fun _ _ _ h => h) (Or.inl ⟨by rfl, fun V (hV : W6.grownBy V (some b5)) => by (have hv1 := hV.cell (unhide HQ0) (unhide HNQ); go_simp)⟩) (gb_drew (gb_refl W6 (some b5))) ?_
          (try simp only [Act.put, pq1, pq2, pq3])
          refine wpAnyH_take (i := 3) (oi := ⟨some 40, .fieldAddr 54 (.tmp 8) 1, _, _, _, _⟩) (v := (.pointer (some ⟨q, 1, none⟩))) rfl (by kernel_rfl) (by kernel_rfl) (by kernel_rfl) (fun _ _ _ h => h) (Or.inl ⟨by rfl, fun V (hV : W6.grownBy V (some b5)) => by go_simp⟩) (gb_drew (gb_refl W6 (some b5))) ?_
          (try simp only [Act.put, pq1, pq2, pq3])
          refine wpAnyH_take (i := 4) (oi := ⟨some 41, .load 9 (.tmp 40), _, _, _, _⟩) (v := (.string TB)) rfl (by kernel_rfl) (by kernel_rfl) (by kernel_rfl) (fun _ _ _ h => h) (Or.inl ⟨by rfl, fun V (hV : W6.grownBy V (some b5)) => by (have hv1 := hV.cell (unhide HQ1) (unhide HNQ); go_simp)⟩) (gb_drew (gb_refl W6 (some b5))) ?_
          (try simp only [Act.put, pq1, pq2, pq3])
          refine wpAnyH_take (i := 5) (oi := ⟨some 42, .move (.tmp 7), _, _, _, _⟩) (v := (.int .i64 (nn : Int))) rfl (by kernel_rfl) (by kernel_rfl) (by kernel_rfl) (fun _ _ _ h => h) (Or.inl ⟨by rfl, fun V (hV : W6.grownBy V (some b5)) => by go_simp⟩) (gb_drew (gb_refl W6 (some b5))) ?_
          (try simp only [Act.put, pq1, pq2, pq3])
          refine wpAnyH_take (i := 6) (oi := ⟨some 43, .slice 9 (.tmp 41) none (some (.tmp 42)) none, _, _, _, _⟩) (v := (.string T1)) rfl (by kernel_rfl) (by kernel_rfl) (by kernel_rfl) (fun _ _ _ h => h) (Or.inl ⟨by rfl, fun V (hV : W6.grownBy V (some b5)) => by (have hv1 := unhide HS1 V; go_simp)⟩) (gb_drew (gb_refl W6 (some b5))) ?_
          (try simp only [Act.put, pq1, pq2, pq3])
          refine wpAnyH_take (i := 7) (oi := ⟨some 44, .move (.tmp 5), _, _, _, _⟩) (v := (.slice (some ⟨b5, 0, none⟩) n1 c5)) rfl (by kernel_rfl) (by kernel_rfl) (by kernel_rfl) (fun _ _ _ h => h) (Or.inl ⟨by rfl, fun V (hV : W6.grownBy V (some b5)) => by go_simp⟩) (gb_drew (gb_refl W6 (some b5))) ?_
          (try simp only [Act.put, pq1, pq2, pq3])
          refine wpAnyH_take (i := 8) (oi := ⟨some 45, .fieldAddr 54 (.tmp 8) 0, _, _, _, _⟩) (v := (.pointer (some ⟨q, 0, none⟩))) rfl (by kernel_rfl) (by kernel_rfl) (by kernel_rfl) (fun _ _ _ h => h) (Or.inl ⟨by rfl, fun V (hV : W6.grownBy V (some b5)) => by go_simp⟩) (gb_drew (gb_refl W6 (some b5))) ?_
          (try simp only [Act.put, pq1, pq2, pq3])
          refine wpAnyH_take (i := 9) (oi := ⟨some 46, .load 3 (.tmp 45), _, _, _, _⟩) (v := (.int .i64 (I : Int))) rfl (by kernel_rfl) (by kernel_rfl) (by kernel_rfl) (fun _ _ _ h => h) (Or.inl ⟨by rfl, fun V (hV : W6.grownBy V (some b5)) => by (have hv1 := hV.cell (unhide HQ0) (unhide HNQ); go_simp)⟩) (gb_drew (gb_refl W6 (some b5))) ?_
          (try simp only [Act.put, pq1, pq2, pq3])
          refine wpAnyH_take (i := 10) (oi := ⟨some 47, .indexAddr 27 (.tmp 44) (.tmp 46), _, _, _, _⟩) (v := (.pointer (some ⟨b5, I, none⟩))) rfl (by kernel_rfl) (by kernel_rfl) (by kernel_rfl) (fun _ _ _ h => h) (Or.inl ⟨by rfl, fun V (hV : W6.grownBy V (some b5)) => by go_simp⟩) (gb_drew (gb_refl W6 (some b5))) ?_
          (try simp only [Act.put, pq1, pq2, pq3])
          refine wpAnyH_take (i := 12) (oi := ⟨some 49, .move (.tmp 7), _, _, _, _⟩) (v := (.int .i64 (nn : Int))) rfl (by kernel_rfl) (by kernel_rfl) (by kernel_rfl) (fun _ _ _ h => h) (Or.inl ⟨by rfl, fun V (hV : W6.grownBy V (some b5)) => by go_simp⟩) (gb_drew (gb_refl W6 (some b5))) ?_
          (try simp only [Act.put, pq1, pq2, pq3])
          refine wpAnyH_ready (rs := [11]) (by kernel_rfl) (by simp) ?_
          refine AllReadyH.cons (o := ⟨some 48, .load 9 (.tmp 47), _, _, _, _⟩) rfl (fun K9 hK9 => ?_) AllReadyH.nil
          have hv1 : W6.drew.cell? ⟨b5, I, none⟩ = some (.string TP) := unhide HCP
          go_simp
          clear hv1
          refine hK9.out _ _ (gb_drew (gb_refl W6 (some b5))) (fun _ => ?_)
          clear hK9 K9
          (try simp only [Act.put, pq1, pq2, pq3])
          refine wpAnyH_take (i := 13) (oi := ⟨some 50, .slice 9 (.tmp 48) (some (.tmp 49)) none none, _, _, _, _⟩) (v := (.string T2)) rfl (by kernel_rfl) (by kernel_rfl) (by kernel_rfl) (fun _ _ _ h => h) (Or.inl ⟨by rfl, fun V (hV : W6.grownBy V (some b5)) => by (have hv1 := unhide HS2 V; go_simp)⟩) (gb_drew (gb_refl W6 (some b5))) ?_
          (try simp only [Act.put, pq1, pq2, pq3])
          refine wpAnyH_take (i := 14) (oi := ⟨some 51, .binOp .add 9 (.tmp 43) (.tmp 50) 9, _, _, _, _⟩) (v := (.string T3)) rfl (by kernel_rfl) (by kernel_rfl) (by kernel_rfl) (fun _ _ _ h => h) (Or.inl ⟨by rfl, fun V (hV : W6.grownBy V (some b5)) => by (have hv1 := unhide HADD; have hv2 := unhide HSZ; go_simp)⟩) (gb_drew (gb_refl W6 (some b5))) ?_
          (try simp only [Act.put, pq1, pq2, pq3])
          refine wpAnyH_take (i := 15) (oi := ⟨some 52, .indexAddr 27 (.tmp 37) (.tmp 39), _, _, _, _⟩) (v := (.pointer (some ⟨b5, I, none⟩))) rfl (by kernel_rfl) (by kernel_rfl) (by kernel_rfl) (fun _ _ _ h => h) (Or.inl ⟨by rfl, fun V (hV : W6.grownBy V (some b5)) => by go_simp⟩) (gb_drew (gb_refl W6 (some b5))) ?_
          (try simp only [Act.put, pq1, pq2, pq3])
          refine wpAnyH_ready (rs := [16]) (by kernel_rfl) (by simp) ?_
          refine AllReadyH.cons (o := ⟨none, .store 9 (.tmp 52) (.tmp 51), _, _, _, _⟩) rfl (fun K9 hK9 => ?_) AllReadyH.nil
          have hv1 : W6.drew.cell? ⟨b5, I, none⟩ = some (.string TP) := unhide HCP
          have hv2 : W6.drew.frozen? ⟨b5, I, none⟩ = false := unhide HCF
          go_simp
          refine hK9.out _ _ (gb_drew (gb_set W6 b5 I (.string T3))) (fun _ => ?_)
          clear hK9 K9 hv1 hv2
          (try simp only [Act.put, pq1, pq2, pq3])
          refine wpAnyH_done (by kernel_rfl) ?_ _
          refine NoPanic.normal ?_
          go_wp2
          go_roundw
          case rel => exact ⟨j + 1, by go_num, by omega, HFIN⟩
          case measure => simp [intOf]; omega
    · have hji : ¬ (j : Int) < (n2 : Int) := by omega
      have hall : D.U.take j = D.U := List.take_of_length_le (by have := unhide HN2; omega)
      have HRR := HR
      rw [hall] at HRR
      have hra := blk_all ((unhide HRR).2.1.set 0 (.slice (some ⟨b5, 0, none⟩) n1 c5) |>.set 1 (.slice none 0 0))
      have g7 : wr.grownBy ((wr.setCell ⟨w.heap.size, 0, none⟩ (.slice (some ⟨b5, 0, none⟩) n1 c5)).setCell ⟨w.heap.size, 1, none⟩ (.slice none 0 0)) (some w.heap.size) := gb_setCell (gb_set _ _ _ _) _ _ (Or.inr rfl)
      have hd7 := ((unhide HRR).2.2.1.other ⟨w.heap.size, 0, none⟩ (.slice (some ⟨b5, 0, none⟩) n1 c5) (by simp)).other ⟨w.heap.size, 1, none⟩ (.slice none 0 0) (by simp)
      have f0 := (unhide HRR).2.1.fz 0
      have f1 := ((unhide HRR).2.1.set 0 (.slice (some ⟨b5, 0, none⟩) n1 c5)).fz 1
      have c0 := (unhide HRR).2.1.cell 0
      have c1 := ((unhide HRR).2.1.set 0 (.slice (some ⟨b5, 0, none⟩) n1 c5)).cell 1
      simp only [List.set_cons_zero, List.set_cons_succ, List.getElem?_cons_zero, List.getElem?_cons_succ] at c0 c1 hra
      have ho7 := World.ownsRow.kept (unhide HRR).1 g7 (Or.inr fun e => own_apart_t (unhide HRR).1 (unhide HRR).2.1 (by decide) e.symm)
      obtain ⟨W7, hW7⟩ : ∃ W, W = (wr.setCell ⟨w.heap.size, 0, none⟩ (.slice (some ⟨b5, 0, none⟩) n1 c5)).setCell ⟨w.heap.size, 1, none⟩ (.slice none 0 0) := ⟨_, rfl⟩
      rw [← hW7] at hra hd7 g7 ho7
      have hg7 : w.grownBy W7 none := gb_trans (unhide HRR).2.2.2 g7 (fun x e => Or.inl (by cases e; exact Nat.le_refl _))
      have HRES : Hid (RdW (W7.setRow (w.heap.size + 1) #[.slice (some ⟨b5, 0, none⟩) n1 c5, .slice none 0 0, .int .i64 lf, .bool dn]) (some ⟨b5, 0, none⟩) c5 none 0 (settleD (fateL L) D) ∧ (∀ ad, some (⟨b5, 0, none⟩ : Addr) = some ad → w.heap.size ≤ ad.block ∧ ad.block < (W7.setRow (w.heap.size + 1) #[.slice (some ⟨b5, 0, none⟩) n1 c5, .slice none 0 0, .int .i64 lf, .bool dn]).heap.size) ∧ w.grownBy (W7.setRow (w.heap.size + 1) #[.slice (some ⟨b5, 0, none⟩) n1 c5, .slice none 0 0, .int .i64 lf, .bool dn]) none) := by
        have g8 : W7.grownBy (W7.setRow (w.heap.size + 1) #[.slice (some ⟨b5, 0, none⟩) n1 c5, .slice none 0 0, .int .i64 lf, .bool dn]) (some (w.heap.size + 1)) := gb_row (gb_refl _ _) _ (Or.inr rfl)
        have ho8 := World.ownsRow.kept ho7 g8 (Or.inr fun e => own_apart_t ho7 hd7 (by decide) e.symm)
        have el : ((layAll (fateL L) 0 D.U D.safe).map sc1).length = n1 := by rw [List.length_map, layAll_len, unhide HN1]
        obtain ⟨ao, c, e1, e2, e3⟩ := Cel.own (L := (layAll (fateL L) 0 D.U D.safe).map sc1) (by rw [el]; exact ho8) (sc1_one _)
        injection e1 with q1 q2 q3
        refine ⟨⟨?_, ?_⟩, ?_, gb_trans hg7 g8 (fun x e => by cases e; exact Or.inl (by omega))⟩
        · subst q1 q3; exact e2
        · exact ⟨fun _ => ⟨rfl, rfl⟩, Nat.le_refl _, Nat.zero_le _, (fun _ e => by cases e), (fun _ e => by cases e)⟩
        · intro ad e
          have h4 := ho8.lt ad.block (by rw [e]; rfl)
          have := (unhide HS3).2
          exact ⟨by omega, h4.2⟩
      have HEQ : Hid (rdC (some ⟨b5, 0, none⟩) c5 none 0 (settleD (fateL L) D) = [.slice (some ⟨b5, 0, none⟩) n1 c5, .slice none 0 0, .int .i64 lf, .bool dn]) := by
        rw [unhide HN1, (unhide HLF).1, (unhide HLF).2]
        unfold rdC
        rw [show (settleD (fateL L) D).safe.length = D.safe.length from layAll_len _ _ _ _]
        rfl
      have HW7 := hide hW7
      have HD7 := hide hd7
      clear hall HR HRR hW7 g7 hg7 ho7 hd7
      go_wp2_with (first
        | (rw [← unhide HW7])
        | (refine wpList_load_mid rfl 30 _ rfl w.heap.size 0 rfl [.slice (some ⟨b5, 0, none⟩) n1 c5, .slice none 0 0, .int .i64 lf, .bool dn] _ hra Try.underlying30 rfl info_rd ?_; clear hra)
        | (have hB9 := unhide HD7; refine wpList_store_row rfl 30 _ _ rfl (w.heap.size + 1) _ rfl rfl _ _ hB9 info_rd rfl (rd4_one _ _ _ _ _ _ _ _) ?_; clear hB9))
      refine bodyPost_ret (results_cell_row rfl _ _ _ _ _ _ _ rfl ((unhide HD7).row [.slice (some ⟨b5, 0, none⟩) n1 c5, .slice none 0 0, .int .i64 lf, .bool dn]) Try.underlying30 rfl info_rd) rfl ?_
      exact ⟨_, _, by rw [unhide HEQ], unhide HRES⟩

end Go.Proofs.Ytfaipdifkmjdeaa
