/- '[]byte(s)': a string's bytes, in memory of their own. No condition but those that each lemma names. -/
import Derived.Test.YtcemdlcimhoeeaaDoorMGrd
import Derived.Test.YtcemdlcimhoeeaaDoorMBlk
import Derived.Laws.IdiomStrings
import Derived.Test.YtcemdlcimhoeeaaDoorOData
namespace Go.Proofs.YtcemdlcimhoeeaaDoor
open Go.RowKit

/-- '[]byte(s)'. -/
theorem str_bytes (w : World) (l : List UInt8) (hl : l.length ≤ maxLen) : ∃ cap W1, (convert 9 32 (.string (str l))).run Tryd.prog w = .ok (.slice (some ⟨w.heap.size, 0, none⟩) l.length cap) W1 ∧ Bts W1 (some ⟨w.heap.size, 0, none⟩) cap l ∧ w.grownBy W1 none := by
  have h := run_bytes_of_string (P := Tryd.prog) w 9 32 5 (str l) Tryd.underlying9 Tryd.underlying32 Tryd.underlying5
  rw [str_size] at h
  refine ⟨_, _, h, ?_, gb_alloc (gb_drew (gb_refl _ _)) _⟩
  refine ⟨(fun e => by cases e), grownCap_ge _ _ _ _, grownCap_le_maxLen _ _ _ _ hl, (fun ad e _ => by cases e; rfl), (fun ad e i hi => ?_)⟩
  cases e
  have hh : (w.drew.alloc (.cells (bytesRow (str l) (grownCap w l.length 0 5)) 5 ((bytesRow (str l) (grownCap w l.length 0 5)).size, (bytesRow (str l) (grownCap w l.length 0 5)).size + 1))).heap[w.heap.size]? = some (.cells (bytesRow (str l) (grownCap w l.length 0 5)) 5 ((bytesRow (str l) (grownCap w l.length 0 5)).size, (bytesRow (str l) (grownCap w l.length 0 5)).size + 1)) := heap_alloc_new w.drew _
  rw [show (⟨w.heap.size, 0, none⟩ : Addr).off + i = i from Nat.zero_add i, cell_of_row _ _ _ _ _ _ hh]
  unfold bytesRow
  rw [Array.getElem?_append_left (by simp [str]; exact hi)]
  simp [str, hi]

theorem str_typ (w : World) (l : List UInt8) (hl : l.length ≤ maxLen) : ∃ cap W1, (convert 9 32 (.string (str l))).run Tryd.prog w = .ok (.slice (some ⟨w.heap.size, 0, none⟩) l.length cap) W1 ∧ Bts W1 (some ⟨w.heap.size, 0, none⟩) cap l ∧ Typ W1 w.heap.size ∧ w.grownBy W1 none := by
  obtain ⟨cap, W1, h1, h2, h3⟩ := str_bytes w l hl
  refine ⟨cap, W1, h1, h2, ?_, h3⟩
  have h := run_bytes_of_string (P := Tryd.prog) w 9 32 5 (str l) Tryd.underlying9 Tryd.underlying32 Tryd.underlying5
  rw [h] at h1
  injection h1 with _ h4
  rw [← h4]
  exact ⟨_, _, heap_alloc_new w.drew _⟩

end Go.Proofs.YtcemdlcimhoeeaaDoor

/- What object's layEntries lays: the data of a tree. Of at most 32 entries with names of at most 2 to the 40 bytes. -/
namespace Go.Proofs.YtcemdlcimhoeeaaDoor
open Go.RowKit

theorem lenU (n : Nat) (h : n < 18446744073709551616) : IntKind.u64.wrap (n : Int) = (n : Int) := by rw [IntKind.wrap_u64]; omega

theorem treeB_snoc (es : List EntL) (j : Nat) (hj : j < es.length) : (es.take (j + 1)).flatMap entB = (es.take j).flatMap entB ++ entB es[j] := by
  rw [List.take_succ_eq_append_getElem hj, List.flatMap_append]; simp

theorem entB_sum (es : List EntL) (M : Nat) (hid : ∀ e ∈ es, e.id.length = 32) (hs : ∀ e ∈ es, e.name.length ≤ M) : ∀ j, j ≤ es.length → ((es.take j).flatMap entB).length ≤ j * (M + 37) := by
  intro j
  induction j with
  | zero => intro _; simp
  | succ j ih =>
    intro hj
    have h1 := ih (by omega)
    have h2 := hid _ (List.getElem_mem (l := es) (n := j) (by omega))
    have h3 := hs _ (List.getElem_mem (l := es) (n := j) (by omega))
    rw [treeB_snoc es j (by omega), List.length_append]
    simp only [entB, List.length_append, lb_len, layS_len, Nat.succ_mul]
    omega

set_option maxRecDepth 100000 in
set_option maxHeartbeats 2000000 in
theorem layEnts_any (w : World) (ao : Option Addr) (c : Nat) (es : List EntL) (hE : Ens w ao c es) (hn : es.length ≤ 32) (hs : ∀ e ∈ es, e.name.length ≤ 1000000) :
    Calls Tryd.prog 24 #[.slice ao es.length c] w fun e w' => ∃ v, e = .returned v ∧ NewB w w' v (treeB es) ∧ w.grownBy w' none := by
  obtain ⟨Z, hZ, hzv⟩ := zero_ent
  have cp := put_own w none 0 [] es.length 2 (Bts.nil w) (by simp)
  have hsum := entB_sum es 1000000 hE.ids hs
  have hcv := lenU es.length (by omega)
  have HA : Hid (∀ i (hi : i < es.length), (lb es.length 2 ++ (es.take (i + 1)).flatMap entB) = (((lb es.length 2 ++ (es.take i).flatMap entB) ++ lb (dirN es[i].dir) 1) ++ layS es[i].name) ++ es[i].id) := by
    intro i hi
    rw [treeB_snoc es i hi]
    simp [entB]
  have HN := hide hn
  obtain ⟨n, hln⟩ : ∃ n, n = es.length := ⟨_, rfl⟩
  have hn' : n ≤ 32 := by omega
  rw [← hln] at cp hcv hsum ⊢
  rw [show nb 2 = 2 from by decide, List.nil_append] at cp
  have HE := hide hE
  have HM := hide hs
  have HS := hide hsum
  have HL := hide hln
  have HZ := hide hZ
  clear hE hsum hs hln hn hZ
  go_enter Tryd.func24, Tryd.ntmps24
  go_wp2_with (go_at_call 42; refine cp.mono ?_; rintro e w1 ⟨v1, rfl, ho1, g1⟩; clear cp)
  go_loopw [3, 13] (fun v i wr => ∃ j : Nat, i = .int .i64 j ∧ j ≤ n ∧ wr.ownsRow w.heap.size 5 1 v (lb n 2 ++ (es.take j).flatMap entB).length ((lb n 2 ++ (es.take j).flatMap entB).map bv) ∧ w.grownBy wr none) (fun _ i _ => n - (intOf i).toNat)
  case atStart => exact ⟨0, rfl, Nat.zero_le _, by simpa using ho1, g1⟩
  case round =>
    obtain ⟨j, rfl, hj, ho, hg⟩ := hrel
    by_cases hlt : j < n
    · have hlt' : j < es.length := by have := unhide HL; omega
      obtain ⟨b, o, hao, hrow⟩ := (unhide HE).at j hlt'
      have hr := range_kept (hrow j hlt') hg (by simp)
      have hid := (unhide HE).ids _ (List.getElem_mem hlt')
      have hnl := (unhide HM) _ (List.getElem_mem hlt')
      have hle := unhide HS j hj
      have hnew := unhide HA j hlt'
      rw [← unhide HL] at hnew
      obtain ⟨E, hEE⟩ : ∃ E, E = es[j] := ⟨_, rfl⟩
      rw [← hEE] at hr hid hnl hnew
      obtain ⟨P0, hP0⟩ : ∃ L, L = lb n 2 ++ (es.take j).flatMap entB := ⟨_, rfl⟩
      have hl0 : P0.length ≤ 100000000 := by
        rw [hP0, List.length_append, lb_len]
        have : j * (1000000 + 37) ≤ 32 * (1000000 + 37) := Nat.mul_le_mul_right _ (by omega)
        omega
      rw [← hP0] at ho hnew
      obtain ⟨P1, hP1⟩ : ∃ L, L = lb n 2 ++ (es.take (j + 1)).flatMap entB := ⟨_, rfl⟩
      rw [← hP1] at hnew
      have HP1 := hide hP1
      clear hrow hEE hP0 hle hP1
      subst hao
      obtain ⟨nm, D, id⟩ := E
      simp only at hid hnl hnew
      obtain ⟨EC, hEC⟩ : ∃ L, L = enC ⟨nm, D, id⟩ := ⟨_, rfl⟩
      have hEl : EC.length = 34 := by rw [hEC]; exact enC_len _ hid
      have hEo : EC.toArray.all (·.oneCell') = true := by rw [hEC]; exact all_oneCell_toArray (enC_one _)
      obtain ⟨W, hW, hB, gW⟩ := row_new wr 41 Z EC
      have hc0 : W.cell? ⟨wr.heap.size, 0, none⟩ = some (.string (str nm)) := by rw [hB.cell 0, hEC]; rfl
      have hc1 : W.cell? ⟨wr.heap.size, 1, none⟩ = some (.bool D) := by rw [hB.cell 1, hEC]; rfl
      have hRI : W.rangeAt wr.heap.size 2 (id.map bv) := by
        have := blk_all hB
        rw [hEC] at this
        simpa using en_id this
      rw [← hEC] at hr
      have hG := tn hg gW
      obtain ⟨hl1, ao1, k1, hv1, hb1, _⟩ := own_read (own_keep ho gW)
      subst hv1
      have HW := hide hW
      have HWB := hide hB
      have HEC := hide hEC
      have HEO := hide hEo
      have HRI := hide hRI
      have HHG := hide hG
      have hiE : (Tryd.prog.info? 41).map (·.size) = some EC.length := by rw [hEl]; exact info_ent
      have HIE := hide hiE
      have hZE : Z.size = EC.toArray.size := by rw [unhide HZ]; simp [hEl]
      have HZE := hide hZE
      have cput := put_own W ao1 k1 P0 (dirN D) 1 hb1 (by omega)
      rw [show nb 1 = 1 from by decide, ← hl1] at cput
      have hlp : (P0 ++ lb (dirN D) 1).length ≤ 100000001 := by rw [List.length_append, lb_len]; omega
      obtain ⟨Q1, hQ1⟩ : ∃ Q, Q = P0 ++ lb (dirN D) 1 := ⟨_, rfl⟩
      obtain ⟨Q2, hQ2⟩ : ∃ Q, Q = Q1 ++ layS nm := ⟨_, rfl⟩
      rw [← hQ1] at cput hlp hnew
      rw [← hQ2] at hnew
      have hlb : Q2.length + 32 ≤ 140737488355328 := by rw [hQ2, List.length_append, layS_len]; omega
      have HLB := hide hlb
      have HQ2 := hide hQ2
      clear hQ1 hlb hQ2
      have HLP := hide hlp
      have HNW := hide hnew
      obtain ⟨N, hN⟩ : ∃ N, N = str nm := ⟨_, rfl⟩
      have HNN := hide hN
      rw [← hN] at hc0
      clear hW hB hEC hEo hnew hRI hG hiE hZE hb1 ho hl1 hlp hN hEl hl0
      cases D
      all_goals
        go_wp2_with (first
          | (refine wpList_load_mid rfl 41 _ rfl b (o + j * 34) rfl EC _ hr Tryd.underlying41 rfl (unhide HIE) ?_; clear hr)
          | (refine wpList_store_row rfl 41 _ _ rfl wr.heap.size EC.toArray rfl rfl _ _ (heap_alloc_new _ _) (by simpa using unhide HIE) (unhide HZE) (unhide HEO) ?_; rw [← unhide HW]))
        refine cput.mono ?_
        rintro e w2 ⟨v2, rfl, ho2, g2⟩
        obtain ⟨hl2, ao2, k2, hv2, hb2, _⟩ := own_read ho2
        subst hv2
        have hc2 := g2.cell hc0 (by simp)
        have hR2 := range_kept (unhide HRI) g2 (by simp)
        have G2 := tn (unhide HHG) g2
        obtain ⟨cap, W3, hcv, hb3, g3⟩ := str_bytes w2 nm (by unfold maxLen; omega)
        rw [← unhide HNN] at hcv
        have cs := sizedl_own W3 ao2 _ k2 cap _ nm (hb2.kept g3 (fun _ e => by cases e)) hb3 (by have := unhide HLP; omega)
        have G3 := hide (tn G2 g3)
        have R3 := hide (range_kept hR2 g3 (by simp))
        clear hb2 hb3 cput hc0 hc1 ho2 g2 hR2 G2 g3
        go_wp2_with fail
        refine cs.mono ?_
        rintro e w4 ⟨v4, rfl, ho4, g4⟩
        rw [← unhide HQ2] at ho4
        have hbI : Bts w4 (some ⟨wr.heap.size, 2, none⟩) 32 id := by
          have := range_bts (range_kept (unhide R3) g4 (by simp)) (by rw [hid]; unfold maxLen; omega)
          rwa [hid] at this
        have G4 := hide (tn (unhide G3) g4)
        have ho4' := hide (own_low ho4 (unhide G3).size)
        have hsl := slice_wid wr.heap.size 2
        have hs4 : w.heap.size ≤ w4.heap.size := (unhide G4).size
        clear cs hcv hc2 g4 ho4 R3 G3
        go_wp2_with (refine wpList_append_btm rfl _ _ rfl w.heap.size _ _ _ rfl (unhide ho4') _ _ id hbI 32 hid.symm rfl (unhide HLB) hs4 ?_; intro v5 w5 ho5 g5; have G5 := hide (own_grow (unhide G4) (unhide ho4') g5); have HO5 := hide ho5; clear g5 ho5 ho4' G4 hbI)
        go_roundw
        case rel =>
          refine ⟨j + 1, by go_num, by omega, ?_, unhide G5⟩
          have := unhide HO5
          rw [← unhide HP1, unhide HNW, List.length_append, List.map_append, hid]
          exact this
        case measure => simp [intOf]; omega
    · have hjn : j = n := by omega
      have hfin : lb n 2 ++ (es.take j).flatMap entB = treeB es := by
        rw [hjn, unhide HL, List.take_of_length_le (Nat.le_refl _)]; rfl
      rw [hfin] at ho
      have HO := hide ho
      clear ho hfin hjn
      go_wp2
      go_ret
      exact ⟨_, rfl, NewB.own (unhide HO), hg⟩

end Go.Proofs.YtcemdlcimhoeeaaDoor
