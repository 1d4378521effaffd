/- What waiting's Swap leaves: two commits have changed places. -/
import Derived.Test.YtlifmipnoeioaaaGreatDoorGWait
namespace Go.Proofs.YtlifmipnoeioaaaGreatDoor
open Go.RowKit

theorem own_blkof {w : World} {base k n g cap : Nat} {t : TypeId} {xs : List Value} (h : w.ownsRow base t k (.slice (some ⟨g, 0, none⟩) n cap) n xs) : ∃ sp, Blk w g t (xs ++ sp) ∧ (xs ++ sp).length = cap * k ∧ n ≤ cap ∧ cap ≤ maxLen ∧ base ≤ g := by
  rcases h.2 with ⟨h1, _⟩ | ⟨g', cap', cur, hv, hg, hh, h3, h4, h5, h6⟩
  · cases h1
  · cases hv
    refine ⟨cur.toList.drop (n * k), ?_, ?_, h3, h4, hg⟩
    · rw [← h6, List.take_append_drop]
      unfold Blk
      rw [hh]
    · rw [← h6, List.take_append_drop]
      simpa using h5
theorem blk_ownof {w : World} {base k n g cap : Nat} {t : TypeId} {xs sp : List Value} (hB : Blk w g t (xs ++ sp)) (hx : xs.length = n * k) (hl : (xs ++ sp).length = cap * k) (h1 : n ≤ cap) (h2 : cap ≤ maxLen) (hg : base ≤ g) : w.ownsRow base t k (.slice (some ⟨g, 0, none⟩) n cap) n xs :=
  ⟨hx, Or.inr ⟨g, cap, (xs ++ sp).toArray, rfl, hg, hB, h1, h2, by simpa using hl, by simp [← hx]⟩⟩

/-- One of a row of the call's own is written. -/
theorem own_setAt {α : Type} (f : α → List Value) (k : Nat) {w : World} {base g cap : Nat} {t : TypeId} {L : List α} (h : w.ownsRow base t k (.slice (some ⟨g, 0, none⟩) L.length cap) L.length (L.flatMap f)) (hf : ∀ x ∈ L, (f x).length = k) (i : Nat) (hi : i < L.length) (x : α) (hx : (f x).length = k) :
    (w.setCells g (i * k) (f x)).ownsRow base t k (.slice (some ⟨g, 0, none⟩) L.length cap) L.length ((L.set i x).flatMap f) ∧ w.grownBy (w.setCells g (i * k) (f x)) (some g) := by
  obtain ⟨sp, hB, hl, h1, h2, hg⟩ := own_blkof h
  have hsplit : L.flatMap f = (L.take i).flatMap f ++ (f L[i] ++ (L.drop (i + 1)).flatMap f) := by
    conv => lhs; rw [← List.take_append_drop i L, List.drop_eq_getElem_cons hi]
    rw [List.flatMap_append, List.flatMap_cons]
  have hset : (L.set i x).flatMap f = (L.take i).flatMap f ++ (f x ++ (L.drop (i + 1)).flatMap f) := by
    rw [List.set_eq_take_append_cons_drop, if_pos hi, List.flatMap_append, List.flatMap_cons]
  have hA : ((L.take i).flatMap f).length = i * k := by
    rw [flat_len2 f k (L.take i) (fun y hy => hf y (List.mem_of_mem_take hy)), List.length_take, Nat.min_eq_left (Nat.le_of_lt hi)]
  have hB2 : Blk w g t ((L.take i).flatMap f ++ (f L[i] ++ ((L.drop (i + 1)).flatMap f ++ sp))) := by
    rw [hsplit] at hB
    simpa using hB
  have hS := Blk.setCells (f x) (f L[i]) hB2 (by rw [hf _ (List.getElem_mem hi), hx])
  rw [hA] at hS
  have hS2 : Blk (w.setCells g (i * k) (f x)) g t ((L.set i x).flatMap f ++ sp) := by
    rw [hset]
    simpa using hS
  have hfl : ((L.set i x).flatMap f).length = L.length * k := by
    rw [flat_len2 f k (L.set i x) (fun y hy => by
      rcases List.mem_or_eq_of_mem_set hy with hy | rfl
      · exact hf y hy
      · exact hx), List.length_set]
  have hl2 : ((L.set i x).flatMap f ++ sp).length = cap * k := by
    have h3 : (L.flatMap f).length = L.length * k := flat_len2 f k L hf
    rw [List.length_append] at hl ⊢
    omega
  exact ⟨blk_ownof hS2 hfl hl2 h1 h2 hg, gb_setCells (Or.inr rfl) _ _ (gb_refl _ _)⟩
theorem own_thereAt {α : Type} (f : α → List Value) (k : Nat) {w : World} {base g cap : Nat} {t : TypeId} {L : List α} (h : w.ownsRow base t k (.slice (some ⟨g, 0, none⟩) L.length cap) L.length (L.flatMap f)) (hf : ∀ x ∈ L, (f x).length = k) (i : Nat) (hi : i < L.length) : w.there g (i * k) k := by
  obtain ⟨sp, hB, hl, h1, h2, hg⟩ := own_blkof h
  intro j hj
  have h3 : (L.flatMap f).length = L.length * k := flat_len2 f k L hf
  have h4 : (i + 1) * k ≤ L.length * k := Nat.mul_le_mul_right k hi
  rw [Nat.succ_mul] at h4
  exact hB.there (i * k) k (by rw [List.length_append]; omega) j hj

/-- Two have changed places. -/
def swapL (H : List CmR) (i j : Nat) (hi : i < H.length) (hj : j < H.length) : List CmR := (H.set i H[j]).set j H[i]

set_option maxRecDepth 100000 in
set_option maxHeartbeats 4000000 in
theorem wswap_any (w : World) (base wb : Nat) (sp : Option Addr) (v : Value) (H : List CmR) (h : WaitAt w base wb sp v H) (i j : Nat) (hi : i < H.length) (hj : j < H.length) (hl : H.length ≤ 100000) :
    Calls Tryz.prog 201 #[.pointer (some ⟨wb, 0, none⟩), .int .i64 (i : Int), .int .i64 (j : Int)] w fun e w' => e = .returned (.tuple #[]) ∧ WaitAt w' base wb sp v (swapL H i j hi hj) ∧ w.grownBy w' v.ownBlock := by
  obtain ⟨g, cap, rfl, hg, hgl, hcap, hrow⟩ := h.row (by omega)
  have hc := h.cell.2
  have hrI := hrow i hi
  have hrJ := hrow j hj
  have hid := h.ids _ (List.getElem_mem hi)
  have hjd := h.ids _ (List.getElem_mem hj)
  have hgw : g ≠ wb := fun e => own_apart_t h.own h.blk (by decide) (by rw [← e]; rfl)
  have hf : ∀ x ∈ H, (cmC x).length = 34 := fun x hx => cmC_len x (h.ids x hx)
  obtain ⟨o1, g1⟩ := own_setAt cmC 34 h.own hf i hi H[j] (cmC_len _ hjd)
  have hl1 : (H.set i H[j]).length = H.length := List.length_set ..
  have hf1 : ∀ x ∈ H.set i H[j], (cmC x).length = 34 := fun x hx => by
    rcases List.mem_or_eq_of_mem_set hx with hx | rfl
    · exact hf x hx
    · exact cmC_len _ hjd
  obtain ⟨o2, g2⟩ := own_setAt (w := w.setCells g (i * 34) (cmC H[j])) (base := base) (cap := cap) cmC 34 (L := H.set i H[j]) (by rw [hl1]; exact o1) hf1 j (by rw [hl1]; exact hj) H[i] (cmC_len _ hid)
  rw [hl1] at o2
  have t1 : w.drew.there g (i * 34) 34 := own_thereAt cmC 34 h.own hf i hi
  have t2 : (w.drew.setCells g (i * 34) (cmC H[j])).there g (j * 34) 34 := World.there_setCells (w := w.drew) (show w.drew.there g (j * 34) 34 from own_thereAt cmC 34 h.own hf j hj) _ _ _
  have hdr : ∀ (b o : Nat) (l : List Value) (V : World), (V.setCells b o l).drew = V.drew.setCells b o l := by
    intro b o l
    induction l generalizing o with
    | nil => intro V; rfl
    | cons x l ih => intro V; simp only [World.setCells]; rw [ih]; rfl
  have hfin : WaitAt ((w.drew.setCells g (i * 34) (cmC H[j])).setCells g (j * 34) (cmC H[i])) base wb sp (.slice (some ⟨g, 0, none⟩) H.length cap) (swapL H i j hi hj) ∧ w.grownBy ((w.drew.setCells g (i * 34) (cmC H[j])).setCells g (j * 34) (cmC H[i])) (some g) := by
    have hlen : (swapL H i j hi hj).length = H.length := by simp [swapL]
    rw [← hdr, ← hdr]
    have gT : w.grownBy (((w.setCells g (i * 34) (cmC H[j])).setCells g (j * 34) (cmC H[i])).drew) (some g) := gb_drew (gb_trans g1 g2 (fun _ e => Or.inr e))
    refine ⟨⟨h.blk.kept gT (fun e => hgw (by cases e; rfl)), ?_, fun r hr => ?_, h.nb⟩, gT⟩
    · rw [hlen]
      exact o2.kept (gb_drew (gb_refl _ none)) (by simp [Value.ownBlock])
    · unfold swapL at hr
      rcases List.mem_or_eq_of_mem_set hr with hr | rfl
      · rcases List.mem_or_eq_of_mem_set hr with hr | rfl
        · exact h.ids r hr
        · exact hjd
      · exact hid
  obtain ⟨AC, hAC⟩ : ∃ A', A' = cmC H[i] := ⟨_, rfl⟩
  obtain ⟨BC, hBC⟩ : ∃ A', A' = cmC H[j] := ⟨_, rfl⟩
  rw [← hAC] at hrI hfin
  rw [← hBC] at hrJ hfin t2
  have hAl : AC.length = 34 := by rw [hAC]; exact cmC_len _ hid
  have hBl : BC.length = 34 := by rw [hBC]; exact cmC_len _ hjd
  have hAo : AC.toArray.all (·.oneCell') = true := by rw [hAC]; exact all_oneCell_toArray (cmC_one _)
  have hBo : BC.toArray.all (·.oneCell') = true := by rw [hBC]; exact all_oneCell_toArray (cmC_one _)
  have hiA : (Tryz.prog.info? 107).map (·.size) = some AC.length := by rw [hAl]; exact info_com
  have hiB : (Tryz.prog.info? 107).map (·.size) = some BC.length := by rw [hBl]; exact info_com
  have hiA2 : (Tryz.prog.info? 107).map (·.size) = some AC.toArray.size := by simpa using hiA
  have hiB2 : (Tryz.prog.info? 107).map (·.size) = some BC.toArray.size := by simpa using hiB
  have T1 : w.drew.there g (i * 34) BC.toArray.size := by rw [show BC.toArray.size = 34 by simpa using hBl]; exact t1
  have T2 : (w.drew.setCells g (i * 34) BC).there g (j * 34) AC.toArray.size := by rw [show AC.toArray.size = 34 by simpa using hAl]; exact t2
  have cS1 : ∀ V : World, V.cell? ⟨wb, 1, none⟩ = w.cell? ⟨wb, 1, none⟩ → ∀ o l, (V.setCells g o l).cell? ⟨wb, 1, none⟩ = w.cell? ⟨wb, 1, none⟩ := fun V hV o l => by
    rw [← hV]
    exact World.cell?_of_block ((gb_setCells (w := V) (r := some g) (Or.inr rfl) l o (gb_refl _ _)).block wb (World.block_lt_of_cell? V ⟨wb, 1, none⟩ (hV.trans hc)) (fun e => hgw (by cases e; rfl)))
  obtain ⟨n, hn⟩ : ∃ n, n = H.length := ⟨_, rfl⟩
  rw [← hn] at hc hfin ⊢
  have hi' : i < n := by omega
  have hj' : j < n := by omega
  have HIA := hide hiA
  have HIB := hide hiB
  have HIA2 := hide hiA2
  have HIB2 := hide hiB2
  have HAO := hide hAo
  have HBO := hide hBo
  have HT1 := hide T1
  have HT2 := hide T2
  have HF := hide hfin
  have HCS : Hid (∀ V : World, V.cell? ⟨wb, 1, none⟩ = some (.slice (some ⟨g, 0, none⟩) n cap) → ∀ o l, (V.setCells g o l).cell? ⟨wb, 1, none⟩ = some (.slice (some ⟨g, 0, none⟩) n cap)) := fun V hV o l => by
    rw [← hc]; exact cS1 V (hV.trans hc.symm) o l
  have h0 : w.drew.cell? ⟨wb, 1, none⟩ = some (.slice (some ⟨g, 0, none⟩) n cap) := hc
  have hrI0 : w.drew.rangeAt g (i * 34) AC := hrI
  have hrJ0 : w.drew.rangeAt g (j * 34) BC := hrJ
  clear h hrow hid hjd hf hf1 o1 o2 g1 g2 hl1 t1 t2 hdr hAC hBC hAl hBl hAo hBo hiA hiB hiA2 hiB2 T1 T2 cS1 hn hg hgl hcap hfin hgw hc hrI hrJ
  go_enter Tryz.func201, Tryz.ntmps201
  refine wp_region_noPanic ?_
  refine wp_region_held_drew (S := fun V => V.cell? ⟨wb, 1, none⟩ = some (.slice (some ⟨g, 0, none⟩) n cap)) (by kernel_rfl) h0 (fun _ => ?_)
  refine wpAnyH_take (i := 0) (oi := ⟨some 6, .move (.tmp 0), _, _, _, _⟩) (v := .pointer (some ⟨wb, 0, none⟩)) rfl (by kernel_rfl) (by kernel_rfl) (by kernel_rfl) (fun _ _ _ h => h) (Or.inl ⟨by rfl, fun V (hV : V.cell? ⟨wb, 1, none⟩ = some (.slice (some ⟨g, 0, none⟩) n cap)) => by go_simp⟩) h0 ?_
  (try simp only [Act.put, pq1, pq2, pq3])
  refine wpAnyH_take (i := 4) (oi := ⟨some 10, .move (.tmp 1), _, _, _, _⟩) (v := .int .i64 (i : Int)) rfl (by kernel_rfl) (by kernel_rfl) (by kernel_rfl) (fun _ _ _ h => h) (Or.inl ⟨by rfl, fun V (hV : V.cell? ⟨wb, 1, none⟩ = some (.slice (some ⟨g, 0, none⟩) n cap)) => by go_simp⟩) h0 ?_
  (try simp only [Act.put, pq1, pq2, pq3])
  refine wpAnyH_take (i := 5) (oi := ⟨some 11, .move (.tmp 0), _, _, _, _⟩) (v := .pointer (some ⟨wb, 0, none⟩)) rfl (by kernel_rfl) (by kernel_rfl) (by kernel_rfl) (fun _ _ _ h => h) (Or.inl ⟨by rfl, fun V (hV : V.cell? ⟨wb, 1, none⟩ = some (.slice (some ⟨g, 0, none⟩) n cap)) => by go_simp⟩) h0 ?_
  (try simp only [Act.put, pq1, pq2, pq3])
  refine wpAnyH_take (i := 9) (oi := ⟨some 15, .move (.tmp 2), _, _, _, _⟩) (v := .int .i64 (j : Int)) rfl (by kernel_rfl) (by kernel_rfl) (by kernel_rfl) (fun _ _ _ h => h) (Or.inl ⟨by rfl, fun V (hV : V.cell? ⟨wb, 1, none⟩ = some (.slice (some ⟨g, 0, none⟩) n cap)) => by go_simp⟩) h0 ?_
  (try simp only [Act.put, pq1, pq2, pq3])
  refine wpAnyH_take (i := 10) (oi := ⟨some 16, .move (.tmp 0), _, _, _, _⟩) (v := .pointer (some ⟨wb, 0, none⟩)) rfl (by kernel_rfl) (by kernel_rfl) (by kernel_rfl) (fun _ _ _ h => h) (Or.inl ⟨by rfl, fun V (hV : V.cell? ⟨wb, 1, none⟩ = some (.slice (some ⟨g, 0, none⟩) n cap)) => by go_simp⟩) h0 ?_
  (try simp only [Act.put, pq1, pq2, pq3])
  refine wpAnyH_take (i := 14) (oi := ⟨some 20, .move (.tmp 2), _, _, _, _⟩) (v := .int .i64 (j : Int)) rfl (by kernel_rfl) (by kernel_rfl) (by kernel_rfl) (fun _ _ _ h => h) (Or.inl ⟨by rfl, fun V (hV : V.cell? ⟨wb, 1, none⟩ = some (.slice (some ⟨g, 0, none⟩) n cap)) => by go_simp⟩) h0 ?_
  (try simp only [Act.put, pq1, pq2, pq3])
  refine wpAnyH_take (i := 17) (oi := ⟨some 23, .move (.tmp 0), _, _, _, _⟩) (v := .pointer (some ⟨wb, 0, none⟩)) rfl (by kernel_rfl) (by kernel_rfl) (by kernel_rfl) (fun _ _ _ h => h) (Or.inl ⟨by rfl, fun V (hV : V.cell? ⟨wb, 1, none⟩ = some (.slice (some ⟨g, 0, none⟩) n cap)) => by go_simp⟩) h0 ?_
  (try simp only [Act.put, pq1, pq2, pq3])
  refine wpAnyH_take (i := 21) (oi := ⟨some 27, .move (.tmp 1), _, _, _, _⟩) (v := .int .i64 (i : Int)) rfl (by kernel_rfl) (by kernel_rfl) (by kernel_rfl) (fun _ _ _ h => h) (Or.inl ⟨by rfl, fun V (hV : V.cell? ⟨wb, 1, none⟩ = some (.slice (some ⟨g, 0, none⟩) n cap)) => by go_simp⟩) h0 ?_
  (try simp only [Act.put, pq1, pq2, pq3])
  refine wpAnyH_take (i := 1) (oi := ⟨some 7, .nilCheck (.tmp 6), _, _, _, _⟩) (v := .pointer (some ⟨wb, 0, none⟩)) rfl (by kernel_rfl) (by kernel_rfl) (by kernel_rfl) (fun _ _ _ h => h) (Or.inl ⟨by rfl, fun V (hV : V.cell? ⟨wb, 1, none⟩ = some (.slice (some ⟨g, 0, none⟩) n cap)) => by go_simp⟩) h0 ?_
  (try simp only [Act.put, pq1, pq2, pq3])
  refine wpAnyH_take (i := 6) (oi := ⟨some 12, .nilCheck (.tmp 11), _, _, _, _⟩) (v := .pointer (some ⟨wb, 0, none⟩)) rfl (by kernel_rfl) (by kernel_rfl) (by kernel_rfl) (fun _ _ _ h => h) (Or.inl ⟨by rfl, fun V (hV : V.cell? ⟨wb, 1, none⟩ = some (.slice (some ⟨g, 0, none⟩) n cap)) => by go_simp⟩) h0 ?_
  (try simp only [Act.put, pq1, pq2, pq3])
  refine wpAnyH_take (i := 11) (oi := ⟨some 17, .nilCheck (.tmp 16), _, _, _, _⟩) (v := .pointer (some ⟨wb, 0, none⟩)) rfl (by kernel_rfl) (by kernel_rfl) (by kernel_rfl) (fun _ _ _ h => h) (Or.inl ⟨by rfl, fun V (hV : V.cell? ⟨wb, 1, none⟩ = some (.slice (some ⟨g, 0, none⟩) n cap)) => by go_simp⟩) h0 ?_
  (try simp only [Act.put, pq1, pq2, pq3])
  refine wpAnyH_take (i := 18) (oi := ⟨some 24, .nilCheck (.tmp 23), _, _, _, _⟩) (v := .pointer (some ⟨wb, 0, none⟩)) rfl (by kernel_rfl) (by kernel_rfl) (by kernel_rfl) (fun _ _ _ h => h) (Or.inl ⟨by rfl, fun V (hV : V.cell? ⟨wb, 1, none⟩ = some (.slice (some ⟨g, 0, none⟩) n cap)) => by go_simp⟩) h0 ?_
  (try simp only [Act.put, pq1, pq2, pq3])
  refine wpAnyH_take (i := 2) (oi := ⟨some 8, .fieldAddr 102 (.tmp 7) 1, _, _, _, _⟩) (v := .pointer (some ⟨wb, 1, none⟩)) rfl (by kernel_rfl) (by kernel_rfl) (by kernel_rfl) (fun _ _ _ h => h) (Or.inl ⟨by rfl, fun V (hV : V.cell? ⟨wb, 1, none⟩ = some (.slice (some ⟨g, 0, none⟩) n cap)) => by go_simp⟩) h0 ?_
  (try simp only [Act.put, pq1, pq2, pq3])
  refine wpAnyH_take (i := 7) (oi := ⟨some 13, .fieldAddr 102 (.tmp 12) 1, _, _, _, _⟩) (v := .pointer (some ⟨wb, 1, none⟩)) rfl (by kernel_rfl) (by kernel_rfl) (by kernel_rfl) (fun _ _ _ h => h) (Or.inl ⟨by rfl, fun V (hV : V.cell? ⟨wb, 1, none⟩ = some (.slice (some ⟨g, 0, none⟩) n cap)) => by go_simp⟩) h0 ?_
  (try simp only [Act.put, pq1, pq2, pq3])
  refine wpAnyH_take (i := 12) (oi := ⟨some 18, .fieldAddr 102 (.tmp 17) 1, _, _, _, _⟩) (v := .pointer (some ⟨wb, 1, none⟩)) rfl (by kernel_rfl) (by kernel_rfl) (by kernel_rfl) (fun _ _ _ h => h) (Or.inl ⟨by rfl, fun V (hV : V.cell? ⟨wb, 1, none⟩ = some (.slice (some ⟨g, 0, none⟩) n cap)) => by go_simp⟩) h0 ?_
  (try simp only [Act.put, pq1, pq2, pq3])
  refine wpAnyH_take (i := 19) (oi := ⟨some 25, .fieldAddr 102 (.tmp 24) 1, _, _, _, _⟩) (v := .pointer (some ⟨wb, 1, none⟩)) rfl (by kernel_rfl) (by kernel_rfl) (by kernel_rfl) (fun _ _ _ h => h) (Or.inl ⟨by rfl, fun V (hV : V.cell? ⟨wb, 1, none⟩ = some (.slice (some ⟨g, 0, none⟩) n cap)) => by go_simp⟩) h0 ?_
  (try simp only [Act.put, pq1, pq2, pq3])
  refine wpAnyH_take (i := 3) (oi := ⟨some 9, .load 100 (.tmp 8), _, _, _, _⟩) (v := .slice (some ⟨g, 0, none⟩) n cap) rfl (by kernel_rfl) (by kernel_rfl) (by kernel_rfl) (fun _ _ _ h => h) (Or.inl ⟨by rfl, fun V (hV : V.cell? ⟨wb, 1, none⟩ = some (.slice (some ⟨g, 0, none⟩) n cap)) => by go_simp⟩) h0 ?_
  (try simp only [Act.put, pq1, pq2, pq3])
  refine wpAnyH_take (i := 8) (oi := ⟨some 14, .load 100 (.tmp 13), _, _, _, _⟩) (v := .slice (some ⟨g, 0, none⟩) n cap) rfl (by kernel_rfl) (by kernel_rfl) (by kernel_rfl) (fun _ _ _ h => h) (Or.inl ⟨by rfl, fun V (hV : V.cell? ⟨wb, 1, none⟩ = some (.slice (some ⟨g, 0, none⟩) n cap)) => by go_simp⟩) h0 ?_
  (try simp only [Act.put, pq1, pq2, pq3])
  refine wpAnyH_take (i := 13) (oi := ⟨some 19, .load 100 (.tmp 18), _, _, _, _⟩) (v := .slice (some ⟨g, 0, none⟩) n cap) rfl (by kernel_rfl) (by kernel_rfl) (by kernel_rfl) (fun _ _ _ h => h) (Or.inl ⟨by rfl, fun V (hV : V.cell? ⟨wb, 1, none⟩ = some (.slice (some ⟨g, 0, none⟩) n cap)) => by go_simp⟩) h0 ?_
  (try simp only [Act.put, pq1, pq2, pq3])
  refine wpAnyH_take (i := 20) (oi := ⟨some 26, .load 100 (.tmp 25), _, _, _, _⟩) (v := .slice (some ⟨g, 0, none⟩) n cap) rfl (by kernel_rfl) (by kernel_rfl) (by kernel_rfl) (fun _ _ _ h => h) (Or.inl ⟨by rfl, fun V (hV : V.cell? ⟨wb, 1, none⟩ = some (.slice (some ⟨g, 0, none⟩) n cap)) => by go_simp⟩) h0 ?_
  (try simp only [Act.put, pq1, pq2, pq3])
  refine wpAnyH_take (i := 15) (oi := ⟨some 21, .indexAddr 100 (.tmp 19) (.tmp 20), _, _, _, _⟩) (v := .pointer (some ⟨g, j * 34, none⟩)) rfl (by kernel_rfl) (by kernel_rfl) (by kernel_rfl) (fun _ _ _ h => h) (Or.inl ⟨by rfl, fun V (hV : V.cell? ⟨wb, 1, none⟩ = some (.slice (some ⟨g, 0, none⟩) n cap)) => by go_simp⟩) h0 ?_
  (try simp only [Act.put, pq1, pq2, pq3])
  refine wpAnyH_take (i := 22) (oi := ⟨some 28, .indexAddr 100 (.tmp 26) (.tmp 27), _, _, _, _⟩) (v := .pointer (some ⟨g, i * 34, none⟩)) rfl (by kernel_rfl) (by kernel_rfl) (by kernel_rfl) (fun _ _ _ h => h) (Or.inl ⟨by rfl, fun V (hV : V.cell? ⟨wb, 1, none⟩ = some (.slice (some ⟨g, 0, none⟩) n cap)) => by go_simp⟩) h0 ?_
  (try simp only [Act.put, pq1, pq2, pq3])
  refine wpAnyH_ready (rs := [16, 23]) (by kernel_rfl) (by simp) ?_
  refine AllReadyH.cons (o := ⟨some 22, .load 107 (.tmp 21), _, _, _, _⟩) rfl (fun K9 hK9 => ?_) (AllReadyH.cons (o := ⟨some 29, .load 107 (.tmp 28), _, _, _, _⟩) rfl (fun K9 hK9 => ?_) AllReadyH.nil)
  · rw [if_pos (by rfl)]
    refine wp_load_mid _ _ rfl g (j * 34) rfl BC _ hrJ0 Tryz.underlying107 rfl (unhide HIB) ?_
    refine hK9.out _ _ h0 (fun _ => ?_)
    clear hK9 K9
    (try simp only [Act.put, pq1, pq2, pq3])
    refine wpAnyH_ready (rs := [23]) (by kernel_rfl) (by simp) ?_
    refine AllReadyH.cons (o := ⟨some 29, .load 107 (.tmp 28), _, _, _, _⟩) rfl (fun K9 hK9 => ?_) AllReadyH.nil
    rw [if_pos (by rfl)]
    refine wp_load_mid _ _ rfl g (i * 34) rfl AC _ hrI0 Tryz.underlying107 rfl (unhide HIA) ?_
    refine hK9.out _ _ h0 (fun _ => ?_)
    clear hK9 K9
    (try simp only [Act.put, pq1, pq2, pq3])
    refine wpAnyH_take (i := 24) (oi := ⟨some 30, .indexAddr 100 (.tmp 9) (.tmp 10), _, _, _, _⟩) (v := .pointer (some ⟨g, i * 34, none⟩)) rfl (by kernel_rfl) (by kernel_rfl) (by kernel_rfl) (fun _ _ _ h => h) (Or.inl ⟨by rfl, fun V (hV : V.cell? ⟨wb, 1, none⟩ = some (.slice (some ⟨g, 0, none⟩) n cap)) => by go_simp⟩) h0 ?_
    (try simp only [Act.put, pq1, pq2, pq3])
    refine wpAnyH_ready (rs := [25]) (by kernel_rfl) (by simp) ?_
    refine AllReadyH.cons (o := ⟨none, .store 107 (.tmp 30) (.tmp 22), _, _, _, _⟩) rfl (fun K9 hK9 => ?_) AllReadyH.nil
    rw [if_pos (by rfl)]
    refine wp_store_mid _ _ _ rfl g (i * 34) BC.toArray rfl rfl (unhide HT1) (unhide HIB2) (unhide HBO) ?_
    have h1 := unhide HCS _ h0 (i * 34) BC
    refine hK9.out _ _ h1 (fun _ => ?_)
    clear hK9 K9
    (try simp only [Act.put])
    refine wpAnyH_take (i := 26) (oi := ⟨some 31, .indexAddr 100 (.tmp 14) (.tmp 15), _, _, _, _⟩) (v := .pointer (some ⟨g, j * 34, none⟩)) rfl (by kernel_rfl) (by kernel_rfl) (by kernel_rfl) (fun _ _ _ h => h) (Or.inl ⟨by rfl, fun V (hV : V.cell? ⟨wb, 1, none⟩ = some (.slice (some ⟨g, 0, none⟩) n cap)) => by go_simp⟩) h1 ?_
    (try simp only [Act.put, pq1, pq2, pq3])
    refine wpAnyH_ready (rs := [27]) (by kernel_rfl) (by simp) ?_
    refine AllReadyH.cons (o := ⟨none, .store 107 (.tmp 31) (.tmp 29), _, _, _, _⟩) rfl (fun K9 hK9 => ?_) AllReadyH.nil
    rw [if_pos (by rfl)]
    refine wp_store_mid _ _ _ rfl g (j * 34) AC.toArray rfl rfl (unhide HT2) (unhide HIA2) (unhide HAO) ?_
    have h2 := unhide HCS _ h1 (j * 34) AC
    refine hK9.out _ _ h2 (fun _ => ?_)
    clear hK9 K9
    (try simp only [Act.put])
    refine wpAnyH_done (by kernel_rfl) ?_ _
    refine NoPanic.normal ?_
    clear hrI0 hrJ0
    go_wp2
    go_end0
    exact ⟨rfl, unhide HF⟩
  · rw [if_pos (by rfl)]
    refine wp_load_mid _ _ rfl g (i * 34) rfl AC _ hrI0 Tryz.underlying107 rfl (unhide HIA) ?_
    refine hK9.out _ _ h0 (fun _ => ?_)
    clear hK9 K9
    (try simp only [Act.put, pq1, pq2, pq3])
    refine wpAnyH_ready (rs := [16]) (by kernel_rfl) (by simp) ?_
    refine AllReadyH.cons (o := ⟨some 22, .load 107 (.tmp 21), _, _, _, _⟩) rfl (fun K9 hK9 => ?_) AllReadyH.nil
    rw [if_pos (by rfl)]
    refine wp_load_mid _ _ rfl g (j * 34) rfl BC _ hrJ0 Tryz.underlying107 rfl (unhide HIB) ?_
    refine hK9.out _ _ h0 (fun _ => ?_)
    clear hK9 K9
    (try simp only [Act.put, pq1, pq2, pq3])
    refine wpAnyH_take (i := 24) (oi := ⟨some 30, .indexAddr 100 (.tmp 9) (.tmp 10), _, _, _, _⟩) (v := .pointer (some ⟨g, i * 34, none⟩)) rfl (by kernel_rfl) (by kernel_rfl) (by kernel_rfl) (fun _ _ _ h => h) (Or.inl ⟨by rfl, fun V (hV : V.cell? ⟨wb, 1, none⟩ = some (.slice (some ⟨g, 0, none⟩) n cap)) => by go_simp⟩) h0 ?_
    (try simp only [Act.put, pq1, pq2, pq3])
    refine wpAnyH_ready (rs := [25]) (by kernel_rfl) (by simp) ?_
    refine AllReadyH.cons (o := ⟨none, .store 107 (.tmp 30) (.tmp 22), _, _, _, _⟩) rfl (fun K9 hK9 => ?_) AllReadyH.nil
    rw [if_pos (by rfl)]
    refine wp_store_mid _ _ _ rfl g (i * 34) BC.toArray rfl rfl (unhide HT1) (unhide HIB2) (unhide HBO) ?_
    have h1 := unhide HCS _ h0 (i * 34) BC
    refine hK9.out _ _ h1 (fun _ => ?_)
    clear hK9 K9
    (try simp only [Act.put])
    refine wpAnyH_take (i := 26) (oi := ⟨some 31, .indexAddr 100 (.tmp 14) (.tmp 15), _, _, _, _⟩) (v := .pointer (some ⟨g, j * 34, none⟩)) rfl (by kernel_rfl) (by kernel_rfl) (by kernel_rfl) (fun _ _ _ h => h) (Or.inl ⟨by rfl, fun V (hV : V.cell? ⟨wb, 1, none⟩ = some (.slice (some ⟨g, 0, none⟩) n cap)) => by go_simp⟩) h1 ?_
    (try simp only [Act.put, pq1, pq2, pq3])
    refine wpAnyH_ready (rs := [27]) (by kernel_rfl) (by simp) ?_
    refine AllReadyH.cons (o := ⟨none, .store 107 (.tmp 31) (.tmp 29), _, _, _, _⟩) rfl (fun K9 hK9 => ?_) AllReadyH.nil
    rw [if_pos (by rfl)]
    refine wp_store_mid _ _ _ rfl g (j * 34) AC.toArray rfl rfl (unhide HT2) (unhide HIA2) (unhide HAO) ?_
    have h2 := unhide HCS _ h1 (j * 34) AC
    refine hK9.out _ _ h2 (fun _ => ?_)
    clear hK9 K9
    (try simp only [Act.put])
    refine wpAnyH_done (by kernel_rfl) ?_ _
    refine NoPanic.normal ?_
    clear hrI0 hrJ0
    go_wp2
    go_end0
    exact ⟨rfl, unhide HF⟩
end Go.Proofs.YtlifmipnoeioaaaGreatDoor

/- What waiting's Push and Pop answer and leave. Of at most 100000 commits. -/
namespace Go.Proofs.YtlifmipnoeioaaaGreatDoor
open Go.RowKit

theorem step_append_com {w : World} {ops : Array Oper} {o : Oper} {a : Act} {K : Act → World → Prop} {Q : Exit → Act → World → Prop} {E : Prop} (hw : Region.wanted o (yielded ops a.tmps) = true) (s x : Operand)
    (ho : o.op = .call { callee := .builtin .append, args := #[s, x], argTypes := #[100, 100] })
    (base : Nat) (v : Value) (n : Nat) (xs : List Value) (hs : a.eval s = v) (hown : w.ownsRow base 107 34 v n xs) (p : Nat) (EC : List Value) (hB : Blk w p 107 EC) (hEl : EC.length = 34) (hE1 : ∀ u ∈ EC, u.oneCell' = true)
    (hx : a.eval x = .slice (some ⟨p, 0, none⟩) 1 1) (hn : n ≤ 100000) (hbase : base ≤ w.heap.size)
    (h : ∀ g c w', w'.ownsRow base 107 34 (.slice (some ⟨g, 0, none⟩) (n + 1) c) (n + 1) (xs ++ EC) → w.grownBy w' v.ownBlock → (v.ownBlock = some g ∨ g = w.heap.size) → K (a.put o.dst (.slice (some ⟨g, 0, none⟩) (n + 1) c)) w') :
    if Region.wanted o (yielded ops a.tmps) = true then Oper.wp Tryz.prog o a w K Q else E := by
  rw [if_pos hw]
  obtain ⟨i0, hi, hz0, hz1, hz2⟩ := info_parts info_comp
  exact wp_append_lies w s x 100 ho base 107 i0 _ 34 64 Tryz.underlying100 hi hz0 hz1 hz2 rfl (by decide) v n xs hs hown ⟨p, 0, none⟩ 1 1 EC hx (by rw [hEl]) (fun j u hu => World.news_of_block hB j u (by simpa using hu)) hE1 (by decide) (by unfold maxLen; omega) (by omega) hbase _ rfl (fun g c w' q1 q2 q3 _ => h g c w' q1 q2 q3)
theorem bs_com (r : CmR) (h : r.id.length = 32) (V : World) : (Instr.buildSlice 100 1 #[(0, .agg (cmC r).toArray)]).run Tryz.prog V = .ok (.slice (some ⟨V.heap.size, 0, none⟩) 1 1) (V.alloc (.cells (cmC r).toArray 107)) := by
  obtain ⟨id, time, pars, po, pc⟩ := r
  simp only at h
  obtain ⟨a0, a1, a2, a3, a4, a5, a6, a7, a8, a9, a10, a11, a12, a13, a14, a15, a16, a17, a18, a19, a20, a21, a22, a23, a24, a25, a26, a27, a28, a29, a30, a31, rfl⟩ := list32 id h
  kernel_rfl
theorem assert_com (X : Value) (V : World) : (Instr.typeAssert (.iface 107 X) 20 107 false).run Tryz.prog V = .ok X V := by kernel_rfl
theorem slice_to34 (W : World) (ao : Option Addr) (n c k : Nat) (hk : k ≤ c) :
    (Instr.slice 100 (.slice ao n c) none (some (.int .i64 (k : Int))) none).run Tryz.prog W = .ok (.slice ao k c) W := by
  have ht' : Tryz.prog.underlying 100 = some (.slice (Tryz.prog.elem 100)) := by simp [Program.elem, Tryz.underlying100]
  have he : Tryz.prog.elem 100 = 107 := by simp [Program.elem, Tryz.underlying100]
  rw [run_slice_h W 100 _ _ _ ht' .i64 _ (by omega) (by omega), he, size_com]
  cases ao <;> simp [Result.andThen, sliced, Addr.add]

set_option maxRecDepth 100000 in
set_option maxHeartbeats 4000000 in
theorem wpush_any (w : World) (base wb : Nat) (sp : Option Addr) (v : Value) (H : List CmR) (h : WaitAt w base wb sp v H) (r : CmR) (hr : r.id.length = 32) (hL : H.length ≤ 100000) :
    Calls Tryz.prog 200 #[.pointer (some ⟨wb, 0, none⟩), .iface 107 (.agg (cmC r).toArray)] w fun e w' => e = .returned (.tuple #[]) ∧ ∃ v', WaitAt w' base wb sp v' (H ++ [r]) ∧ ByPile w w' wb v ∧ (∀ k, v'.ownBlock = some k → v.ownBlock = some k ∨ w.heap.size ≤ k) := by
  obtain ⟨KB, hKB⟩ : ∃ KB, KB = cmC r := ⟨_, rfl⟩
  have hKl : KB.length = 34 := by rw [hKB]; exact cmC_len _ hr
  have hK1 : ∀ u ∈ KB, u.oneCell' = true := by rw [hKB]; exact cmC_one _
  have hbs : ∀ V : World, (Instr.buildSlice 100 1 #[(0, .agg KB.toArray)]).run Tryz.prog V = .ok (.slice (some ⟨V.heap.size, 0, none⟩) 1 1) (V.alloc (.cells KB.toArray 107)) := fun V => by rw [hKB]; exact bs_com r hr V
  have hta := assert_com (.agg KB.toArray)
  have hD := h.none (gb_drew (gb_refl w none))
  have hba : base ≤ w.drew.heap.size := Nat.le_trans h.nb (Nat.le_of_lt h.blk.lt)
  obtain ⟨aV, cV, rfl⟩ := own_sl h.own
  obtain ⟨v, hv⟩ : ∃ v : Value, v = .slice aV H.length cV := ⟨_, rfl⟩
  rw [← hv] at h hD ⊢
  have HFIN : Hid (∀ w5 w6 g6b c6, w.drew.grownBy w5 none → w5.ownsRow base 107 34 v H.length (H.flatMap cmC) → w5.grownBy w6 v.ownBlock → w6.ownsRow base 107 34 (.slice (some ⟨g6b, 0, none⟩) (H.length + 1) c6) (H.length + 1) (H.flatMap cmC ++ KB) → Blk w6 wb 102 [.pointer sp, v] → (v.ownBlock = some g6b ∨ g6b = w5.heap.size) →
      ∃ v', WaitAt (w6.setCell ⟨wb, 1, none⟩ (.slice (some ⟨g6b, 0, none⟩) (H.length + 1) c6)) base wb sp v' (H ++ [r]) ∧ ByPile w (w6.setCell ⟨wb, 1, none⟩ (.slice (some ⟨g6b, 0, none⟩) (H.length + 1) c6)) wb v ∧ (∀ k, v'.ownBlock = some k → v.ownBlock = some k ∨ w.heap.size ≤ k)) := by
    intro w5 w6 g6b c6 g5 hO5 g6 hO6 hB6 hat
    have gs := gb_set w6 wb 1 (.slice (some ⟨g6b, 0, none⟩) (H.length + 1) c6)
    have gw5 : w.grownBy w5 none := tn (gb_drew (gb_refl _ _)) g5
    refine ⟨.slice (some ⟨g6b, 0, none⟩) (H.length + 1) c6, ⟨hB6.set 1 _, ?_, fun y hy => ?_, h.nb⟩, ⟨?_, ?_, ?_, ?_, fun k hk h1 h2 => ?_⟩, fun k hk => ?_⟩
    · have e1 : (H ++ [r]).length = H.length + 1 := by simp
      have e2 : (H ++ [r]).flatMap cmC = H.flatMap cmC ++ KB := by rw [hKB]; simp
      rw [e1, e2]
      exact hO6.kept gs (Or.inr fun e => own_apart_t hO6 hB6 (by decide) e.symm)
    · rcases List.mem_append.1 hy with hy | hy
      · exact h.ids y hy
      · rw [List.mem_singleton.1 hy]; exact hr
    · exact gs.os.trans (g6.os.trans gw5.os)
    · exact gs.tape.trans (g6.tape.trans gw5.tape)
    · exact gs.output.trans (g6.output.trans gw5.output)
    · exact Nat.le_trans gw5.size (Nat.le_trans g6.size gs.size)
    · have k5 : k < w5.heap.size := Nat.lt_of_lt_of_le hk gw5.size
      rw [gs.block k (Nat.lt_of_lt_of_le k5 g6.size) (fun e => h1 (by cases e; rfl)), g6.block k k5 h2, gw5.block k hk (by simp)]
    · have hk2 : g6b = k := by simpa [Value.ownBlock] using hk
      rcases hat with h1 | h1
      · left; rw [← hk2]; exact h1
      · right; have := gw5.size; omega
  have HBD : Hid (Blk w.drew wb 102 [.pointer sp, v]) := hD.blk
  have HOD : Hid (w.drew.ownsRow base 107 34 v H.length (H.flatMap cmC)) := hD.own
  rw [← hKB]
  have HKL := hide hKl
  have HK1 := hide hK1
  have HBS := hide hbs
  have HN := hide hL
  have HBA := hide hba
  have h0 : True := trivial
  clear hD hba hKB hKl hK1 hbs h hr hL hv
  go_enter Tryz.func200, Tryz.ntmps200
  refine wp_region_noPanic ?_
  refine wp_region_held_drew (S := fun V => True) (by kernel_rfl) trivial (fun _ => ?_)
  obtain ⟨WD, hWD⟩ : ∃ V, V = w.drew := ⟨_, rfl⟩
  rw [← hWD]
  rw [← hWD] at HBD HOD HFIN HBA
  clear hWD
  refine wpAnyH_take (i := 0) (oi := ⟨some 4, .move (.tmp 0), _, _, _, _⟩) (v := .pointer (some ⟨wb, 0, none⟩)) rfl (by kernel_rfl) (by kernel_rfl) (by kernel_rfl) (fun _ _ _ h => h) (Or.inl ⟨by rfl, fun V (hV : True) => by go_simp⟩) trivial ?_
  (try simp only [Act.put, pq1, pq2, pq3])
  refine wpAnyH_take (i := 1) (oi := ⟨some 5, .move (.tmp 0), _, _, _, _⟩) (v := .pointer (some ⟨wb, 0, none⟩)) rfl (by kernel_rfl) (by kernel_rfl) (by kernel_rfl) (fun _ _ _ h => h) (Or.inl ⟨by rfl, fun V (hV : True) => by go_simp⟩) trivial ?_
  (try simp only [Act.put, pq1, pq2, pq3])
  refine wpAnyH_take (i := 5) (oi := ⟨some 9, .move (.tmp 1), _, _, _, _⟩) (v := .iface 107 (.agg KB.toArray)) rfl (by kernel_rfl) (by kernel_rfl) (by kernel_rfl) (fun _ _ _ h => h) (Or.inl ⟨by rfl, fun V (hV : True) => by go_simp⟩) trivial ?_
  (try simp only [Act.put, pq1, pq2, pq3])
  refine wpAnyH_take (i := 2) (oi := ⟨some 6, .nilCheck (.tmp 5), _, _, _, _⟩) (v := .pointer (some ⟨wb, 0, none⟩)) rfl (by kernel_rfl) (by kernel_rfl) (by kernel_rfl) (fun _ _ _ h => h) (Or.inl ⟨by rfl, fun V (hV : True) => by go_simp⟩) trivial ?_
  (try simp only [Act.put, pq1, pq2, pq3])
  refine wpAnyH_take (i := 6) (oi := ⟨some 10, .typeAssert (.tmp 9) 20 107 false, _, _, _, _⟩) (v := .agg KB.toArray) rfl (by kernel_rfl) (by kernel_rfl) (by kernel_rfl) (fun _ _ _ h => h) (Or.inl ⟨by rfl, fun V (hV : True) => by go_simp⟩) trivial ?_
  (try simp only [Act.put, pq1, pq2, pq3])
  refine wpAnyH_take (i := 3) (oi := ⟨some 7, .fieldAddr 102 (.tmp 6) 1, _, _, _, _⟩) (v := .pointer (some ⟨wb, 1, none⟩)) rfl (by kernel_rfl) (by kernel_rfl) (by kernel_rfl) (fun _ _ _ h => h) (Or.inl ⟨by rfl, fun V (hV : True) => by go_simp⟩) trivial ?_
  (try simp only [Act.put, pq1, pq2, pq3])
  refine wpAnyH_ready (rs := [4, 7]) (by kernel_rfl) (by simp) ?_
  refine AllReadyH.cons (o := ⟨some 8, .load 100 (.tmp 7), _, _, _, _⟩) rfl (fun K9 hK9 => ?_) (AllReadyH.cons (o := ⟨some 11, .buildSlice 100 1 #[(0, (.tmp 10))], _, _, _, _⟩) rfl (fun K9 hK9 => ?_) AllReadyH.nil)
  · have z9 := (unhide HBD).cell 1
    simp only [List.getElem?_cons_zero, List.getElem?_cons_succ] at z9
    go_simp
    clear z9
    refine hK9.out _ _ trivial (fun _ => ?_)
    clear hK9 K9
    (try simp only [Act.put, pq1, pq2, pq3])
    refine wpAnyH_ready (rs := [7]) (by kernel_rfl) (by simp) ?_
    refine AllReadyH.cons (o := ⟨some 11, .buildSlice 100 1 #[(0, (.tmp 10))], _, _, _, _⟩) rfl (fun K9 hK9 => ?_) AllReadyH.nil
    obtain ⟨w5, hw5, hE5, g5⟩ := box_new WD 107 KB
    refine step_build1 (by rfl) 100 _ rfl (.agg KB.toArray) _ rfl (unhide HBS WD) ?_
    rw [← hw5]
    refine hK9.out _ _ trivial (fun _ => ?_)
    clear hK9 K9 hw5
    (try simp only [Act.put, pq1, pq2, pq3])
    have hO5 := (unhide HOD).kept g5 (by cases v.ownBlock <;> simp)
    have hB5 := (unhide HBD).kept g5 (by simp)
    have hG5 := tn (gb_refl WD none) g5
    refine wpAnyH_ready (rs := [8]) (by kernel_rfl) (by simp) ?_
    refine AllReadyH.cons (o := ⟨some 12, .call { callee := .builtin .append, args := #[(.tmp 8), (.tmp 11)], argTypes := #[100, 100] }, _, _, _, _⟩) rfl (fun K9 hK9 => ?_) AllReadyH.nil
    refine step_append_com (by rfl) _ _ rfl base v _ _ rfl hO5 _ KB hE5 (unhide HKL) (unhide HK1) rfl (unhide HN) (Nat.le_trans (unhide HBA) hG5.size) ?_
    intro gb6 c6 w6 hO6 g6 hat6
    refine hK9.out _ _ trivial (fun _ => ?_)
    clear hK9 K9
    (try simp only [Act.put, pq1, pq2, pq3])
    have hB6 := hB5.kept g6 (own_apart_t hO5 hB5 (by decide))
    have q6 := hB6.cell 1
    simp only [List.getElem?_cons_zero, List.getElem?_cons_succ] at q6
    have f6 := hB6.fz 1
    refine wpAnyH_take (i := 9) (oi := ⟨some 13, .nilCheck (.tmp 4), _, _, _, _⟩) (v := .pointer (some ⟨wb, 0, none⟩)) rfl (by kernel_rfl) (by kernel_rfl) (by kernel_rfl) (fun _ _ _ h => h) (Or.inl ⟨by rfl, fun V (hV : True) => by go_simp⟩) trivial ?_
    (try simp only [Act.put, pq1, pq2, pq3])
    refine wpAnyH_take (i := 10) (oi := ⟨some 14, .fieldAddr 102 (.tmp 13) 1, _, _, _, _⟩) (v := .pointer (some ⟨wb, 1, none⟩)) rfl (by kernel_rfl) (by kernel_rfl) (by kernel_rfl) (fun _ _ _ h => h) (Or.inl ⟨by rfl, fun V (hV : True) => by go_simp⟩) trivial ?_
    (try simp only [Act.put, pq1, pq2, pq3])
    refine wpAnyH_ready (rs := [11]) (by kernel_rfl) (by simp) ?_
    refine AllReadyH.cons (o := ⟨none, .store 100 (.tmp 14) (.tmp 12), _, _, _, _⟩) rfl (fun K9 hK9 => ?_) AllReadyH.nil
    go_simp
    refine hK9.out _ _ trivial (fun _ => ?_)
    clear hK9 K9
    (try simp only [Act.put, pq1, pq2, pq3])
    refine wpAnyH_done (by kernel_rfl) ?_ _
    refine NoPanic.normal ?_
    clear q6 f6
    go_wp2
    go_end0
    exact ⟨rfl, unhide HFIN w5 w6 gb6 c6 hG5 hO5 g6 hO6 hB6 hat6⟩
  · obtain ⟨w5, hw5, hE5, g5⟩ := box_new WD 107 KB
    refine step_build1 (by rfl) 100 _ rfl (.agg KB.toArray) _ rfl (unhide HBS WD) ?_
    rw [← hw5]
    refine hK9.out _ _ trivial (fun _ => ?_)
    clear hK9 K9 hw5
    (try simp only [Act.put, pq1, pq2, pq3])
    have hO5 := (unhide HOD).kept g5 (by cases v.ownBlock <;> simp)
    have hB5 := (unhide HBD).kept g5 (by simp)
    have hG5 := tn (gb_refl WD none) g5
    refine wpAnyH_ready (rs := [4]) (by kernel_rfl) (by simp) ?_
    refine AllReadyH.cons (o := ⟨some 8, .load 100 (.tmp 7), _, _, _, _⟩) rfl (fun K9 hK9 => ?_) AllReadyH.nil
    have z9 := (hB5).cell 1
    simp only [List.getElem?_cons_zero, List.getElem?_cons_succ] at z9
    go_simp
    clear z9
    refine hK9.out _ _ trivial (fun _ => ?_)
    clear hK9 K9
    (try simp only [Act.put, pq1, pq2, pq3])
    refine wpAnyH_ready (rs := [8]) (by kernel_rfl) (by simp) ?_
    refine AllReadyH.cons (o := ⟨some 12, .call { callee := .builtin .append, args := #[(.tmp 8), (.tmp 11)], argTypes := #[100, 100] }, _, _, _, _⟩) rfl (fun K9 hK9 => ?_) AllReadyH.nil
    refine step_append_com (by rfl) _ _ rfl base v _ _ rfl hO5 _ KB hE5 (unhide HKL) (unhide HK1) rfl (unhide HN) (Nat.le_trans (unhide HBA) hG5.size) ?_
    intro gb6 c6 w6 hO6 g6 hat6
    refine hK9.out _ _ trivial (fun _ => ?_)
    clear hK9 K9
    (try simp only [Act.put, pq1, pq2, pq3])
    have hB6 := hB5.kept g6 (own_apart_t hO5 hB5 (by decide))
    have q6 := hB6.cell 1
    simp only [List.getElem?_cons_zero, List.getElem?_cons_succ] at q6
    have f6 := hB6.fz 1
    refine wpAnyH_take (i := 9) (oi := ⟨some 13, .nilCheck (.tmp 4), _, _, _, _⟩) (v := .pointer (some ⟨wb, 0, none⟩)) rfl (by kernel_rfl) (by kernel_rfl) (by kernel_rfl) (fun _ _ _ h => h) (Or.inl ⟨by rfl, fun V (hV : True) => by go_simp⟩) trivial ?_
    (try simp only [Act.put, pq1, pq2, pq3])
    refine wpAnyH_take (i := 10) (oi := ⟨some 14, .fieldAddr 102 (.tmp 13) 1, _, _, _, _⟩) (v := .pointer (some ⟨wb, 1, none⟩)) rfl (by kernel_rfl) (by kernel_rfl) (by kernel_rfl) (fun _ _ _ h => h) (Or.inl ⟨by rfl, fun V (hV : True) => by go_simp⟩) trivial ?_
    (try simp only [Act.put, pq1, pq2, pq3])
    refine wpAnyH_ready (rs := [11]) (by kernel_rfl) (by simp) ?_
    refine AllReadyH.cons (o := ⟨none, .store 100 (.tmp 14) (.tmp 12), _, _, _, _⟩) rfl (fun K9 hK9 => ?_) AllReadyH.nil
    go_simp
    refine hK9.out _ _ trivial (fun _ => ?_)
    clear hK9 K9
    (try simp only [Act.put, pq1, pq2, pq3])
    refine wpAnyH_done (by kernel_rfl) ?_ _
    refine NoPanic.normal ?_
    clear q6 f6
    go_wp2
    go_end0
    exact ⟨rfl, unhide HFIN w5 w6 gb6 c6 hG5 hO5 g6 hO6 hB6 hat6⟩
set_option maxRecDepth 100000 in
set_option maxHeartbeats 4000000 in
theorem wpop_any (w : World) (base wb : Nat) (sp : Option Addr) (v : Value) (H : List CmR) (r : CmR) (h : WaitAt w base wb sp v (H ++ [r])) (hL : H.length ≤ 100000) :
    Calls Tryz.prog 199 #[.pointer (some ⟨wb, 0, none⟩)] w fun e w' => e = .returned (.iface 107 (.agg (cmC r).toArray)) ∧ ∃ v', WaitAt w' base wb sp v' H ∧ w.grownBy w' (some wb) ∧ v'.ownBlock = v.ownBlock := by
  have hx : r.id.length = 32 := h.ids r (by simp)
  obtain ⟨g, cap, rfl, hg, hgl, hcap, hrow⟩ := h.row (by simp)
  have hlen : (H ++ [r]).length = H.length + 1 := by simp
  have hown := h.own
  have hbk := h.blk
  have hr : w.rangeAt g (H.length * 34) (cmC r) := by
    have := hrow H.length (by simp)
    rw [List.getElem_append_right (Nat.le_refl _)] at this
    simpa using this
  rw [hlen] at hown hbk hcap ⊢
  obtain ⟨n, hn⟩ : ∃ n, n = H.length := ⟨_, rfl⟩
  rw [← hn] at hown hbk hL hcap hr ⊢
  obtain ⟨KB, hKB⟩ : ∃ KB, KB = cmC r := ⟨_, rfl⟩
  rw [← hKB] at hr
  have hKl : KB.length = 34 := by rw [hKB]; exact cmC_len _ hx
  have hKo : KB.toArray.all (·.oneCell') = true := by rw [hKB]; exact all_oneCell_toArray (cmC_one _)
  obtain ⟨ZC, hZC⟩ : ∃ Z, Z = cmC zeroCm := ⟨_, rfl⟩
  have hzv : ∀ w, (zeroValue 107).run Tryz.prog w = .ok (.agg ZC.toArray) w := fun w => by rw [hZC]; exact zero_com w
  have hZl : ZC.length = 34 := by rw [hZC]; rfl
  have hiK : (Tryz.prog.info? 107).map (·.size) = some KB.length := by rw [hKl]; exact info_com
  have hiK2 : (Tryz.prog.info? 107).map (·.size) = some KB.toArray.size := by simpa using hiK
  have hZE : ZC.toArray.size = KB.toArray.size := by simp [hZl, hKl]
  obtain ⟨W1, hW1, hB1, g1⟩ := row_new w 107 ZC.toArray KB
  have hBZ : Blk (w.alloc (.cells ZC.toArray 107)) w.heap.size 107 ZC := Blk.new w 107 ZC
  have hb1 := hbk.kept g1 (by simp)
  have hc0 := hbk.cell 1
  have hc1 := hb1.cell 1
  have hf1 := hb1.fz 1
  simp only [List.getElem?_cons_zero, List.getElem?_cons_succ] at hc0 hc1
  have hplt := hbk.lt
  have hsl : ∀ W, (Instr.slice 100 (.slice (some ⟨g, 0, none⟩) (n + 1) cap) none (some (.int .i64 (n : Int))) none).run Tryz.prog W = .ok (.slice (some ⟨g, 0, none⟩) n cap) W := fun W => slice_to34 W _ _ _ _ (by omega)
  have hB2 := (hB1.other ⟨wb, 1, none⟩ (.slice (some ⟨g, 0, none⟩) n cap) (by simp; omega))
  have hr2 := blk_all hB2
  obtain ⟨W2, hW2⟩ : ∃ W, W = W1.setCell ⟨wb, 1, none⟩ (.slice (some ⟨g, 0, none⟩) n cap) := ⟨_, rfl⟩
  have g2 : W1.grownBy W2 (some wb) := by rw [hW2]; exact gb_set _ _ _ _
  have hP2 : Blk W2 wb 102 [.pointer sp, .slice (some ⟨g, 0, none⟩) n cap] := by rw [hW2]; exact hb1.set 1 _
  rw [← hW2] at hB2 hr2
  have hfin : WaitAt W2 base wb sp (.slice (some ⟨g, 0, none⟩) n cap) H ∧ w.grownBy W2 (some wb) := by
    refine ⟨⟨hP2, ?_, fun y hy => h.ids y (by simp [hy]), h.nb⟩, gb_trans (gb_none _ g1) g2 (fun _ e => Or.inr e)⟩
    have ho := own_shrink hown (Nat.le_succ n)
    have hfl : (H.flatMap cmC).length = n * 34 := by rw [hn]; exact flat_len2 cmC 34 H (fun y hy => cmC_len y (h.ids y (by simp [hy])))
    have e2 : ((H ++ [r]).flatMap cmC).take (n * 34) = H.flatMap cmC := by
      rw [List.flatMap_append, List.take_append_of_le_length (by omega), List.take_of_length_le (by omega)]
    rw [e2] at ho
    rw [← hn]
    exact (ho.kept g1 (by simp [Value.ownBlock])).kept g2 (Or.inr fun e => own_apart_t (ho.kept g1 (by simp [Value.ownBlock])) hb1 (by decide) e.symm)
  rw [← hKB]
  have hwn : IntKind.i64.wrap (((n + 1 : Nat) : Int) - 1) = (n : Int) := by rw [IntKind.wrap_i64]; omega
  have hwn2 : ((n : Int) + 1) - 1 = (n : Int) := by omega
  have HW1 := hide hW1
  have HW2 := hide hW2
  have HBZ := hide hBZ
  have HIK := hide hiK
  have HIK2 := hide hiK2
  have HZE := hide hZE
  have HKO := hide hKo
  have HF := hide hfin
  clear hW1 hW2 hBZ hiK hiK2 hZE hKo hfin hB1 hb1 h hown hbk hKB hKl hx hg hgl hlen hcap hB2 hP2 g1 g2 hZC hZl hplt hn hrow
  go_enter Tryz.func199, Tryz.ntmps199
  go_wp2_with (first
    | (refine wpList_load_mid rfl 107 _ rfl g (n * 34) (by first | rfl | simp) KB _ hr Tryz.underlying107 rfl (unhide HIK) ?_; clear hr)
    | (have hB9 := unhide HBZ; refine wpList_store_row rfl 107 _ _ rfl w.heap.size KB.toArray rfl rfl _ _ hB9 (unhide HIK2) (unhide HZE) (unhide HKO) ?_; clear hB9; rw [← unhide HW1])
    | (rw [← unhide HW2]; refine wpList_load_mid rfl 107 _ rfl w.heap.size 0 rfl KB _ hr2 Tryz.underlying107 rfl (unhide HIK) ?_; clear hr2))
  go_ret
  exact ⟨rfl, _, (unhide HF).1, (unhide HF).2, rfl⟩

end Go.Proofs.YtlifmipnoeioaaaGreatDoor
