/- What disk's made, stopped, has, count, Down, Sectors and Arm answer: of a disk that was made. -/
import Derived.Test.YtfaipdifkmjdeaaDkW
namespace Go.Proofs.Ytfaipdifkmjdeaa
open Go.RowKit

theorem DiskM.d_s {u : Nat} {w : World} {F : List Nat} {d s c m : Nat} {X : List Value} {ov : Value} {K : List (Nat × Value)} {D : Dsk} (h : DiskM u w F d s c m X ov K D) : d ≠ s := blk_nq h.blk h.sec (by decide)
theorem DiskM.m_d {u : Nat} {w : World} {F : List Nat} {d s c m : Nat} {X : List Value} {ov : Value} {K : List (Nat × Value)} {D : Dsk} (h : DiskM u w F d s c m X ov K D) : m ≠ d := h.und.map.blk h.blk
theorem DiskM.m_s {u : Nat} {w : World} {F : List Nat} {d s c m : Nat} {X : List Value} {ov : Value} {K : List (Nat × Value)} {D : Dsk} (h : DiskM u w F d s c m X ov K D) : m ≠ s := h.und.map.blk h.sec
/-- The disk's own block is changed, in what it says of calls and of being down. -/
theorem DiskM.head {u : Nat} {w a : World} {F : List Nat} {d s c m : Nat} {X : List Value} {ov : Value} {K : List (Nat × Value)} {D : Dsk} (h : DiskM u w F d s c m X ov K D) (g : w.grownBy a (some d)) {D' : Dsk} (hs : D'.safe = D.safe) (hU : D'.U = D.U)
    (hb : Blk a d 61 [.slice (some ⟨s, 0, none⟩) D'.safe.length c, ov, .map (some m), .int .i64 D'.left, .bool D'.down]) (hok : D'.Ok) : DiskM u a F d s c m X ov K D' := by
  have hds := h.d_s
  have hmd := h.m_d
  refine ⟨hb, ?_, ?_, ?_, ?_, h.inD, h.inS, h.inM, h.inO, h.inK, fun x hx => ⟨(h.low x hx).1, Nat.lt_of_lt_of_le (h.low x hx).2 g.size⟩, hok⟩
  · rw [hs]; exact h.sec.kept g (fun e => hds (by cases e; rfl))
  · rw [hs]; exact h.fits
  · rw [hU]; exact h.ord.kept g (Or.inr fun e => own_apart_t h.ord h.blk (by decide) e.symm)
  · rw [hU]; exact h.und.kept g (fun e => hmd (by cases e; rfl)) (fun p hp b hb e => own_apart_t (h.und.row p hp) h.blk (by decide) (by rw [hb]; exact e.symm))
theorem DiskM.c0 {u : Nat} {w : World} {F : List Nat} {d s c m : Nat} {X : List Value} {ov : Value} {K : List (Nat × Value)} {D : Dsk} (h : DiskM u w F d s c m X ov K D) : w.cell? ⟨d, 0, none⟩ = some (.slice (some ⟨s, 0, none⟩) D.safe.length c) := by rw [h.blk.cell]; rfl
theorem DiskM.c1 {u : Nat} {w : World} {F : List Nat} {d s c m : Nat} {X : List Value} {ov : Value} {K : List (Nat × Value)} {D : Dsk} (h : DiskM u w F d s c m X ov K D) : w.cell? ⟨d, 1, none⟩ = some ov := by rw [h.blk.cell]; rfl
theorem DiskM.c2 {u : Nat} {w : World} {F : List Nat} {d s c m : Nat} {X : List Value} {ov : Value} {K : List (Nat × Value)} {D : Dsk} (h : DiskM u w F d s c m X ov K D) : w.cell? ⟨d, 2, none⟩ = some (.map (some m)) := by rw [h.blk.cell]; rfl
theorem DiskM.c3 {u : Nat} {w : World} {F : List Nat} {d s c m : Nat} {X : List Value} {ov : Value} {K : List (Nat × Value)} {D : Dsk} (h : DiskM u w F d s c m X ov K D) : w.cell? ⟨d, 3, none⟩ = some (.int .i64 D.left) := by rw [h.blk.cell]; rfl
theorem DiskM.c4 {u : Nat} {w : World} {F : List Nat} {d s c m : Nat} {X : List Value} {ov : Value} {K : List (Nat × Value)} {D : Dsk} (h : DiskM u w F d s c m X ov K D) : w.cell? ⟨d, 4, none⟩ = some (.bool D.down) := by rw [h.blk.cell]; rfl

set_option maxRecDepth 100000 in
theorem dmade_any (w : World) (d s n c : Nat) (hn : 0 < n) (h1 : w.cell? ⟨d, 0, none⟩ = some (.slice (some ⟨s, 0, none⟩) n c)) :
    Calls Try.prog 34 #[.pointer (some ⟨d, 0, none⟩)] w fun e w' => e = .returned (.bool true) ∧ w' = w := by
  go_enter Try.func34, Try.ntmps34
  go_wp2
  go_ret
  exact ⟨by simp, rfl⟩
set_option maxRecDepth 100000 in
theorem dmade_nil (w : World) :
    Calls Try.prog 34 #[.pointer none] w fun e w' => e = .returned (.bool false) ∧ w' = w := by
  go_enter Try.func34, Try.ntmps34
  go_wp2
  go_ret
  exact ⟨rfl, rfl⟩
set_option maxRecDepth 100000 in
theorem dmade_plain (w : World) (d : Nat) (h1 : w.cell? ⟨d, 0, none⟩ = some (.slice none 0 0)) :
    Calls Try.prog 34 #[.pointer (some ⟨d, 0, none⟩)] w fun e w' => e = .returned (.bool false) ∧ w' = w := by
  go_enter Try.func34, Try.ntmps34
  go_wp2
  go_ret
  exact ⟨rfl, rfl⟩
theorem DiskM.made {u : Nat} {w : World} {F : List Nat} {d s c m : Nat} {X : List Value} {ov : Value} {K : List (Nat × Value)} {D : Dsk} (h : DiskM u w F d s c m X ov K D) :
    Calls Try.prog 34 #[.pointer (some ⟨d, 0, none⟩)] w fun e w' => e = .returned (.bool true) ∧ w' = w := dmade_any w d s _ c h.ok.pos h.c0

set_option maxRecDepth 100000 in
theorem dstopped_any (u : Nat) (w : World) (F : List Nat) (d s c m : Nat) (X : List Value) (ov : Value) (K : List (Nat × Value)) (D : Dsk) (h : DiskM u w F d s c m X ov K D) :
    Calls Try.prog 28 #[.pointer (some ⟨d, 0, none⟩)] w fun e w' => e = .returned (.int .i64 (if D.down = true then 17 else 0)) ∧ w' = w := by
  have c1 := h.made
  have h4 := h.c4
  obtain ⟨x, hx⟩ : ∃ x, x = D.down := ⟨_, rfl⟩
  rw [← hx] at h4 ⊢
  clear hx h
  cases x with
  | true =>
    go_enter Try.func28, Try.ntmps28
    go_wp2_with (go_at_call 34; refine c1.mono ?_; rintro e w2 ⟨rfl, e2⟩; subst w2; clear c1)
    go_ret
    exact ⟨rfl, rfl⟩
  | false =>
    go_enter Try.func28, Try.ntmps28
    go_wp2_with (go_at_call 34; refine c1.mono ?_; rintro e w2 ⟨rfl, e2⟩; subst w2; clear c1)
    go_ret
    exact ⟨rfl, rfl⟩

set_option maxRecDepth 100000 in
theorem dhas_any (w : World) (d s n c : Nat) (h1 : w.cell? ⟨d, 0, none⟩ = some (.slice (some ⟨s, 0, none⟩) n c)) (i : Int) :
    Calls Try.prog 29 #[.pointer (some ⟨d, 0, none⟩), .int .i64 i] w fun e w' => e = .returned (.bool (decide (0 ≤ i ∧ i < (n : Int)))) ∧ w' = w := by
  by_cases h0 : 0 ≤ i
  · have hd : decide (0 ≤ i) = true := by simp [h0]
    go_enter Try.func29, Try.ntmps29
    go_wp2
    go_ret
    exact ⟨by simp [h0], rfl⟩
  · have hd : decide (0 ≤ i) = false := by simp [h0]
    go_enter Try.func29, Try.ntmps29
    go_wp2
    go_ret
    exact ⟨by simp, rfl⟩

set_option maxRecDepth 100000 in
theorem dcount_any (u : Nat) (w : World) (F : List Nat) (d s c m : Nat) (X : List Value) (ov : Value) (K : List (Nat × Value)) (D : Dsk) (h : DiskM u w F d s c m X ov K D) :
    Calls Try.prog 30 #[.pointer (some ⟨d, 0, none⟩)] w fun e w' => e = .returned (.int .i64 (cntD D).2) ∧ DiskM u w' F d s c m X ov K (cntD D).1 ∧ w.grownBy w' (some d) := by
  have h3 := h.c3
  have f3 := h.blk.fz 3
  have f4 := h.blk.fz 4
  have h4 := h.c4
  have ok := h.ok.cnt
  have es := cntD_safe D
  have hfin1 : D.left = 0 → DiskM u (w.setCell ⟨d, 4, none⟩ (.bool true)) F d s c m X ov K (cntD D).1 := fun e => h.head (gb_set _ _ _ _) es.1 es.2 (by
    have := h.blk.set 4 (.bool true)
    unfold cntD
    rw [if_pos e]
    exact this) ok
  have hfin2 : D.left ≠ 0 → 0 < D.left → DiskM u (w.setCell ⟨d, 3, none⟩ (.int .i64 (D.left - 1))) F d s c m X ov K (cntD D).1 := fun e e2 => h.head (gb_set _ _ _ _) es.1 es.2 (by
    have := h.blk.set 3 (.int .i64 (D.left - 1))
    unfold cntD
    rw [if_neg e, if_pos e2]
    exact this) ok
  have g1 := gb_set w d 4 (.bool true)
  have g2 := gb_set w d 3 (.int .i64 (D.left - 1))
  have H3 := h.c3
  obtain ⟨y, hy⟩ : ∃ y, y = D.left := ⟨_, rfl⟩
  have hl := h.ok.lim
  rw [← hy] at h3 hl hfin1 hfin2 g2
  by_cases e0 : y = 0
  · have e1 : cntD D = ({ D with down := true }, 17) := by unfold cntD; rw [if_pos (by rw [← hy]; exact e0)]
    have hF := hide (hfin1 e0)
    rw [e1]
    rw [e1] at hF
    clear hfin1 hfin2 ok es h e1 hy H3
    go_enter Try.func30, Try.ntmps30
    go_wp2
    go_ret
    exact ⟨rfl, unhide hF, g1⟩
  · by_cases e2 : 0 < y
    · have e1 : cntD D = ({ D with left := D.left - 1 }, 0) := by unfold cntD; rw [if_neg (by rw [← hy]; exact e0), if_pos (by rw [← hy]; exact e2)]
      have hF := hide (hfin2 e0 e2)
      have hw : IntKind.i64.wrap (y - 1) = y - 1 := by
        rw [IntKind.wrap_i64]; omega
      rw [e1]
      rw [e1] at hF
      clear hfin1 hfin2 ok es h e1 hy H3
      go_enter Try.func30, Try.ntmps30
      go_wp2
      go_ret
      exact ⟨rfl, unhide hF, g2⟩
    · have e1 : cntD D = (D, 0) := by unfold cntD; rw [if_neg (by rw [← hy]; exact e0), if_neg (by rw [← hy]; exact e2)]
      rw [e1]
      clear hfin1 hfin2 ok es e1 hy H3
      have H := hide h
      clear h
      go_enter Try.func30, Try.ntmps30
      go_wp2
      go_ret
      exact ⟨rfl, unhide H, gb_refl _ _⟩

end Go.Proofs.Ytfaipdifkmjdeaa
