/- What disk's at, Read, Safe and Under answer. -/
import Derived.Test.YtfaipdifkmjdeaaDkC
import Derived.Deep.DeepCutAuto
import Derived.Deep.CutBlock
import Derived.Shelf.Abstract
namespace Go.Proofs.Ytfaipdifkmjdeaa
open Go.RowKit

/-- A value that a call hands back: bytes in memory that is not older. -/
def NewT (w w' : World) (v : Value) (x : List UInt8) : Prop := ∃ ao c, v = .slice ao x.length c ∧ Bts w' ao c x ∧ ∀ ad, ao = some ad → w.heap.size ≤ ad.block
theorem NewT.nil (w w' : World) : NewT w w' (.slice none 0 0) [] := ⟨none, 0, rfl, Bts.nil _, fun _ e => by cases e⟩

theorem slice_sec (b : Nat) (W : World) : (Instr.sliceAt 70 (.pointer (some ⟨b, 0, none⟩)) none none none).run Try.prog W = .ok (.slice (some ⟨b, 0, none⟩) 256 256) W := by
  have ea : Try.prog.arrayLen 70 = 256 := by simp [Program.arrayLen, Try.underlying70]
  have ee : Try.prog.elem 70 = 5 := by simp [Program.elem, Try.underlying70]
  rw [run_sliceAt_array_all W 70 ⟨b, 0, none⟩ (by rw [ea, ee]; exact Try.underlying70), ea, ee, size_byte]
  simp only [Result.andThen_ok, slicedAt, Nat.zero_mul, Nat.sub_zero]
  rw [if_neg (by omega), Addr.add_mid]

set_option maxRecDepth 100000 in
set_option maxHeartbeats 2000000 in
theorem dat_no (w : World) (d s n c : Nat) (h1 : w.cell? ⟨d, 0, none⟩ = some (.slice (some ⟨s, 0, none⟩) n c)) (i : Int) (hi : ¬ (0 ≤ i ∧ i < (n : Int))) (g : Value) :
    Calls Try.prog 36 #[.pointer (some ⟨d, 0, none⟩), .int .i64 i, g] w fun e w' => e = .returned (.tuple #[.slice none 0 0, .int .i64 2]) ∧ w' = w := by
  have ch := dhas_any w d s n c h1 i
  rw [decide_eq_false hi] at ch
  clear hi h1
  go_enter Try.func36, Try.ntmps36
  go_wp2_with (go_at_call 29; refine ch.mono ?_; rintro e w2 ⟨rfl, e2⟩; subst w2; clear ch)
  go_ret2
  exact ⟨rfl, rfl⟩

set_option maxRecDepth 100000 in
set_option maxHeartbeats 2000000 in
theorem dat_any (w : World) (d s n c : Nat) (h1 : w.cell? ⟨d, 0, none⟩ = some (.slice (some ⟨s, 0, none⟩) n c)) (i : Nat) (hi : i < n) (g : Nat) (T : List UInt8) (hT : T.length = 256)
    (eg : ∀ args w, (callFunc g args).run Try.prog w = .ok (.enter g args) w) (cg : Calls Try.prog g #[.pointer (some ⟨d, 0, none⟩), .int .i64 (i : Int)] w fun e w' => e = .returned (.agg (secC T).toArray) ∧ w.grownBy w' none) :
    Calls Try.prog 36 #[.pointer (some ⟨d, 0, none⟩), .int .i64 (i : Int), .func (.func g) #[] #[]] w fun e w' => ∃ v, e = .returned (.tuple #[v, .int .i64 0]) ∧ NewT w w' v T ∧ w.grownBy w' none := by
  have ch := dhas_any w d s n c h1 i
  rw [decide_eq_true (show 0 ≤ (i : Int) ∧ (i : Int) < (n : Int) by omega)] at ch
  obtain ⟨Z, hZ, hzv⟩ := zero_secA
  obtain ⟨EB, hEB⟩ : ∃ EB, EB = secC T := ⟨_, rfl⟩
  have hEl : EB.length = 256 := by rw [hEB, secC_len, hT]
  have hEo : EB.toArray.all (·.oneCell') = true := by rw [hEB]; exact all_oneCell_toArray (secC_one _)
  have hiE2 : (Try.prog.info? 70).map (·.size) = some EB.toArray.size := by rw [List.size_toArray, hEl]; exact info_secs
  have hZE : Z.toList.toArray.size = EB.toArray.size := by simp [hZ, hEl]
  rw [← hEB] at cg
  have HIE2 := hide hiE2
  have HZE := hide hZE
  have HEO := hide hEo
  have HEB := hide hEB
  have hss := slice_sec
  clear hiE2 hZE hEo hEB hEl hZ h1 hi
  go_enter Try.func36, Try.ntmps36
  go_upto_region 3 with (go_at_call 29; refine ch.mono ?_; rintro e w2 ⟨rfl, e2⟩; subst w2; clear ch)
  go_wp2_with fail
  refine cg.mono ?_
  rintro e w2 ⟨rfl, g2⟩
  clear cg
  obtain ⟨W5, hW5, hB5, g5⟩ := row_new w2 70 Z EB
  have hBZ : Blk (w2.alloc (.cells Z 70)) w2.heap.size 70 Z.toList := by simpa using Blk.new w2 70 Z.toList
  have hfin : NewT w W5 (.slice (some ⟨w2.heap.size, 0, none⟩) 256 256) T := by
    refine ⟨_, _, by rw [hT], ?_, fun ad e => by cases e; exact g2.size⟩
    have := range_bts (blk_all (by rw [unhide HEB] at hB5; exact hB5)) (by unfold maxLen; omega)
    rw [hT] at this
    exact this
  have HF := hide hfin
  have HG := hide (tn g2 g5)
  have HBZ := hide hBZ
  have HW5 := hide hW5
  clear hfin hBZ hW5 hB5 g5 g2 HEB hT
  go_wp2_with (have hB9 := unhide HBZ; refine wpList_store_row rfl 70 _ _ rfl w2.heap.size EB.toArray rfl rfl _ _ hB9 (unhide HIE2) (unhide HZE) (unhide HEO) ?_; clear hB9; rw [← unhide HW5])
  go_ret2
  exact ⟨_, rfl, unhide HF, unhide HG⟩

theorem enter_last : ∀ args w, (callFunc 37 args).run Try.prog w = .ok (.enter 37 args) w := fun args w => by exact enters_of Try.func37 (by kernel_rfl) rfl args w
theorem enter_kept : ∀ args w, (callFunc 39 args).run Try.prog w = .ok (.enter 39 args) w := fun args w => by exact enters_of Try.func39 (by kernel_rfl) rfl args w

/-- What Read and Safe answer. -/
def ReadT (w w' : World) (e : Ending) (r : List UInt8 × Int) : Prop := ∃ v, e = .returned (.tuple #[v, .int .i64 r.2]) ∧ NewT w w' v r.1

set_option maxRecDepth 100000 in
set_option maxHeartbeats 2000000 in
theorem dsafe_any (u : Nat) (w : World) (F : List Nat) (d : Nat) (D : Dsk) (h : DiskAt u w F d D) (i : Int) :
    Calls Try.prog 23 #[.pointer (some ⟨d, 0, none⟩), .int .i64 i] w fun e w' => ReadT w w' e (sfD D i) ∧ w.grownBy w' none := by
  obtain ⟨s, c, m, X, ov, K, h⟩ := h
  have c1 := h.made
  by_cases hi : hasD D i = true
  · obtain ⟨h2, h3⟩ := hasD_nat hi
    have e1 : sfD D i = (keptD D i.toNat, 0) := by unfold sfD; rw [if_pos hi]
    rw [e1]
    obtain ⟨j, hj⟩ : ∃ j, j = i.toNat := ⟨_, rfl⟩
    rw [← hj] at h2 h3 ⊢
    subst h3
    have ca := dat_any w d s _ c h.c0 j h2 39 _ (keptD_len h.ok h2) enter_kept (dkept_any u w F d s c m X ov K D h j h2)
    clear hi e1 hj h h2
    go_enter Try.func23, Try.ntmps23
    go_upto_region 3 with (go_at_call 34; refine c1.mono ?_; rintro e w2 ⟨rfl, e2⟩; subst w2; clear c1)
    go_wp2_with fail
    refine ca.mono ?_
    rintro e w2 ⟨v, rfl, hv, g2⟩
    clear ca
    go_wp2
    go_ret2
    exact ⟨⟨v, rfl, hv⟩, g2⟩
  · have e1 : sfD D i = ([], 2) := by unfold sfD; rw [if_neg hi]
    rw [e1]
    rw [hasD_iff] at hi
    have ca := dat_no w d s _ c h.c0 i hi (.func (.func 39) #[] #[])
    clear hi e1 h
    go_enter Try.func23, Try.ntmps23
    go_upto_region 3 with (go_at_call 34; refine c1.mono ?_; rintro e w2 ⟨rfl, e2⟩; subst w2; clear c1)
    go_wp2_with fail
    refine ca.mono ?_
    rintro e w2 ⟨rfl, e2⟩
    subst w2
    clear ca
    go_wp2
    go_ret2
    exact ⟨⟨_, rfl, NewT.nil _ _⟩, gb_refl _ _⟩

set_option maxRecDepth 100000 in
set_option maxHeartbeats 2000000 in
theorem dread_any (u : Nat) (w : World) (F : List Nat) (d : Nat) (D : Dsk) (h : DiskAt u w F d D) (i : Int) (hU : D.U.length ≤ 1000000) :
    Calls Try.prog 18 #[.pointer (some ⟨d, 0, none⟩), .int .i64 i] w fun e w' => ReadT w w' e (rdD D i) ∧ w.grownBy w' none := by
  obtain ⟨s, c, m, X, ov, K, h⟩ := h
  have c1 := dstopped_any u w F d s c m X ov K D h
  by_cases hd : D.down = true
  · have e1 : rdD D i = ([], 17) := by unfold rdD; rw [if_pos hd]
    rw [e1]
    rw [if_pos hd] at c1
    clear hd e1 h
    go_enter Try.func18, Try.ntmps18
    go_wp2_with (go_at_call 28; refine c1.mono ?_; rintro e w2 ⟨rfl, e2⟩; subst w2; clear c1)
    go_ret2
    exact ⟨⟨_, rfl, NewT.nil _ _⟩, gb_refl _ _⟩
  · rw [if_neg hd] at c1
    by_cases hi : hasD D i = true
    · obtain ⟨h2, h3⟩ := hasD_nat hi
      have e1 : rdD D i = (lastD D i.toNat, 0) := by unfold rdD; rw [if_neg hd, if_pos hi]
      rw [e1]
      obtain ⟨j, hj⟩ : ∃ j, j = i.toNat := ⟨_, rfl⟩
      rw [← hj] at h2 h3 ⊢
      subst h3
      have ca := dat_any w d s _ c h.c0 j h2 37 _ (lastD_len h.ok h2) enter_last (dlast_any u w F d s c m X ov K D h j h2 hU)
      clear hi e1 hj h h2 hd
      go_enter Try.func18, Try.ntmps18
      go_upto_region 4 with (go_at_call 28; refine c1.mono ?_; rintro e w2 ⟨rfl, e2⟩; subst w2; clear c1)
      go_wp2_with fail
      refine ca.mono ?_
      rintro e w2 ⟨v, rfl, hv, g2⟩
      clear ca
      go_wp2
      go_ret2
      exact ⟨⟨v, rfl, hv⟩, g2⟩
    · have e1 : rdD D i = ([], 2) := by unfold rdD; rw [if_neg hd, if_neg hi]
      rw [e1]
      rw [hasD_iff] at hi
      have ca := dat_no w d s _ c h.c0 i hi (.func (.func 37) #[] #[])
      clear hi e1 h hd
      go_enter Try.func18, Try.ntmps18
      go_upto_region 4 with (go_at_call 28; refine c1.mono ?_; rintro e w2 ⟨rfl, e2⟩; subst w2; clear c1)
      go_wp2_with fail
      refine ca.mono ?_
      rintro e w2 ⟨rfl, e2⟩
      subst w2
      clear ca
      go_wp2
      go_ret2
      exact ⟨⟨_, rfl, NewT.nil _ _⟩, gb_refl _ _⟩

theorem keyN_one (L : List (Nat × List UInt8)) : ∀ u ∈ L.map (fun x => keyN x.1), u.oneCell' = true := by
  intro u hu
  obtain ⟨_, _, rfl⟩ := List.mem_map.1 hu
  rfl
set_option maxRecDepth 100000 in
set_option maxHeartbeats 2000000 in
theorem dunder_any (u : Nat) (w : World) (F : List Nat) (d : Nat) (D : Dsk) (h : DiskAt u w F d D) (hU : D.U.length ≤ 1000000) :
    Calls Try.prog 20 #[.pointer (some ⟨d, 0, none⟩)] w fun e w' => ∃ v, e = .returned v ∧ w'.ownsRow w.heap.size 3 1 v D.U.length (D.U.map fun x => keyN x.1) ∧ w.grownBy w' none := by
  obtain ⟨s, c, m, X, ov, K, h⟩ := h
  have c1 := h.made
  have h1 := h.c1
  have cc := iclone_any w u ov _ _ h.ord (keyN_one _) hU
  clear h hU
  go_enter Try.func20, Try.ntmps20
  go_upto_region 3 with (go_at_call 34; refine c1.mono ?_; rintro e w2 ⟨rfl, e2⟩; subst w2; clear c1)
  go_wp2_with fail
  refine cc.mono ?_
  rintro e w2 ⟨v, rfl, ho, g2⟩
  clear cc
  go_wp2
  go_ret
  exact ⟨v, rfl, ho, g2⟩

end Go.Proofs.Ytfaipdifkmjdeaa
