/- WireReads answers true of any bytes and steps, and nothing that was in memory has changed. -/
import Derived.Test.YtgedgjcdeajgiaaRRList
import Derived.Deep.RegionWith
import Derived.Deep.DrawnRows
import Derived.Deep.QuietTactic
import Derived.BigQuiet
import Derived.Deep.DeepCutAuto
import Derived.Deep.LoopGhost
import Derived.Deep.CutBlock
namespace Go.Proofs.Ytgedgjcdeajgiaa
open Go.RowKit
attribute [local go_sem ↓] Go.wp_at_zero Go.wp_at_succ

/-- The slice value '.slice ao A.length c' holds steps, two cells each. -/
structure Acs (w : World) (ao : Option Addr) (c : Nat) (A : List (Int × Int)) : Prop where
  zip : ao = none → A.length = 0 ∧ c = 0
  fits : A.length ≤ c
  most : c ≤ maxLen
  shape : ∀ ad, ao = some ad → 0 < A.length → ad.spot = none
  cell : ∀ ad, ao = some ad → ∀ i (h : i < A.length), w.cell? ⟨ad.block, ad.off + i * 2, none⟩ = some (.int .i64 (A[i]).1) ∧ w.cell? ⟨ad.block, ad.off + i * 2 + 1, none⟩ = some (.int .i64 (A[i]).2)

theorem Acs.below {w a : World} {ao : Option Addr} {c : Nat} {A : List (Int × Int)} (h : Acs w ao c A) (g : Below w.heap.size w a) : Acs a ao c A :=
  ⟨h.zip, h.fits, h.most, h.shape, fun ad e i hi => ⟨(below_gb g).cell (h.cell ad e i hi).1 (by simp), (below_gb g).cell (h.cell ad e i hi).2 (by simp)⟩⟩

theorem gb_drew {w a : World} {r : Option Nat} (h : w.grownBy a r) : w.grownBy a.drew r := ⟨h.os, h.tape, h.output, h.size, h.block⟩

/-- Texts of the call's own are texts. -/
theorem Txs.lst {w : World} {base : Nat} {v : Value} {L : List (List UInt8)} (h : Txs w base v L) : ∃ yo k, v = .slice yo L.length k ∧ Lst w yo k L := by
  obtain ⟨vs, h1, h2⟩ := h
  have hvl : vs.length = L.length := by simpa using h1.1
  rcases h1.2 with ⟨rfl, h3⟩ | ⟨g, cap, cur, rfl, hg, hh, h3, h4, h5, h6⟩
  · refine ⟨none, 0, by rw [h3], ⟨fun _ => ⟨h3, rfl⟩, by omega, Nat.zero_le _, (fun _ e => by cases e), (fun _ e => by cases e)⟩⟩
  · refine ⟨_, _, rfl, ⟨(fun e => by cases e), h3, h4, (fun ad e _ => by cases e; rfl), (fun ad e i hi => ?_)⟩⟩
    cases e
    obtain ⟨ai, ci, q1, q2, _⟩ := h2 i hi
    refine ⟨ai, ci, ?_, q2⟩
    have h7 : (cur.toList.take (L.length * 1))[i]? = vs[i]? := by rw [h6]
    rw [List.getElem?_take_of_lt (by omega), q1] at h7
    simpa [World.cell?, hh] using h7

theorem gb_drewN {w a : World} {r : Option Nat} (h : w.grownBy a r) (n : Nat) : w.grownBy (a.drewN n) r := by
  induction n with
  | zero => exact h
  | succ n ih => exact ⟨ih.os, ih.tape, ih.output, ih.size, ih.block⟩

theorem textsS_len (n : Nat) : ∀ l : List UInt8, (textsS n l).2.1.length ≤ l.length := by
  induction n with
  | zero => intro l; simp [textsS]
  | succ n ih =>
    intro l
    have h1 := sizedS_len l 0
    unfold textsS
    split
    · have h2 := ih (sizedS l 0).2.1
      unfold accS
      split <;> simp only <;> omega
    · exact h1

theorem listS_len (l : List UInt8) (e most : Int) : (listS l e most).2.1.length ≤ l.length := by
  have h1 := numS_len l e 2
  unfold listS
  split
  · split
    · simp
    · exact h1
  · split
    · exact Nat.le_trans (textsS_len _ _) h1
    · exact h1

theorem Sts.kept {w a : World} {so : Option Addr} {sc rb : Nat} {L : List (List UInt8)} {l : List UInt8} {e : Int} (h : Sts w so sc L) (g : w.grownBy a (some rb)) (hr : Rd w rb l e) : Sts a so sc L :=
  ⟨h.zip, h.fits, h.most, h.shape, fun ad e1 i hi => by
    have hc := h.cell ad e1 i hi
    refine g.cell hc ?_
    intro e2
    simp only [Option.some.injEq] at e2
    obtain ⟨xo, xc, x1, _, _⟩ := hr
    unfold RdAt at x1
    rw [← e2] at x1
    simp only [World.cell?, x1] at hc
    generalize ad.off + i = o at hc
    match o, hc with
    | 0, hc => simp at hc
    | 1, hc => simp at hc
    | o + 2, hc => simp at hc⟩

theorem rawS_len (l : List UInt8) (k n : Int) : (rawS l k n).2.1.length ≤ l.length := by
  unfold rawS
  repeat' split
  all_goals simp

theorem St.not_typ {w : World} {b : Nat} {u v : Value} (h : St w b u v) : ¬ Typ w b := by
  rintro ⟨cur, m, h2⟩
  unfold St at h
  rw [h] at h2
  cases h2

theorem reads_fin {w w4 : World} {rb qb : Nat} {l2 : List UInt8} {e2 : Int} {u v : Value} (r4 : Rd w4 rb l2 e2) (hq : St w4 qb u v) (hne : qb ≠ rb) (G : w.grownBy w4 none) (hqw : w.heap.size ≤ qb) :
    Rd ((w4.setCell ⟨qb, 0, none⟩ (.string (str l2))).setCell ⟨qb, 1, none⟩ (.int .i64 e2)) rb l2 e2 ∧
    St ((w4.setCell ⟨qb, 0, none⟩ (.string (str l2))).setCell ⟨qb, 1, none⟩ (.int .i64 e2)) qb (.string (str l2)) (.int .i64 e2) ∧
    w.grownBy ((w4.setCell ⟨qb, 0, none⟩ (.string (str l2))).setCell ⟨qb, 1, none⟩ (.int .i64 e2)) none := by
  have g := gb_setCell (gb_set w4 qb 0 (.string (str l2))) ⟨qb, 1, none⟩ (.int .i64 e2) (Or.inr rfl)
  refine ⟨r4.keptTyp g ?_, hq.set _ _, gb_two w w4 qb _ _ G hqw⟩
  intro x e
  cases e
  exact ⟨hne, hq.not_typ⟩

set_option maxRecDepth 100000 in
set_option maxHeartbeats 2000000 in
theorem reads_any (w : World) (ao bo : Option Addr) (c d : Nat) (b : List UInt8) (A : List (Int × Int)) (hb : Bts w ao c b) (hA : Acs w bo d A) :
    Calls Try.prog 4 #[.slice ao b.length c, .slice bo A.length d] w fun e w' => e = .returned (.bool true) ∧ w.grownBy w' none := by
  have hmost := hb.most
  have hfit := hb.fits
  have hmostA := hA.most
  have hfitA := hA.fits
  unfold maxLen at hmost hmostA
  by_cases h9 : 9000 < b.length
  · go_enter Try.func4, Try.ntmps4
    go_wp2
    go_ret
    exact ⟨rfl, gb_refl _ _⟩
  have hnew := new_any w ao c b hb (by omega)
  go_enter Try.func4, Try.ntmps4
  go_wp2_with fail
  refine hnew.mono ?_
  rintro e w1 ⟨rb, rfl, hrb, r1, g1⟩
  have cv := conv_str (hb.kept g1 (fun _ e => by cases e))
  clear hnew
  have hw1 := g1.size
  have hrb1 := r1.lt
  have hS1 := St.new w1 (.string (str b)) (.int .i64 0)
  have R1 := r1.kept (World.grownBy_alloc w1 (.cells #[.string (str b), .int .i64 0] 40) none) (Or.inl rfl)
  have G1 := gb_alloc g1 (.cells #[.string (str b), .int .i64 0] 40)
  have hbl : b.length ≤ 9000 := by omega
  clear r1 g1 hb
  go_wp2
  go_loopg [7] 40 (fun g i wr => ∃ (k : Nat) (l' : List UInt8) (e' : Int), k ≤ 40 ∧ g = 40 - k ∧ i = .int .i64 k ∧ Rd wr rb l' e' ∧ St wr w1.heap.size (.string (str l')) (.int .i64 e') ∧ w.grownBy wr none ∧ l'.length ≤ b.length)
  case atStart => exact ⟨0, b, 0, by omega, rfl, rfl, R1, hS1, G1, Nat.le_refl _⟩
  case round =>
    clear R1 hS1 G1 cv
    obtain ⟨k, l', e', hk, hgk, rfl, hR, hS, hG, hl'⟩ := hrel
    by_cases hlt : k < A.length ∧ k < 40
    · obtain ⟨hkA, hk40⟩ := hlt
      obtain ⟨ad, rfl⟩ : ∃ ad, bo = some ad := by
        cases bo with
        | none => have := hA.zip rfl; omega
        | some ad => exact ⟨ad, rfl⟩
      obtain ⟨hc1, hc2⟩ := (hA.below (gb_below hG)).cell ad rfl k hkA
      have hsp := hA.shape ad rfl (by omega)
      obtain ⟨ab, aoff, asp⟩ := ad
      simp only at hsp hc1 hc2
      subst hsp
      obtain ⟨kd, hkd⟩ : ∃ kd, kd = (A[k]).1 := ⟨_, rfl⟩
      obtain ⟨N, hN⟩ : ∃ N, N = (A[k]).2 := ⟨_, rfl⟩
      rw [← hkd] at hc1
      rw [← hN] at hc2
      have HG := hide hgk
      clear hkd hN hgk
      go_upto_block 2 with fail
      have hwr : w1.heap.size < wr.heap.size := hS.lt
      have hrbr := hR.lt
      have gA := World.grownBy_alloc wr (.cells #[.int .i64 kd, .int .i64 N] 42) none
      have hS0 := hS.old (.cells #[.int .i64 kd, .int .i64 N] 42)
      have hR0 := hR.kept gA (Or.inl rfl)
      have hG0 := gb_alloc hG (.cells #[.int .i64 kd, .int .i64 N] 42)
      have cA : (wr.alloc (.cells #[.int .i64 kd, .int .i64 N] 42)).cell? ⟨wr.heap.size, 1, none⟩ = some (.int .i64 N) := by
        have h1 := heap_alloc_new wr (.cells #[.int .i64 kd, .int .i64 N] 42)
        simp only [World.cell?, h1]
        rfl
      have hlb : l'.length ≤ 70368744177664 := by omega
      clear hS hR hG hc1 hc2
      go_cut [] (fun wx => ∃ (l2 : List UInt8) (e2 : Int), Rd wx rb l2 e2 ∧ St wx w1.heap.size (.string (str l2)) (.int .i64 e2) ∧ w.grownBy wx none ∧ l2.length ≤ b.length)
      case first =>
        have c0 := hS0.c0
        have c1 := hS0.c1
        by_cases k0 : kd = 0
        · have e0 : (kd == 0) = true := by simpa using k0
          have hsl := numS_len l' e' N
          have hq1 := fun W => rnum_any W l' e' N hlb
          have hq2 := fun W (h : Rd W rb l' e') => num_at W rb l' e' N h
          generalize numS l' e' N = z at *
          obtain ⟨v, l2, e2⟩ := z
          simp only at *
          clear k0
          go_wp2_with fail
          refine (hq1 _).mono ?_
          rintro r w2 ⟨rfl, g2⟩
          have gs := World.grownBy_alloc w2 (.cells #[.string (str l2), .int .i64 e2] 40) none
          have hS3 := (hS0.kept g2 (by simp)).kept gs (by simp)
          have hR3 := (hR0.kept g2 (Or.inl rfl)).kept gs (Or.inl rfl)
          have hG3 : w.grownBy (w2.alloc (.cells #[.string (str l2), .int .i64 e2] 40)) none := gb_trans (gb_trans hG0 g2 (fun _ e => by cases e)) gs (fun _ e => by cases e)
          have cA3 := gs.cell (g2.cell cA (by simp)) (by simp)
          have hs3 := St.new w2 (.string (str l2)) (.int .i64 e2)
          have hz2 := g2.size
          have hz3 : wr.heap.size < w2.heap.size := by have := World.block_lt_of_cell? _ _ cA; have h5 := g2.size; simp at this h5; omega
          clear hS0 hR0 hG0 cA c0 c1 g2 gs hq1
          go_wp2_with fail
          refine (hq2 _ hR3).mono ?_
          rintro r w4 ⟨rfl, r4, g4⟩
          have hS4 := hS3.kept g4 (by simp; omega)
          have hs4 := hs3.kept g4 (by simp; omega)
          have G4 : w.grownBy w4 none := gb_trans hG3 g4 (fun x e => by cases e; exact Or.inl hrb)
          obtain ⟨f1, f2, f3⟩ := reads_fin r4 hS4 (by omega) G4 hw1
          have c0 := hs4.c0
          have c1 := hs4.c1
          have d0 := hS4.c0
          have d1 := hS4.c1
          have z0 := hS4.fz 0
          have z1 := hS4.fz 1
          clear hS3 hR3 hG3 hs3 hS4 hs4 r4 g4 G4 hq2
          go_wp2
          go_meet
          case rel => exact ⟨l2, e2, f1, f2, f3, Nat.le_trans hsl hl'⟩
        have n0 : (kd == 0) = false := by simpa using k0
        clear k0
        by_cases k1 : kd = 1
        · have e1 : (kd == 1) = true := by simpa using k1
          have hsl := rawS_len l' e' N
          have hq1 := fun W => rraw_any W l' e' N hlb
          have hq2 := fun W (h : Rd W rb l' e') => raw_at W rb l' e' N hlb h
          generalize rawS l' e' N = z at *
          obtain ⟨x, l2, e2⟩ := z
          simp only at *
          clear k1
          go_wp2_with fail
          refine (hq1 _).mono ?_
          rintro r w2 ⟨rfl, g2⟩
          have gs := World.grownBy_alloc w2 (.cells #[.string (str l2), .int .i64 e2] 40) none
          have hS3 := (hS0.kept g2 (by simp)).kept gs (by simp)
          have hR3 := (hR0.kept g2 (Or.inl rfl)).kept gs (Or.inl rfl)
          have hG3 : w.grownBy (w2.alloc (.cells #[.string (str l2), .int .i64 e2] 40)) none := gb_trans (gb_trans hG0 g2 (fun _ e => by cases e)) gs (fun _ e => by cases e)
          have cA3 := gs.cell (g2.cell cA (by simp)) (by simp)
          have hs3 := St.new w2 (.string (str l2)) (.int .i64 e2)
          have hz2 := g2.size
          have hz3 : wr.heap.size < w2.heap.size := by have := World.block_lt_of_cell? _ _ cA; have h5 := g2.size; simp at this h5; omega
          clear hS0 hR0 hG0 cA c0 c1 g2 gs hq1
          go_wp2_with fail
          refine (hq2 _ hR3).mono ?_
          rintro r w4 ⟨v4, rfl, ⟨vo, vc, rfl, hv4, _⟩, r4, g4⟩
          have cv := conv_str hv4
          have hS4 := hS3.kept g4 (by simp; omega)
          have hs4 := hs3.kept g4 (by simp; omega)
          have G4 : w.grownBy w4 none := gb_trans hG3 g4 (fun x e => by cases e; exact Or.inl hrb)
          obtain ⟨f1, f2, f3⟩ := reads_fin r4 hS4 (by omega) G4 hw1
          have c0 := hs4.c0
          have c1 := hs4.c1
          have d0 := hS4.c0
          have d1 := hS4.c1
          have z0 := hS4.fz 0
          have z1 := hS4.fz 1
          clear hv4 hS3 hR3 hG3 hs3 hS4 hs4 r4 g4 G4 hq2
          go_wp2
          go_meet
          case rel => exact ⟨l2, e2, f1, f2, f3, Nat.le_trans hsl hl'⟩
        have n1 : (kd == 1) = false := by simpa using k1
        clear k1
        by_cases k2 : kd = 2
        · have e3 : (kd == 2) = true := by simpa using k2
          have hsl := sizedS_len l' e'
          have hq1 := fun W => rsz_any W l' e' hlb
          have hq2 := fun W (h : Rd W rb l' e') => sized_at W rb l' e' hlb h
          generalize sizedS l' e' = z at *
          obtain ⟨x, l2, e2⟩ := z
          simp only at *
          clear k2
          go_wp2_with fail
          refine (hq1 _).mono ?_
          rintro r w2 ⟨rfl, g2⟩
          have gs := World.grownBy_alloc w2 (.cells #[.string (str l2), .int .i64 e2] 40) none
          have hS3 := (hS0.kept g2 (by simp)).kept gs (by simp)
          have hR3 := (hR0.kept g2 (Or.inl rfl)).kept gs (Or.inl rfl)
          have hG3 : w.grownBy (w2.alloc (.cells #[.string (str l2), .int .i64 e2] 40)) none := gb_trans (gb_trans hG0 g2 (fun _ e => by cases e)) gs (fun _ e => by cases e)
          have cA3 := gs.cell (g2.cell cA (by simp)) (by simp)
          have hs3 := St.new w2 (.string (str l2)) (.int .i64 e2)
          have hz2 := g2.size
          have hz3 : wr.heap.size < w2.heap.size := by have := World.block_lt_of_cell? _ _ cA; have h5 := g2.size; simp at this h5; omega
          clear hS0 hR0 hG0 cA c0 c1 g2 gs hq1
          go_wp2_with fail
          refine (hq2 _ hR3).mono ?_
          rintro r w4 ⟨v4, rfl, ⟨vo, vc, rfl, hv4, _⟩, r4, g4⟩
          have cv := conv_str hv4
          have hS4 := hS3.kept g4 (by simp; omega)
          have hs4 := hs3.kept g4 (by simp; omega)
          have G4 : w.grownBy w4 none := gb_trans hG3 g4 (fun x e => by cases e; exact Or.inl hrb)
          obtain ⟨f1, f2, f3⟩ := reads_fin r4 hS4 (by omega) G4 hw1
          have c0 := hs4.c0
          have c1 := hs4.c1
          have d0 := hS4.c0
          have d1 := hS4.c1
          have z0 := hS4.fz 0
          have z1 := hS4.fz 1
          clear hv4 hS3 hR3 hG3 hs3 hS4 hs4 r4 g4 G4 hq2
          go_wp2
          go_meet
          case rel => exact ⟨l2, e2, f1, f2, f3, Nat.le_trans hsl hl'⟩
        have n2 : (kd == 2) = false := by simpa using k2
        clear k2
        by_cases k3 : kd = 3
        · have e3 : (kd == 3) = true := by simpa using k3
          have hsl := listS_len l' e' N
          have hq1 := fun W => rrl_any W l' e' N hlb
          have hq2 := fun W (h : Rd W rb l' e') => rlist_at W rb l' e' N hlb h
          generalize listS l' e' N = z at *
          obtain ⟨L, l2, e2⟩ := z
          simp only at *
          clear k3
          go_wp2_with fail
          refine (hq1 _).mono ?_
          rintro r w2 ⟨so, sc, rfl, hst, g2⟩
          have gs := World.grownBy_alloc w2 (.cells #[.string (str l2), .int .i64 e2] 40) none
          have hS3 := (hS0.kept g2 (by simp)).kept gs (by simp)
          have hR3 := (hR0.kept g2 (Or.inl rfl)).kept gs (Or.inl rfl)
          have hG3 : w.grownBy (w2.alloc (.cells #[.string (str l2), .int .i64 e2] 40)) none := gb_trans (gb_trans hG0 g2 (fun _ e => by cases e)) gs (fun _ e => by cases e)
          have cA3 := gs.cell (g2.cell cA (by simp)) (by simp)
          have hs3 := St.new w2 (.string (str l2)) (.int .i64 e2)
          have hz2 := g2.size
          have hz3 : wr.heap.size < w2.heap.size := by have := World.block_lt_of_cell? _ _ cA; have h5 := g2.size; simp at this h5; omega
          clear hS0 hR0 hG0 cA c0 c1 g2 gs hq1
          have hst3 := hst.below (gb_below (World.grownBy_alloc w2 (.cells #[.string (str l2), .int .i64 e2] 40) none))
          have hfs := hst.fits
          have hms := hst.most
          unfold maxLen at hms
          clear hst
          go_wp2_with fail
          refine (hq2 _ hR3).mono ?_
          rintro r w4 ⟨v4, rfl, t4, r4, g4⟩
          obtain ⟨yo, yk, rfl, hY⟩ := t4.lst
          have hst4 := hst3.kept g4 hR3
          have hS4 := hS3.kept g4 (by simp; omega)
          have hs4 := hs3.kept g4 (by simp; omega)
          have G4 : w.grownBy w4 none := gb_trans hG3 g4 (fun x e => by cases e; exact Or.inl hrb)
          obtain ⟨q, hq⟩ : ∃ q, q = L.length := ⟨_, rfl⟩
          rw [← hq] at hfs ⊢
          have HQ := hide hq
          clear hS3 hR3 hG3 hs3 g4 hq2 hst3 t4 hq
          go_wp2
          go_loopg [18] q (fun g i wi => ∃ j : Nat, j ≤ q ∧ g = q - j ∧ i = .int .i64 j ∧ w4.grownBy wi none)
          case atStart => exact ⟨0, Nat.zero_le _, rfl, rfl, gb_refl _ _⟩
          case round =>
            obtain ⟨j, hj, hgj, rfl, hg⟩ := hrel
            by_cases hlt : j < q
            · have hjL : j < L.length := by have := unhide HQ; omega
              have hYr := hY.below (gb_below hg)
              have hTr := hst4.below (gb_below hg)
              obtain ⟨ya, rfl⟩ : ∃ ad, yo = some ad := by
                cases yo with
                | none => have := hY.zip rfl; omega
                | some ad => exact ⟨ad, rfl⟩
              obtain ⟨ba, rfl⟩ : ∃ ad, so = some ad := by
                cases so with
                | none => have := hst4.zip rfl; omega
                | some ad => exact ⟨ad, rfl⟩
              obtain ⟨ai, ci, hc1, hd1⟩ := hYr.cell ya rfl j hjL
              have hc2 := hTr.cell ba rfl j hjL
              have hs1 := hYr.shape ya rfl (by omega)
              have hs2 := hTr.shape ba rfl (by omega)
              obtain ⟨yb, yo, ys⟩ := ya
              obtain ⟨sb, so, ss⟩ := ba
              simp only at hs1 hs2 hc1 hc2
              subst hs1 hs2
              have cv1 := fun nq => conv_str (hd1.kept (gb_drewN (gb_refl wr none) nq) (fun _ e => by cases e))
              generalize L[j] = xk at *
              clear hYr hTr hd1 hS4 hs4 G4 r4
              go_wp2
              go_quiet (fail)
              go_wp2
              go_roundg (q - (j + 1))
              case measure => omega
              case rel => exact ⟨j + 1, by omega, rfl, by go_num, gb_drewN hg _⟩
            · have hS5 := hS4.kept hg (by simp)
              have hs5 := hs4.kept hg (by simp)
              have r5 := r4.kept hg (Or.inl rfl)
              have G5 : w.grownBy wr none := gb_trans G4 hg (fun _ e => by cases e)
              obtain ⟨f1, f2, f3⟩ := reads_fin r5 hS5 (by omega) G5 hw1
              have c0 := hs5.c0
              have c1 := hs5.c1
              have d0 := hS5.c0
              have d1 := hS5.c1
              have z0 := hS5.fz 0
              have z1 := hS5.fz 1
              clear hS4 hs4 r4 G4 hS5 hs5 r5 G5 hY hst4
              go_wp2
              go_meet
              case rel => exact ⟨l2, e2, f1, f2, f3, Nat.le_trans hsl hl'⟩
        have n3 : (kd == 3) = false := by simpa using k3
        clear k3
        go_wp2
        go_meet
        case rel => exact ⟨l', e', hR0, hS0, hG0, hl'⟩
      case rest =>
        obtain ⟨l2, e2, hR, hS, hG, hl2⟩ := hcut
        have gD := gb_drew (gb_refl wc none)
        have hRD := hR.kept gD (Or.inl rfl)
        have hR' := hRD
        obtain ⟨xo, xc, x1, x2, x3⟩ := hR'
        have hlf := left_at wc.drew rb xo l2.length xc x1.c0
        have hwg := wrong_at wc.drew rb e2 x1.c1
        have hdn := done_at wc.drew rb l2 e2 hRD
        have hrd := fun W => rdone_any W l2 e2 (by omega)
        have c0 := hS.c0
        have c1 := hS.c1
        have hsz := str_size l2
        generalize doneS l2 e2 = dn at *
        clear x1 x2 x3 hS0 hR0 hG0 cA hRD
        go_wp2
        go_region_with (first
          | (go_at_call 26; refine hlf.mono ?_; rintro r w5 ⟨rfl, rfl⟩)
          | (go_at_call 27; refine hwg.mono ?_; rintro r w5 ⟨rfl, rfl⟩)
          | (go_at_call 28; refine hdn.mono ?_; rintro r w5 ⟨rfl, rfl⟩)
          | (go_at_call 29; refine (hrd _).mono ?_; rintro r w6 ⟨rfl, g6⟩; have hR6 := hR.kept (gb_trans gD g6 (fun _ e => by cases e)) (Or.inl rfl); have hS6 := hS.kept (gb_trans gD g6 (fun _ e => by cases e)) (by simp); have hG6 := gb_trans hG (gb_trans gD g6 (fun _ e => by cases e)) (fun _ e => by cases e)))
        all_goals
          clear hlf hwg hdn hrd
          go_wp2
          go_roundg (40 - (k + 1))
          case measure => have := unhide HG; omega
          case rel => exact ⟨k + 1, l2, e2, by omega, rfl, by go_num, hR6, hS6, hG6, hl2⟩
    · clear hR hS hA
      by_cases hkA : k < A.length
      · have hk40 : ¬ k < 40 := fun h => hlt ⟨hkA, h⟩
        clear hlt
        go_wp2_with fail
        refine (one_any _).mono ?_
        rintro r w5 ⟨rfl, g5⟩
        go_wp2
        go_ret
        exact ⟨rfl, gb_trans hG g5 (fun _ e => by cases e)⟩
      · clear hlt
        go_wp2_with fail
        refine (one_any _).mono ?_
        rintro r w5 ⟨rfl, g5⟩
        go_wp2
        go_ret
        exact ⟨rfl, gb_trans hG g5 (fun _ e => by cases e)⟩

end Go.Proofs.Ytgedgjcdeajgiaa
