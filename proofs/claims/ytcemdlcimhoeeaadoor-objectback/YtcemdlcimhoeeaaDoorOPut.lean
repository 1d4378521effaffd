/- What object's Put and Read answer. Of data of fewer than 2 to the 45 bytes, and bytes of at most 100000. -/
import Derived.Test.YtcemdlcimhoeeaaDoorOLink2
namespace Go.Proofs.YtcemdlcimhoeeaaDoor
open Go.RowKit

theorem bts_b (w : World) (x : UInt8) : ∃ W, W = w.alloc (.cells #[.int .u8 ((x.toNat : Nat) : Int)] 5) ∧ Bts W (some ⟨w.heap.size, 0, none⟩) 1 [x] ∧ w.grownBy W none :=
  ⟨_, rfl, range_bts (l := [x]) (blk_all (Blk.new w 5 [bv x])) (by show 1 ≤ maxLen; decide), gb_alloc (gb_refl _ _) _⟩
theorem wrap_b (k : Int) : IntKind.u8.wrap k = (((UInt8.ofInt k).toNat : Nat) : Int) := by
  rw [IntKind.wrap_u8]
  unfold UInt8.ofInt
  rw [UInt8.toNat_ofNat']
  omega

set_option maxRecDepth 100000 in
theorem oput_any (w : World) (k : Int) (ao : Option Addr) (c : Nat) (d : List UInt8) (hb : Bts w ao c d) (hd : d.length ≤ 35184372088832) : Calls Tryd.prog 14 #[.agg #[.int .i64 k, .slice ao d.length c]] w fun e w' => ∃ v, e = .returned v ∧ NewB w w' v (putL k d) ∧ w.grownBy w' none := by
  obtain ⟨n, hn⟩ : ∃ n, n = d.length := ⟨_, rfl⟩
  obtain ⟨W0, hW0, hB0, g0⟩ : ∃ W1, W1 = w.alloc (.cells #[.int .i64 k, .slice ao n c] 34) ∧ Blk W1 w.heap.size 34 [.int .i64 k, .slice ao n c] ∧ w.grownBy W1 none := box_new w _ _
  obtain ⟨W1, hW1, hb1, g1⟩ := bts_b W0 (UInt8.ofInt k)
  have hcv := wrap_b k
  have cs := sizedl_any W1 _ ao 1 c [UInt8.ofInt k] d hb1 (hb.kept (tn g0 g1) (fun _ e => by cases e)) (by simp; omega)
  rw [show (([UInt8.ofInt k] : List UInt8)).length = 1 from rfl, ← hn] at cs
  rw [← hn]
  have hput : putL k d = [UInt8.ofInt k] ++ layS d := rfl
  rw [← hput] at cs
  obtain ⟨P, hP⟩ : ∃ P, P = putL k d := ⟨_, rfl⟩
  rw [← hP] at cs ⊢
  obtain ⟨z, hz⟩ : ∃ z : Int, z = (((UInt8.ofInt k).toNat : Nat) : Int) := ⟨_, rfl⟩
  rw [← hz] at hcv hW1
  have hs0 : W0.heap.size = w.heap.size + 1 := by rw [hW0]; simp
  rw [hs0] at cs
  have hW : W1 = (w.alloc (.cells #[.int .i64 k, .slice ao n c] 34)).alloc (.cells #[.int .u8 z] 5) := by rw [hW1, hW0]
  have c1 := (hB0.kept g1 (by simp)).cell 1
  simp only [List.getElem?_cons_zero, List.getElem?_cons_succ] at c1
  have HW := hide hW
  have G1 := tn g0 g1
  clear hW hW1 hW0 hz hP hput hb hb1 hB0 g0 g1 hs0 hd hn
  go_enter Tryd.func14, Tryd.ntmps14
  go_wp2_with (rw [← unhide HW])
  refine cs.mono ?_
  rintro e w2 ⟨v2, rfl, hN2, g2⟩
  have HN := hide hN2
  clear cs hN2 c1
  go_wp2
  go_ret
  exact ⟨_, rfl, NewB.later (unhide HN) G1.size, tn G1 g2⟩

/-- What Read tells: the error, the kind, the data. -/
def rdL (b : List UInt8) : Int × Int × List UInt8 :=
  let a := numS b 0 1
  let s := sizedS a.2.1 a.2.2
  if doneS s.2.1 s.2.2 = 0 ∧ checkL (a.1 : Int) s.1 = 0 then (0, (a.1 : Int), s.1) else (11, 0, [])

theorem numS_lt1 (l : List UInt8) (k : Int) : (numS l k 1).1 < 256 := by
  have hnb : nb 1 = 1 := by decide
  unfold numS
  rw [hnb]
  repeat' split
  · simp
  · have h1 := be_lt (l.take 1)
    have h2 : 256 ^ (l.take 1).length ≤ 256 ^ 1 := Nat.pow_le_pow_right (by omega) (by simp; omega)
    simp only
    omega
  · simp

set_option maxRecDepth 100000 in
set_option maxHeartbeats 2000000 in
theorem oread_any (w : World) (ao : Option Addr) (c : Nat) (b : List UInt8) (hb : Bts w ao c b) (hl : b.length ≤ 100000) : Calls Tryd.prog 15 #[.slice ao b.length c] w fun e w' => ∃ v y kk, e = .returned (.tuple #[.agg #[.int .i64 kk, v], .int .i64 y]) ∧ y = (rdL b).1 ∧ kk = (rdL b).2.1 ∧ NewB w w' v (rdL b).2.2 ∧ w.grownBy w' none := by
  obtain ⟨n, hn⟩ : ∃ n, n = b.length := ⟨_, rfl⟩
  obtain ⟨W0, hW0, hB0, g0⟩ : ∃ W1, W1 = w.alloc (.cells #[.int .i64 0, .slice none 0 0] 34) ∧ Blk W1 w.heap.size 34 [.int .i64 0, .slice none 0 0] ∧ w.grownBy W1 none := box_new w _ _
  have cn := new_any W0 ao c b (hb.kept g0 (fun _ e => by cases e)) (by omega)
  rw [← hn] at cn ⊢
  have hR : rdL b = (if doneS (sizedS (numS b 0 1).2.1 (numS b 0 1).2.2).2.1 (sizedS (numS b 0 1).2.1 (numS b 0 1).2.2).2.2 = 0 ∧ checkL ((numS b 0 1).1 : Int) (sizedS (numS b 0 1).2.1 (numS b 0 1).2.2).1 = 0 then (0, ((numS b 0 1).1 : Int), (sizedS (numS b 0 1).2.1 (numS b 0 1).2.2).1) else (11, 0, [])) := rfl
  have hv256 := numS_lt1 b 0
  have hl1 := numS_len b 0 1
  obtain ⟨⟨v1, l1, e1⟩, h1⟩ : ∃ a, numS b 0 1 = a := ⟨_, rfl⟩
  rw [h1] at hR hv256 hl1
  simp only at hR hv256 hl1
  have hdl := sizedS_le l1 e1
  obtain ⟨⟨x, l2, e2⟩, h2⟩ : ∃ a, sizedS l1 e1 = a := ⟨_, rfl⟩
  rw [h2] at hR hdl
  simp only at hR hdl
  obtain ⟨r, hr⟩ : ∃ r, r = rdL b := ⟨_, rfl⟩
  rw [← hr] at hR ⊢
  have hcv : IntKind.i64.wrap ((v1 : Nat) : Int) = ((v1 : Nat) : Int) := by rw [IntKind.wrap_i64]; omega
  have HW0 := hide hW0
  have HB0 := hide hB0
  have HG0 := hide g0
  have H1 := hide h1
  have H2 := hide h2
  have HR := hide hR
  have hl1a : l1.length ≤ 100000 := by omega
  have hxl : x.length ≤ 100000 := by omega
  clear hn hb hl hW0 hB0 g0 h1 h2 hr hR hl1 hdl
  go_enter Tryd.func15, Tryd.ntmps15
  go_wp2_with (rw [← unhide HW0])
  refine cn.mono ?_
  rintro e w1 ⟨rb, rfl, hrb, hRd, g1⟩
  have hws : w.heap.size < W0.heap.size := (unhide HB0).lt
  have hB1 := (unhide HB0).kept g1 (by simp)
  have G1 := tn (unhide HG0) g1
  have c1 := num_at w1 rb b 0 1 hRd
  rw [unhide H1] at c1
  simp only at c1
  clear cn hRd g1
  go_wp2_with fail
  refine c1.mono ?_
  rintro e w2 ⟨rfl, hR2, g2⟩
  have hB2 := hB1.kept g2 (by simp; omega)
  have G2 : w.grownBy w2 none := gb_trans G1 g2 (fun y e => by cases e; exact Or.inl (by omega))
  have c2 := sized_at w2 rb l1 e1 (by omega) hR2
  rw [unhide H2] at c2
  simp only at c2
  clear c1 hB1 G1 hR2 g2
  go_wp2_with fail
  refine c2.mono ?_
  rintro e w3 ⟨v3, rfl, hN3, hR3, g3⟩
  have hB3 := hB2.kept g3 (by simp; omega)
  have G3 : w.grownBy w3 none := gb_trans G2 g3 (fun y e => by cases e; exact Or.inl (by omega))
  have hN3' := NewB.later hN3 G2.size
  obtain ⟨a3, k3, hv3, hb3, hn3⟩ := hN3'
  subst hv3
  obtain ⟨m, hm⟩ : ∃ m, m = x.length := ⟨_, rfl⟩
  rw [← hm]
  obtain ⟨W4, hW4, hO4, g4⟩ : ∃ W1, W1 = w3.alloc (.cells #[.int .i64 (v1 : Int), .slice a3 m k3] 34) ∧ Blk W1 w3.heap.size 34 [.int .i64 (v1 : Int), .slice a3 m k3] ∧ w3.grownBy W1 none := box_new w3 _ _
  have G4 := tn G3 g4
  have hR4 := hR3.kept g4 (Or.inl rfl)
  have hB4 := hB3.kept g4 (by simp)
  have hb4 := hb3.kept g4 (fun _ e => by cases e)
  have cd := done_at W4 rb l2 e2 hR4
  have cc := check_any W4 (v1 : Int) a3 k3 x hb4
  rw [← hm] at cc
  have d0 := hO4.cell 0
  have d1 := hO4.cell 1
  simp only [List.getElem?_cons_zero, List.getElem?_cons_succ] at d0 d1
  have HW4 := hide hW4
  have HB4 := hide hB4
  have HN4 : Hid (NewB w W4 (.slice a3 m k3) x) := hide ⟨a3, k3, by rw [hm], hb4, fun ad e => ⟨(hn3 ad e).1, (hn3 ad e).2.kept g4 (by simp)⟩⟩
  have HO4 := hide hO4
  have HG4 := hide G4
  obtain ⟨D, hD⟩ : ∃ D, D = doneS l2 e2 := ⟨_, rfl⟩
  rw [← hD] at cd
  obtain ⟨C, hC⟩ : ∃ C, C = checkL (v1 : Int) x := ⟨_, rfl⟩
  rw [← hC] at cc
  have hR5 : r = (if D = 0 ∧ C = 0 then (0, (v1 : Int), x) else (11, 0, [])) := by rw [hD, hC]; exact unhide HR
  have HR5 := hide hR5
  clear c2 hB2 G2 hN3 hR3 g3 hB3 G3 hb3 hn3 hm hW4 hO4 g4 hR4 hB4 hb4 hD hC hR5 HR H1 H2 G4
  by_cases hD0 : D = 0
  · subst hD0
    by_cases hC0 : C = 0
    · subst hC0
      have hres : r = (0, (v1 : Int), x) := by have := unhide HR5; rw [if_pos ⟨rfl, rfl⟩] at this; exact this
      have HRS := hide hres
      clear hres HR5
      go_wp2_with (first
        | (rw [← unhide HW4]; go_at_call 39; refine cd.mono ?_; rintro e w5 ⟨rfl, hw5⟩; subst w5; clear cd)
        | (go_at_call 17; refine cc.mono ?_; rintro e w6 ⟨rfl, g6⟩; have HO6 := (unhide HO4).kept g6 (by simp); have HB6 := (unhide HB4).kept g6 (by simp); have e0 := HO6.cell 0; have e1 := HO6.cell 1; have f0 := HB6.cell 0; have f1 := HB6.cell 1; have z0 := HB6.fz 0; have z1 := HB6.fz 1; simp only [List.getElem?_cons_zero, List.getElem?_cons_succ] at e0 e1 f0 f1; clear cc))
      refine bodyPost_ret (results_row_tmp rfl _ _ _ _ _ _ _ rfl ((HB6.set 0 (.int .i64 (v1 : Int))).set 1 (.slice a3 m k3)) Tryd.underlying34 rfl info_obj) rfl ?_
      rw [unhide HRS]
      refine ⟨_, _, _, rfl, rfl, rfl, ?_, gb_setCell (gb_setCell (tn (unhide HG4) g6) _ _ (Or.inl (Nat.le_refl _))) _ _ (Or.inl (Nat.le_refl _))⟩
      obtain ⟨a', c', q1, q2, q3⟩ := unhide HN4
      have gs : w6.grownBy ((w6.setCell ⟨w.heap.size, 0, none⟩ (.int .i64 (v1 : Int))).setCell ⟨w.heap.size, 1, none⟩ (.slice a3 m k3)) (some w.heap.size) := gb_setCell (gb_set w6 w.heap.size 0 _) _ _ (Or.inr rfl)
      refine ⟨a', c', q1, (q2.kept g6 (fun _ e => by cases e)).kept gs ?_, fun ad e => ⟨(q3 ad e).1, ((q3 ad e).2.kept g6 (by simp)).kept gs ?_⟩⟩
      · intro y e ad e5 e4
        cases e
        exact HB6.typ (by decide) (e4 ▸ (q3 ad e5).2.kept g6 (by simp))
      · intro e4
        have e5 := Option.some.inj e4
        exact HB6.typ (by decide) (e5 ▸ (q3 ad e).2.kept g6 (by simp))
    · have hC1 : (C == 0) = false := by simpa using hC0
      have hres : r = (11, 0, []) := by have := unhide HR5; rw [if_neg (fun h => hC0 h.2)] at this; exact this
      have HRS := hide hres
      clear hres HR5
      go_wp2_with (first
        | (rw [← unhide HW4]; go_at_call 39; refine cd.mono ?_; rintro e w5 ⟨rfl, hw5⟩; subst w5; clear cd)
        | (go_at_call 17; refine cc.mono ?_; rintro e w6 ⟨rfl, g6⟩; have HO6 := (unhide HO4).kept g6 (by simp); have HB6 := (unhide HB4).kept g6 (by simp); have e0 := HO6.cell 0; have e1 := HO6.cell 1; have f0 := HB6.cell 0; have f1 := HB6.cell 1; have z0 := HB6.fz 0; have z1 := HB6.fz 1; simp only [List.getElem?_cons_zero, List.getElem?_cons_succ] at e0 e1 f0 f1; clear cc))
      refine bodyPost_ret (results_row_tmp rfl _ _ _ _ _ _ _ rfl ((HB6.set 0 (.int .i64 0)).set 1 (.slice none 0 0)) Tryd.underlying34 rfl info_obj) rfl ?_
      rw [unhide HRS]
      exact ⟨_, _, _, rfl, rfl, rfl, NewB.nil _ _, gb_setCell (gb_setCell (tn (unhide HG4) g6) _ _ (Or.inl (Nat.le_refl _))) _ _ (Or.inl (Nat.le_refl _))⟩
  · have hD1 : (D == 0) = false := by simpa using hD0
    have hres : r = (11, 0, []) := by have := unhide HR5; rw [if_neg (fun h => hD0 h.1)] at this; exact this
    have HRS := hide hres
    have hBF := unhide HB4
    have f0 := hBF.cell 0
    have f1 := hBF.cell 1
    have z0 := hBF.fz 0
    have z1 := hBF.fz 1
    simp only [List.getElem?_cons_zero, List.getElem?_cons_succ] at f0 f1
    clear hres HR5 cc
    go_wp2_with (rw [← unhide HW4]; go_at_call 39; refine cd.mono ?_; rintro e w5 ⟨rfl, hw5⟩; subst w5; clear cd)
    refine bodyPost_ret (results_row_tmp rfl _ _ _ _ _ _ _ rfl ((hBF.set 0 (.int .i64 0)).set 1 (.slice none 0 0)) Tryd.underlying34 rfl info_obj) rfl ?_
    rw [unhide HRS]
    exact ⟨_, _, _, rfl, rfl, rfl, NewB.nil _ _, gb_setCell (gb_setCell (unhide HG4) _ _ (Or.inl (Nat.le_refl _))) _ _ (Or.inl (Nat.le_refl _))⟩

end Go.Proofs.YtcemdlcimhoeeaaDoor
