/- What the document's ChangeOf (package coffretref10) answers. Of data of at most 100000 bytes. -/
import Derived.Test.YtcemdlcimhoeeaaGreatDoorRPureC
import Derived.Test.YtcemdlcimhoeeaaGreatDoorRChg
namespace Go.Proofs.YtcemdlcimhoeeaaGreatDoor
open Go.RowKit

/-- What the document's ChangeOf tells. -/
def rtC (k : Int) (d : List UInt8) : Int × ChgL := if k = 3 then (if ofChg (readC d) = (0, d) then (0, readC d) else (11, ⟨[], [], 0, [], []⟩)) else (2, ⟨[], [], 0, [], []⟩)

theorem bs_str3 (s : ByteArray) (V : World) : (Instr.buildSlice 45 1 #[(0, .string s)]).run Tryz.prog V = .ok (.slice (some ⟨V.heap.size, 0, none⟩) 1 1) (V.alloc (.cells #[.string s] 9)) := by kernel_rfl
theorem info_rchg3 : (Tryz.prog.info? 47).map (·.size) = some 5 := by kernel_rfl

set_option maxRecDepth 100000 in
set_option maxHeartbeats 16000000 in
theorem rchangeOf_any (w : World) (k : Int) (d : List UInt8) (hd : d.length ≤ 100000) : Calls Tryz.prog 10 #[.agg #[.int .i64 k, .string (str d)]] w fun e w' => ∃ po pc y, e = .returned (.tuple #[.agg (rcC (rtC k d).2 po pc).toArray, .int .i64 y]) ∧ y = (rtC k d).1 ∧ Stg w' w.heap.size (.slice po (rtC k d).2.pars.length pc) (rtC k d).2.pars ∧ w.grownBy w' none := by
  obtain ⟨SD, hSD⟩ : ∃ S, S = str d := ⟨_, rfl⟩
  obtain ⟨S0, hS0⟩ : ∃ S : ByteArray, S = ⟨#[]⟩ := ⟨_, rfl⟩
  obtain ⟨RT, hRT⟩ : ∃ r, r = rtC k d := ⟨_, rfl⟩
  rw [← hRT, ← hSD]
  by_cases hk : k = 3
  · subst hk
    have hrt : RT = (if ofChg (readC d) = (0, d) then (0, readC d) else (11, ⟨[], [], 0, [], []⟩)) := by rw [hRT]; simp [rtC]
    obtain ⟨⟨t0, l1, e1⟩, h1⟩ : ∃ a, rawS d 0 32 = a := ⟨_, rfl⟩
    obtain ⟨⟨n, l2, e2⟩, h2⟩ : ∃ a, numS l1 e1 1 = a := ⟨_, rfl⟩
    have hN : rdN d = (n, l2, e2) := by unfold rdN; simp only [h1, h2]
    have hsame := fun j => @rdC_same d j
    rw [hN] at hsame
    simp only at hsame
    have hl0 := rawS_le d 0 32
    rw [show ((32 : Nat) : Int) = 32 from rfl, h1] at hl0
    have hl1 := rawS_len d 0 32
    rw [h1] at hl1
    have hl2 := numS_len l1 e1 1
    rw [h2] at hl2
    simp only at hl0 hl1 hl2
    have hn256 : n < 256 := by
      have hnb : nb 1 = 1 := by decide
      have h3 : (numS l1 e1 1).1 < 256 := by
        unfold numS
        rw [hnb]
        repeat' split
        · simp
        · have h4 := be_lt (l1.take 1)
          have h5 : 256 ^ (l1.take 1).length ≤ 256 ^ 1 := Nat.pow_le_pow_right (by omega) (by simp; omega)
          simp only
          omega
        · simp
      rwa [h2] at h3
    have hrdc : ∀ j qs l' e' tm l4 e4 nm l5 e5 tx l6 e6, runQ (l2, e2) j = (qs, l', e') → numS l' e' 8 = (tm, l4, e4) → sizedS l4 e4 = (nm, l5, e5) → sizedS l5 e5 = (tx, l6, e6) → rdC d j = (⟨t0, qs, tm, nm, tx⟩, l6, e6) := by
      intro j qs l' e' tm l4 e4 nm l5 e5 tx l6 e6 q1 q2 q3 q4
      unfold rdC
      simp only [h1, h2, q1, q2, q3, q4]
    have c1 : ∀ V, Calls Tryz.prog 32 #[.agg #[.string SD, .int .i64 0], .int .i64 32] V fun r w' => r = .returned (.tuple #[.agg #[.string (str l1), .int .i64 e1], .string (str t0)]) ∧ V.grownBy w' none := fun V => by
      have := rraw_any V d 0 32 (by omega)
      rw [h1, ← hSD] at this
      exact this
    have c2 : ∀ V, Calls Tryz.prog 30 #[.agg #[.string (str l1), .int .i64 e1], .int .i64 1] V fun r w' => r = .returned (.tuple #[.agg #[.string (str l2), .int .i64 e2], .int .u64 (n : Int)]) ∧ V.grownBy w' none := fun V => by
      have := rnum_any V l1 e1 1 (by omega)
      rw [h2] at this
      exact this
    obtain ⟨T1, hT1⟩ : ∃ T, T = str l1 := ⟨_, rfl⟩
    obtain ⟨T2, hT2⟩ : ∃ T, T = str l2 := ⟨_, rfl⟩
    obtain ⟨TT, hTT⟩ : ∃ T, T = str t0 := ⟨_, rfl⟩
    rw [← hT1, ← hTT] at c1
    rw [← hT1, ← hT2] at c2
    have hl2a : l2.length ≤ 100000 := by omega
    have ht0l : t0.length ≤ 100000 := by omega
    have HRT := hide hrt
    have HSA := hide hsame
    have HRC := hide hrdc
    have HT2 := hide hT2
    have HTT := hide hTT
    have HSD := hide hSD
    obtain ⟨E1, hE1⟩ : ∃ W, W = ((w.alloc (.cells #[.int .i64 3, .string SD] 29)).alloc (.cells #[.string S0, .slice none 0 0, .int .u64 0, .string S0, .string S0] 47)).alloc (.cells #[.string S0, .slice none 0 0, .int .u64 0, .string S0, .string S0] 47) := ⟨_, rfl⟩
    have gE : w.grownBy E1 none := by rw [hE1]; exact gb_alloc (gb_alloc (gb_alloc (gb_refl _ _) _) _) _
    have oE : Blk E1 w.heap.size 29 [.int .i64 3, .string SD] := by rw [hE1]; exact ((Blk.new w _ _).alloc _).alloc _
    have rE : Blk E1 (w.heap.size + 1) 47 [.string S0, .slice none 0 0, .int .u64 0, .string S0, .string S0] := by
      rw [hE1]
      have := (Blk.new (w.alloc (.cells #[.int .i64 3, .string SD] 29)) 47 [.string S0, .slice none 0 0, .int .u64 0, .string S0, .string S0]).alloc (.cells #[.string S0, .slice none 0 0, .int .u64 0, .string S0, .string S0] 47)
      simpa using this
    have mE : Blk E1 (w.heap.size + 2) 47 [.string S0, .slice none 0 0, .int .u64 0, .string S0, .string S0] := by
      rw [hE1]
      have := Blk.new ((w.alloc (.cells #[.int .i64 3, .string SD] 29)).alloc (.cells #[.string S0, .slice none 0 0, .int .u64 0, .string S0, .string S0] 47)) 47 [.string S0, .slice none 0 0, .int .u64 0, .string S0, .string S0]
      simpa using this
    have HE1 : Hid (E1 = ((w.alloc (.cells #[.int .i64 3, .string SD] 29)).alloc (.cells #[.string ⟨#[]⟩, .slice none 0 0, .int .u64 0, .string ⟨#[]⟩, .string ⟨#[]⟩] 47)).alloc (.cells #[.string ⟨#[]⟩, .slice none 0 0, .int .u64 0, .string ⟨#[]⟩, .string ⟨#[]⟩] 47)) := by rw [← hS0]; exact hE1
    have HS0 := hide hS0
    have HGE := hide gE
    have HOE := hide oE
    have HRE := hide rE
    have HME := hide mE
    clear hRT hrt hsame hrdc hS0 hSD gE oE rE mE hE1 hN h1 h2 hl0 hl1 hl2 hT1 hT2 hTT hd
    go_enter Tryz.func10, Tryz.ntmps10
    go_wp2_with fail
    rw [← unhide HE1]
    refine (c1 _).mono ?_
    rintro e w2 ⟨rfl, g2⟩
    have m2 := (unhide HME).kept g2 (by simp)
    have hs2 : w.heap.size + 2 < w2.heap.size := m2.lt
    obtain ⟨W3, hW3, p3, g3⟩ := box_new w2 82 [.string T1, .int .i64 e1]
    have gB := tn g2 g3
    have q0 := p3.cell 0
    have q1 := p3.cell 1
    simp only [List.getElem?_cons_zero, List.getElem?_cons_succ] at q0 q1
    have HW3 := hide hW3
    have HP3 := hide p3
    have HGB := hide gB
    clear c1 hW3 p3 g3 m2 g2 gB
    go_wp2_with (rw [← unhide HW3])
    refine (c2 _).mono ?_
    rintro e w4 ⟨rfl, g4⟩
    have gC := tn (unhide HGB) g4
    have p4 := (unhide HP3).kept g4 (by simp)
    have o4 := (unhide HOE).kept gC (by simp)
    have r4 := (unhide HRE).kept gC (by simp)
    have m4 := (unhide HME).kept gC (by simp)
    have G4 := tn (unhide HGE) gC
    have a0 := p4.cell 0
    have a1 := p4.cell 1
    have za0 := p4.fz 0
    have za1 := p4.fz 1
    simp only [List.getElem?_cons_zero, List.getElem?_cons_succ] at a0 a1
    obtain ⟨W5, hW5⟩ : ∃ W, W = (w4.setCell ⟨w2.heap.size, 0, none⟩ (.string T2)).setCell ⟨w2.heap.size, 1, none⟩ (.int .i64 e2) := ⟨_, rfl⟩
    have p5 : Blk W5 w2.heap.size 82 [.string T2, .int .i64 e2] := by rw [hW5]; exact (p4.set 0 _).set 1 _
    have m5 : Blk W5 (w.heap.size + 2) 47 [.string S0, .slice none 0 0, .int .u64 0, .string S0, .string S0] := by rw [hW5]; exact (m4.other _ _ (by simp; omega)).other _ _ (by simp; omega)
    have b0 := m5.cell 0
    have zb0 := m5.fz 0
    simp only [List.getElem?_cons_zero] at b0
    obtain ⟨W6, hW6⟩ : ∃ W, W = W5.setCell ⟨w.heap.size + 2, 0, none⟩ (.string TT) := ⟨_, rfl⟩
    have HM6 := hide (show Blk W6 (w.heap.size + 2) 47 [.string TT, .slice none 0 0, .int .u64 0, .string S0, .string S0] by rw [hW6]; exact m5.set 0 _)
    have HP6 := hide (show Blk W6 w2.heap.size 82 [.string (str l2), .int .i64 e2] by rw [hW6, ← unhide HT2]; exact p5.other _ _ (by simp; omega))
    have HO6 := hide (show Blk W6 w.heap.size 29 [.int .i64 3, .string SD] by rw [hW6, hW5]; exact ((o4.other _ _ (by simp; omega)).other _ _ (by simp; omega)).other _ _ (by simp))
    have HR6 := hide (show Blk W6 (w.heap.size + 1) 47 [.string S0, .slice none 0 0, .int .u64 0, .string S0, .string S0] by rw [hW6, hW5]; exact ((r4.other _ _ (by simp; omega)).other _ _ (by simp; omega)).other _ _ (by simp))
    have HG6 := hide (show w.grownBy W6 none by rw [hW6, hW5]; exact gb_setCell (gb_setCell (gb_setCell G4 _ _ (Or.inl (by simp; omega))) _ _ (Or.inl (by simp; omega))) _ _ (Or.inl (by simp)))
    have hs6 : w.heap.size ≤ W6.heap.size := (unhide HG6).size
    have HW5 := hide hW5
    have HW6 := hide hW6
    clear c2 q0 q1 gC p4 o4 r4 m4 G4 hW5 hW6 p5 m5 HW3 HP3 HGB g4
    go_wp2_with (first | (rw [← unhide HW6]) | (rw [← unhide HW5]))
    clear a0 a1 za0 za1 b0 zb0
    go_loopw [8] (fun i wr => ∃ (j : Nat) (qs : List (List UInt8)) (l' : List UInt8) (e' : Int) (v : Value), i = .int .u64 (j : Int) ∧ j ≤ n ∧ Hid (runQ (l2, e2) j = (qs, l', e')) ∧ Hid (∀ i, i < j → (runQ (l2, e2) i).2.2 = 0) ∧ Stg wr W6.heap.size v qs ∧ Hid (Blk wr w2.heap.size 82 [.string (str l'), .int .i64 e']) ∧ Hid (Blk wr (w.heap.size + 2) 47 [.string TT, v, .int .u64 0, .string S0, .string S0]) ∧ Hid (Blk wr w.heap.size 29 [.int .i64 3, .string SD]) ∧ Hid (Blk wr (w.heap.size + 1) 47 [.string S0, .slice none 0 0, .int .u64 0, .string S0, .string S0]) ∧ w.grownBy wr none ∧ W6.heap.size ≤ wr.heap.size) (fun i _ => n - (intOf i).toNat)
    case atStart => exact ⟨0, [], l2, e2, .slice none 0 0, rfl, Nat.zero_le _, rfl, (fun i hi => by omega), Stg.nil _ _, HP6, HM6, HO6, HR6, unhide HG6, Nat.le_refl _⟩
    case round =>
      obtain ⟨j, qs, l', e', v, rfl, hj, HE, HALL, ho, HPR, HMB, HOB, HRB, hg, hsz⟩ := hrel
      have hlf : l'.length ≤ 100000 := by have := runQ_left (l2, e2) j; rw [unhide HE] at this; exact Nat.le_trans this hl2a
      have hel : qs.length = j := by have := runQ_len (l2, e2) j; rw [unhide HE] at this; exact this
      have p0 := (unhide HPR).cell 0
      have p1 := (unhide HPR).cell 1
      simp only [List.getElem?_cons_zero, List.getElem?_cons_succ] at p0 p1
      by_cases hgo : j < n ∧ e' = 0
      · obtain ⟨hlt, he0⟩ := hgo
        subst he0
        obtain ⟨⟨y, l3, e3⟩, h3⟩ : ∃ a, rawS l' 0 32 = a := ⟨_, rfl⟩
        have hrd := runQ_round (unhide HE) h3
        have c3 : ∀ V, Calls Tryz.prog 32 #[.agg #[.string (str l'), .int .i64 0], .int .i64 32] V fun r w' => r = .returned (.tuple #[.agg #[.string (str l3), .int .i64 e3], .string (str y)]) ∧ V.grownBy w' none := fun V => by
          have := rraw_any V l' 0 32 (by omega)
          rw [h3] at this
          exact this
        obtain ⟨TL, hTL⟩ : ∃ T, T = str l' := ⟨_, rfl⟩
        obtain ⟨T3, hT3⟩ : ∃ T, T = str l3 := ⟨_, rfl⟩
        obtain ⟨TY, hTY⟩ : ∃ T, T = str y := ⟨_, rfl⟩
        rw [← hTL] at c3 p0
        rw [← hT3, ← hTY] at c3
        have hall2 : ∀ i, i < j + 1 → (runQ (l2, e2) i).2.2 = 0 := by
          intro i hi
          by_cases h : i < j
          · exact unhide HALL i h
          · have : i = j := by omega
            rw [this, unhide HE]
        have HRD := hide hrd
        have HAL := hide hall2
        have HT3 := hide hT3
        have HTY := hide hTY
        have hj9 : qs.length ≤ 1000000 := by omega
        clear hrd hall2 hTL hT3 hTY h3 HALL HE hel hlf
        go_wp2_with fail
        refine (c3 _).mono ?_
        rintro e w6 ⟨rfl, gA⟩
        obtain ⟨W7, hW7, b7, g7⟩ : ∃ W, W = w6.alloc (.cells #[.string T3, .int .i64 e3] 82) ∧ Blk W w6.heap.size 82 [.string T3, .int .i64 e3] ∧ w6.grownBy W none := box_new w6 _ _
        have gB := tn gA g7
        have p7 := (unhide HPR).kept gB (by simp)
        have o7 := (unhide HOB).kept gB (by simp)
        have m7 := (unhide HMB).kept gB (by simp)
        have r7 := (unhide HRB).kept gB (by simp)
        have s7 := ho.kept gB
        have G7 := tn hg gB
        have hs7 := Nat.le_trans hsz gB.size
        have a0 := p7.cell 0
        have a1 := p7.cell 1
        have za0 := p7.fz 0
        have za1 := p7.fz 1
        have b0 := b7.cell 0
        have b1 := b7.cell 1
        simp only [List.getElem?_cons_zero, List.getElem?_cons_succ] at a0 a1 b0 b1
        obtain ⟨W8, hW8⟩ : ∃ W, W = (W7.setCell ⟨w2.heap.size, 0, none⟩ (.string T3)).setCell ⟨w2.heap.size, 1, none⟩ (.int .i64 e3) := ⟨_, rfl⟩
        have p8 : Blk W8 w2.heap.size 82 [.string T3, .int .i64 e3] := by rw [hW8]; exact (p7.set 0 _).set 1 _
        have o8 : Blk W8 w.heap.size 29 [.int .i64 3, .string SD] := by rw [hW8]; exact (o7.other _ _ (by simp; omega)).other _ _ (by simp; omega)
        have r8 : Blk W8 (w.heap.size + 1) 47 [.string S0, .slice none 0 0, .int .u64 0, .string S0, .string S0] := by rw [hW8]; exact (r7.other _ _ (by simp; omega)).other _ _ (by simp; omega)
        have m8 : Blk W8 (w.heap.size + 2) 47 [.string TT, v, .int .u64 0, .string S0, .string S0] := by rw [hW8]; exact (m7.other _ _ (by simp; omega)).other _ _ (by simp; omega)
        have s8 : Stg W8 W6.heap.size v qs := by rw [hW8]; exact own_set_id (own_set_id s7 p7 (by decide) 0 _) (p7.set 0 _) (by decide) 1 _
        have G8 : w.grownBy W8 none := by rw [hW8]; exact gb_setCell (gb_setCell G7 _ _ (Or.inl (by simp; omega))) _ _ (Or.inl (by simp; omega))
        have hs8 : W6.heap.size ≤ W8.heap.size := by rw [hW8]; simpa [World.setCell] using hs7
        have d1 := m8.cell 1
        simp only [List.getElem?_cons_zero, List.getElem?_cons_succ] at d1
        have hbs := bs_str3 TY W8
        obtain ⟨W9, hW9, b9, g9⟩ : ∃ W, W = W8.alloc (.cells #[.string TY] 9) ∧ Blk W W8.heap.size 9 [.string TY] ∧ W8.grownBy W none := box_new W8 _ _
        have hcE : W9.cell? ⟨W8.heap.size, 0, none⟩ = some (stv y) := by rw [b9.cell 0, unhide HTY]; rfl
        have HS9 := hide (s8.kept g9)
        have HP9 := hide (p8.kept g9 (by simp))
        have HO9 := hide (o8.kept g9 (by simp))
        have HM9 := hide (m8.kept g9 (by simp))
        have HR9 := hide (r8.kept g9 (by simp))
        have HG9 := hide (tn G8 g9)
        have HZ9 := hide (Nat.le_trans hs8 g9.size)
        have HW7 := hide hW7
        have HW8 := hide hW8
        have HW9 := hide hW9
        have HCE := hide hcE
        have HBS := hide hbs
        clear c3 gA gB g7 g9 hW7 hW8 hW9 b7 b9 p7 o7 m7 r7 s7 G7 hs7 p8 o8 r8 m8 s8 G8 hs8 hbs hcE ho hg hsz HPR HOB HMB HRB p0 p1
        go_wp2_with (first
          | (refine wpList_build1 rfl 45 _ rfl (.string TY) _ rfl (unhide HBS) ?_; rw [← unhide HW9])
          | (refine wpList_append_str rfl _ _ rfl W6.heap.size _ _ y _ rfl (unhide HS9) rfl (unhide HCE) hj9 (unhide HZ9) ?_; intro va wa hoa ga; obtain ⟨qa, ka, ea, _⟩ := hoa.open; subst ea; have GA := gb_trans (unhide HG9) ga (fun x e => Or.inl (Nat.le_trans hs6 ((unhide HS9).lt x e).1)); have HPA := hide ((unhide HP9).kept ga (own_apartId (unhide HS9) (unhide HP9) (by decide))); have HOA := hide ((unhide HO9).kept ga (own_apartId (unhide HS9) (unhide HO9) (by decide))); have mA := (unhide HM9).kept ga (own_apartId (unhide HS9) (unhide HM9) (by decide)); have HRA := hide ((unhide HR9).kept ga (own_apartId (unhide HS9) (unhide HR9) (by decide))); have HZA := hide (Nat.le_trans (unhide HZ9) ga.size); have HOAA := hide hoa; have HGA := hide GA; have HMA := hide mA; have f1 := mA.cell 1; have zf1 := mA.fz 1; simp only [List.getElem?_cons_zero, List.getElem?_cons_succ] at f1; clear hoa ga GA mA)
          | (rw [← unhide HW8])
          | (rw [← unhide HW7]))
        go_roundw
        case rel =>
          have hOA2 := unhide HOAA
          rw [show (qs ++ [y]).length = qs.length + 1 by simp] at hOA2
          refine ⟨j + 1, qs ++ [y], l3, e3, .slice qa (qs.length + 1) ka, by go_num, by omega, HRD, HAL, own_set_id hOA2 (unhide HMA) (by decide) 1 _, ?_, ?_, ?_, ?_, gb_setCell (unhide HGA) _ _ (Or.inl (by simp; omega)), by simpa [World.setCell] using unhide HZA⟩
          · rw [← unhide HT3]
            exact hide ((unhide HPA).other _ _ (by simp; omega))
          · exact hide ((unhide HMA).set 1 (.slice qa (qs.length + 1) ka))
          · exact hide ((unhide HOA).other _ _ (by simp; omega))
          · exact hide ((unhide HRA).other _ _ (by simp))
        case measure => simp [intOf]; omega
      · have hstop : Stops (fun i => (runQ (l2, e2) i).2.2) n j := by
          refine ⟨hj, unhide HALL, ?_⟩
          by_cases h : j = n
          · exact Or.inl h
          · right
            show (runQ (l2, e2) j).2.2 ≠ 0
            rw [unhide HE]
            intro h2
            exact hgo ⟨by omega, h2⟩
        obtain ⟨hs1, hs2b⟩ := unhide HSA j hstop
        obtain ⟨⟨tm, l4, e4⟩, h4⟩ : ∃ a, numS l' e' 8 = a := ⟨_, rfl⟩
        obtain ⟨⟨nm, l5, e5⟩, h5⟩ : ∃ a, sizedS l4 e4 = a := ⟨_, rfl⟩
        obtain ⟨⟨tx, l6, e6⟩, h6⟩ : ∃ a, sizedS l5 e5 = a := ⟨_, rfl⟩
        rw [unhide HRC j qs l' e' tm l4 e4 nm l5 e5 tx l6 e6 (unhide HE) h4 h5 h6] at hs1 hs2b
        simp only at hs1 hs2b
        have htm := numS_lt8 l' e'
        have hn4 := numS_len l' e' 8
        rw [h4] at htm hn4
        have hn5 := sizedS_len l4 e4
        have hm5 := sizedS_le l4 e4
        rw [h5] at hn5 hm5
        have hn6 := sizedS_len l5 e5
        have hm6 := sizedS_le l5 e5
        rw [h6] at hn6 hm6
        simp only at htm hn4 hn5 hm5 hn6 hm6
        have hsmall := runQ_small (l2, e2) j
        rw [unhide HE] at hsmall
        obtain ⟨po, pc, hv, _⟩ := ho.open
        subst hv
        obtain ⟨m, hm⟩ : ∃ m, m = qs.length := ⟨_, rfl⟩
        obtain ⟨r, hr⟩ : ∃ r, r = ofChg ⟨t0, qs, tm, nm, tx⟩ := ⟨_, rfl⟩
        obtain ⟨Dn, hDn⟩ : ∃ D, D = doneS l6 e6 := ⟨_, rfl⟩
        rw [← hr, ← hDn] at hs1
        have c8 : ∀ V, Calls Tryz.prog 30 #[.agg #[.string (str l'), .int .i64 e'], .int .i64 8] V fun r w' => r = .returned (.tuple #[.agg #[.string (str l4), .int .i64 e4], .int .u64 (tm : Int)]) ∧ V.grownBy w' none := fun V => by
          have := rnum_any V l' e' 8 (by omega)
          rw [h4] at this
          exact this
        have c9 : ∀ V, Calls Tryz.prog 31 #[.agg #[.string (str l4), .int .i64 e4]] V fun r w' => r = .returned (.tuple #[.agg #[.string (str l5), .int .i64 e5], .string (str nm)]) ∧ V.grownBy w' none := fun V => by
          have := rsz_any V l4 e4 (by omega)
          rw [h5] at this
          exact this
        have c10 : ∀ V, Calls Tryz.prog 31 #[.agg #[.string (str l5), .int .i64 e5]] V fun r w' => r = .returned (.tuple #[.agg #[.string (str l6), .int .i64 e6], .string (str tx)]) ∧ V.grownBy w' none := fun V => by
          have := rsz_any V l5 e5 (by omega)
          rw [h6] at this
          exact this
        have c11 : ∀ V, Calls Tryz.prog 34 #[.agg #[.string (str l6), .int .i64 e6]] V fun r w' => r = .returned (.int .i64 Dn) ∧ V.grownBy w' none := fun V => by rw [hDn]; exact rdone_any V l6 e6 (by omega)
        have ht0 : t0.length ≤ 100000 := ht0l
        have c12 : ∀ V, Stg V W6.heap.size (.slice po m pc) qs → Calls Tryz.prog 38 #[.agg #[.string TT, .slice po m pc, .int .u64 (tm : Int), .string (str nm), .string (str tx)]] V fun e w' => RMade V w' 3 r e := fun V hS => by
          obtain ⟨a9, b9, e9, h9⟩ := hS.open
          injection e9 with e9a e9b e9c
          subst e9a e9c
          have := rofChg_any V ⟨t0, qs, tm, nm, tx⟩ po pc _ h9 ht0 (fun x hx => Nat.le_trans (hsmall x hx) (by omega)) (by simp only; omega) htm (by simp only; omega) (by simp only; omega)
          rw [← hr] at this
          rw [unhide HTT, hm]
          exact this
        have hbad : ¬ (Dn = 0 ∧ r = (0, d)) → RT = (11, ⟨[], [], 0, [], []⟩) := fun h => by rw [unhide HRT, if_neg (fun h2 => h (hs1.2 h2))]
        have hgood : Dn = 0 ∧ r = (0, d) → RT = (0, ⟨t0, qs, tm, nm, tx⟩) := fun h => by
          have h2 := hs1.1 h
          rw [unhide HRT, if_pos h2, hs2b h2]
        obtain ⟨TL, hTL⟩ : ∃ T, T = str l' := ⟨_, rfl⟩
        obtain ⟨T4, hT4⟩ : ∃ T, T = str l4 := ⟨_, rfl⟩
        obtain ⟨T5, hT5⟩ : ∃ T, T = str l5 := ⟨_, rfl⟩
        obtain ⟨T6, hT6⟩ : ∃ T, T = str l6 := ⟨_, rfl⟩
        obtain ⟨TN, hTN⟩ : ∃ T, T = str nm := ⟨_, rfl⟩
        obtain ⟨TX, hTX⟩ : ∃ T, T = str tx := ⟨_, rfl⟩
        rw [← hTL] at c8 p0
        rw [← hT4] at c8 c9
        rw [← hT5] at c9 c10
        rw [← hT6] at c10 c11
        rw [← hTN] at c9 c12
        rw [← hTX] at c10 c12
        have hrcc : rcC ⟨t0, qs, tm, nm, tx⟩ po pc = [.string TT, .slice po m pc, .int .u64 (tm : Int), .string TN, .string TX] := by rw [unhide HTT, hTN, hTX, hm]; rfl
        have HRCC := hide hrcc
        have HPw : Hid (Blk wr w2.heap.size 82 [.string TL, .int .i64 e']) := by rw [hTL]; exact HPR
        have HMw : Hid (Blk wr (w.heap.size + 2) 47 [.string TT, .slice po m pc, .int .u64 0, .string S0, .string S0]) := by rw [hm]; exact HMB
        have HSw : Hid (Stg wr W6.heap.size (.slice po m pc) qs) := by rw [hm]; exact ho
        have HOw := HOB
        have HRw := HRB
        have HGw := hide hg
        have HM := hide hm
        have HBAD := hide hbad
        have HGOOD := hide hgood
        have HC12 := hide c12
        have hcond : ¬ j < n ∨ (j < n ∧ e' ≠ 0) := by
          by_cases h : j < n
          · exact Or.inr ⟨h, fun h2 => hgo ⟨h, h2⟩⟩
          · exact Or.inl h
        clear hgo hstop hs1 hs2b hsmall hr hDn hbad hgood hTL hT4 hT5 hT6 hTN hTX hm hrcc ho hg HALL HE hel hlf h4 h5 h6 htm hn4 hn5 hm5 hn6 hm6 c12 HPR HMB HOB HRB ht0
        rcases hcond with hA | ⟨hA, hB⟩
        · skip
          go_wp2_with fail
          refine (c8 _).mono ?_
          rintro e w13 ⟨rfl, g13⟩
          clear c8 p0 p1
          have o13 := (unhide HOw).kept g13 (by simp)
          have r13 := (unhide HRw).kept g13 (by simp)
          have m13 := (unhide HMw).kept g13 (by simp)
          have p13 := (unhide HPw).kept g13 (by simp)
          have s13 := (unhide HSw).kept g13
          have G13 := tn (unhide HGw) g13
          have a0 := p13.cell 0
          have a1 := p13.cell 1
          have za0 := p13.fz 0
          have za1 := p13.fz 1
          simp only [List.getElem?_cons_zero, List.getElem?_cons_succ] at a0 a1
          obtain ⟨W14, hW14⟩ : ∃ W, W = (w13.setCell ⟨w2.heap.size, 0, none⟩ (.string T4)).setCell ⟨w2.heap.size, 1, none⟩ (.int .i64 e4) := ⟨_, rfl⟩
          have p14 : Blk W14 w2.heap.size 82 [.string T4, .int .i64 e4] := by rw [hW14]; exact (p13.set 0 _).set 1 _
          have m14 : Blk W14 (w.heap.size + 2) 47 [.string TT, .slice po m pc, .int .u64 0, .string S0, .string S0] := by rw [hW14]; exact (m13.other _ _ (by simp; omega)).other _ _ (by simp; omega)
          have s14 : Stg W14 W6.heap.size (.slice po m pc) qs := by rw [hW14]; exact own_set_id (own_set_id s13 p13 (by decide) 0 _) (p13.set 0 _) (by decide) 1 _
          have b1 := m14.cell 2
          have zb1 := m14.fz 2
          simp only [List.getElem?_cons_zero, List.getElem?_cons_succ] at b1
          obtain ⟨W15, hW15⟩ : ∃ W, W = W14.setCell ⟨w.heap.size + 2, 2, none⟩ (.int .u64 (tm : Int)) := ⟨_, rfl⟩
          have HM15 := hide (show Blk W15 (w.heap.size + 2) 47 [.string TT, .slice po m pc, .int .u64 (tm : Int), .string S0, .string S0] by rw [hW15]; exact m14.set 2 _)
          have p15 : Blk W15 w2.heap.size 82 [.string T4, .int .i64 e4] := by rw [hW15]; exact p14.other _ _ (by simp; omega)
          have HO15 := hide (show Blk W15 w.heap.size 29 [.int .i64 3, .string SD] by rw [hW15, hW14]; exact ((o13.other _ _ (by simp; omega)).other _ _ (by simp; omega)).other _ _ (by simp))
          have HR15 := hide (show Blk W15 (w.heap.size + 1) 47 [.string S0, .slice none 0 0, .int .u64 0, .string S0, .string S0] by rw [hW15, hW14]; exact ((r13.other _ _ (by simp; omega)).other _ _ (by simp; omega)).other _ _ (by simp))
          have HS15 := hide (show Stg W15 W6.heap.size (.slice po m pc) qs by rw [hW15]; exact own_set_id s14 m14 (by decide) 2 _)
          have HG15 := hide (show w.grownBy W15 none by rw [hW15, hW14]; exact gb_setCell (gb_setCell (gb_setCell G13 _ _ (Or.inl (by simp; omega))) _ _ (Or.inl (by simp; omega))) _ _ (Or.inl (by simp)))
          have q0 := p15.cell 0
          have q1 := p15.cell 1
          simp only [List.getElem?_cons_zero, List.getElem?_cons_succ] at q0 q1
          have HP15 := hide p15
          have HW14 := hide hW14
          have HW15 := hide hW15
          clear hW14 hW15 p15 o13 r13 m13 p13 s13 G13 p14 m14 s14 g13
          go_wp2_with (first | (rw [← unhide HW15]) | (rw [← unhide HW14]))
          refine (c9 _).mono ?_
          rintro e w16 ⟨rfl, g16⟩
          clear c9 q0 q1 a0 a1 za0 za1 b1 zb1 HW14 HW15
          have o16 := (unhide HO15).kept g16 (by simp)
          have r16 := (unhide HR15).kept g16 (by simp)
          have m16 := (unhide HM15).kept g16 (by simp)
          have p16 := (unhide HP15).kept g16 (by simp)
          have s16 := (unhide HS15).kept g16
          have G16 := tn (unhide HG15) g16
          have a0 := p16.cell 0
          have a1 := p16.cell 1
          have za0 := p16.fz 0
          have za1 := p16.fz 1
          simp only [List.getElem?_cons_zero, List.getElem?_cons_succ] at a0 a1
          obtain ⟨W17, hW17⟩ : ∃ W, W = (w16.setCell ⟨w2.heap.size, 0, none⟩ (.string T5)).setCell ⟨w2.heap.size, 1, none⟩ (.int .i64 e5) := ⟨_, rfl⟩
          have p17 : Blk W17 w2.heap.size 82 [.string T5, .int .i64 e5] := by rw [hW17]; exact (p16.set 0 _).set 1 _
          have m17 : Blk W17 (w.heap.size + 2) 47 [.string TT, .slice po m pc, .int .u64 (tm : Int), .string S0, .string S0] := by rw [hW17]; exact (m16.other _ _ (by simp; omega)).other _ _ (by simp; omega)
          have s17 : Stg W17 W6.heap.size (.slice po m pc) qs := by rw [hW17]; exact own_set_id (own_set_id s16 p16 (by decide) 0 _) (p16.set 0 _) (by decide) 1 _
          have b1 := m17.cell 3
          have zb1 := m17.fz 3
          simp only [List.getElem?_cons_zero, List.getElem?_cons_succ] at b1
          obtain ⟨W18, hW18⟩ : ∃ W, W = W17.setCell ⟨w.heap.size + 2, 3, none⟩ (.string TN) := ⟨_, rfl⟩
          have HM18 := hide (show Blk W18 (w.heap.size + 2) 47 [.string TT, .slice po m pc, .int .u64 (tm : Int), .string TN, .string S0] by rw [hW18]; exact m17.set 3 _)
          have p18 : Blk W18 w2.heap.size 82 [.string T5, .int .i64 e5] := by rw [hW18]; exact p17.other _ _ (by simp; omega)
          have HO18 := hide (show Blk W18 w.heap.size 29 [.int .i64 3, .string SD] by rw [hW18, hW17]; exact ((o16.other _ _ (by simp; omega)).other _ _ (by simp; omega)).other _ _ (by simp))
          have HR18 := hide (show Blk W18 (w.heap.size + 1) 47 [.string S0, .slice none 0 0, .int .u64 0, .string S0, .string S0] by rw [hW18, hW17]; exact ((r16.other _ _ (by simp; omega)).other _ _ (by simp; omega)).other _ _ (by simp))
          have HS18 := hide (show Stg W18 W6.heap.size (.slice po m pc) qs by rw [hW18]; exact own_set_id s17 m17 (by decide) 3 _)
          have HG18 := hide (show w.grownBy W18 none by rw [hW18, hW17]; exact gb_setCell (gb_setCell (gb_setCell G16 _ _ (Or.inl (by simp; omega))) _ _ (Or.inl (by simp; omega))) _ _ (Or.inl (by simp)))
          have q0 := p18.cell 0
          have q1 := p18.cell 1
          simp only [List.getElem?_cons_zero, List.getElem?_cons_succ] at q0 q1
          have HP18 := hide p18
          have HW17 := hide hW17
          have HW18 := hide hW18
          clear hW17 hW18 p18 o16 r16 m16 p16 s16 G16 p17 m17 s17 g16
          go_wp2_with (first | (rw [← unhide HW18]) | (rw [← unhide HW17]))
          refine (c10 _).mono ?_
          rintro e w19 ⟨rfl, g19⟩
          clear c10 q0 q1 a0 a1 za0 za1 b1 zb1 HW17 HW18
          have o19 := (unhide HO18).kept g19 (by simp)
          have r19 := (unhide HR18).kept g19 (by simp)
          have m19 := (unhide HM18).kept g19 (by simp)
          have p19 := (unhide HP18).kept g19 (by simp)
          have s19 := (unhide HS18).kept g19
          have G19 := tn (unhide HG18) g19
          have a0 := p19.cell 0
          have a1 := p19.cell 1
          have za0 := p19.fz 0
          have za1 := p19.fz 1
          simp only [List.getElem?_cons_zero, List.getElem?_cons_succ] at a0 a1
          obtain ⟨W20, hW20⟩ : ∃ W, W = (w19.setCell ⟨w2.heap.size, 0, none⟩ (.string T6)).setCell ⟨w2.heap.size, 1, none⟩ (.int .i64 e6) := ⟨_, rfl⟩
          have p20 : Blk W20 w2.heap.size 82 [.string T6, .int .i64 e6] := by rw [hW20]; exact (p19.set 0 _).set 1 _
          have m20 : Blk W20 (w.heap.size + 2) 47 [.string TT, .slice po m pc, .int .u64 (tm : Int), .string TN, .string S0] := by rw [hW20]; exact (m19.other _ _ (by simp; omega)).other _ _ (by simp; omega)
          have s20 : Stg W20 W6.heap.size (.slice po m pc) qs := by rw [hW20]; exact own_set_id (own_set_id s19 p19 (by decide) 0 _) (p19.set 0 _) (by decide) 1 _
          have b1 := m20.cell 4
          have zb1 := m20.fz 4
          simp only [List.getElem?_cons_zero, List.getElem?_cons_succ] at b1
          obtain ⟨W21, hW21⟩ : ∃ W, W = W20.setCell ⟨w.heap.size + 2, 4, none⟩ (.string TX) := ⟨_, rfl⟩
          have HM21 := hide (show Blk W21 (w.heap.size + 2) 47 [.string TT, .slice po m pc, .int .u64 (tm : Int), .string TN, .string TX] by rw [hW21]; exact m20.set 4 _)
          have p21 : Blk W21 w2.heap.size 82 [.string T6, .int .i64 e6] := by rw [hW21]; exact p20.other _ _ (by simp; omega)
          have HO21 := hide (show Blk W21 w.heap.size 29 [.int .i64 3, .string SD] by rw [hW21, hW20]; exact ((o19.other _ _ (by simp; omega)).other _ _ (by simp; omega)).other _ _ (by simp))
          have HR21 := hide (show Blk W21 (w.heap.size + 1) 47 [.string S0, .slice none 0 0, .int .u64 0, .string S0, .string S0] by rw [hW21, hW20]; exact ((r19.other _ _ (by simp; omega)).other _ _ (by simp; omega)).other _ _ (by simp))
          have HS21 := hide (show Stg W21 W6.heap.size (.slice po m pc) qs by rw [hW21]; exact own_set_id s20 m20 (by decide) 4 _)
          have HG21 := hide (show w.grownBy W21 none by rw [hW21, hW20]; exact gb_setCell (gb_setCell (gb_setCell G19 _ _ (Or.inl (by simp; omega))) _ _ (Or.inl (by simp; omega))) _ _ (Or.inl (by simp)))
          have q0 := p21.cell 0
          have q1 := p21.cell 1
          simp only [List.getElem?_cons_zero, List.getElem?_cons_succ] at q0 q1
          have HP21 := hide p21
          have HW20 := hide hW20
          have HW21 := hide hW21
          clear hW20 hW21 p21 o19 r19 m19 p19 s19 G19 p20 m20 s20 g19
          go_wp2_with (first | (rw [← unhide HW21]) | (rw [← unhide HW20]))
          refine (c11 _).mono ?_
          rintro e w22 ⟨rfl, g22⟩
          clear c11 q0 q1 a0 a1 za0 za1 b1 zb1 HW20 HW21
          have o22 := (unhide HO21).kept g22 (by simp)
          have r22 := (unhide HR21).kept g22 (by simp)
          have m22 := (unhide HM21).kept g22 (by simp)
          have s22 := (unhide HS21).kept g22
          have G22 := tn (unhide HG21) g22
          have hfive : ∀ V : World, Blk V (w.heap.size + 1) 47 [.string S0, .slice none 0 0, .int .u64 0, .string S0, .string S0] → w.grownBy V none → ∀ a b c d e : Value, w.grownBy (((((V.setCell ⟨w.heap.size + 1, 0, none⟩ a).setCell ⟨w.heap.size + 1, 1, none⟩ b).setCell ⟨w.heap.size + 1, 2, none⟩ c).setCell ⟨w.heap.size + 1, 3, none⟩ d).setCell ⟨w.heap.size + 1, 4, none⟩ e) none ∧ Blk (((((V.setCell ⟨w.heap.size + 1, 0, none⟩ a).setCell ⟨w.heap.size + 1, 1, none⟩ b).setCell ⟨w.heap.size + 1, 2, none⟩ c).setCell ⟨w.heap.size + 1, 3, none⟩ d).setCell ⟨w.heap.size + 1, 4, none⟩ e) (w.heap.size + 1) 47 [a, b, c, d, e] := fun V hB gV a b c d e => ⟨gb_setCell (gb_setCell (gb_setCell (gb_setCell (gb_setCell gV _ _ (Or.inl (Nat.le_succ _))) _ _ (Or.inl (Nat.le_succ _))) _ _ (Or.inl (Nat.le_succ _))) _ _ (Or.inl (Nat.le_succ _))) _ _ (Or.inl (Nat.le_succ _)), ((((hB.set 0 a).set 1 b).set 2 c).set 3 d).set 4 e⟩
          by_cases hD0 : Dn = 0
          · subst hD0
            have n0 := m22.cell 0
            have n1 := m22.cell 1
            have n2 := m22.cell 2
            have n3 := m22.cell 3
            have n4 := m22.cell 4
            simp only [List.getElem?_cons_zero, List.getElem?_cons_succ] at n0 n1 n2 n3 n4
            have c12 := unhide HC12 w22 s22
            have HO22 := hide o22
            have HR22 := hide r22
            have HM22 := hide m22
            have HS22 := hide s22
            have HG22 := hide G22
            have HFV := hide hfive
            clear o22 r22 m22 s22 G22 hfive g22
            go_wp2_with fail
            refine c12.mono ?_
            rintro e w23 ⟨rfl, g23⟩
            obtain ⟨K, hK⟩ : ∃ K : Int, K = (if r.1 = 0 then 3 else 0) := ⟨_, rfl⟩
            obtain ⟨x, hx⟩ : ∃ x : Int, x = r.1 := ⟨_, rfl⟩
            obtain ⟨SS, hSS⟩ : ∃ S, S = str r.2 := ⟨_, rfl⟩
            rw [← hK, ← hx, ← hSS]
            have HK := hide hK
            have HX := hide hx
            have HSS := hide hSS
            clear hK hx hSS c12 n0 n1 n2 n3 n4
            obtain ⟨W24, hW24, j24, g24⟩ : ∃ W, W = w23.alloc (.cells #[.int .i64 K, .string SS] 29) ∧ Blk W w23.heap.size 29 [.int .i64 K, .string SS] ∧ w23.grownBy W none := box_new w23 _ _
            have gf := tn g23 g24
            have o24 := (unhide HO22).kept gf (by simp)
            have r24 := (unhide HR22).kept gf (by simp)
            have m24 := (unhide HM22).kept gf (by simp)
            have s24 := (unhide HS22).kept gf
            have G24 := tn (unhide HG22) gf
            have o0 := o24.cell 0
            have o1 := o24.cell 1
            have j0 := j24.cell 0
            have j1 := j24.cell 1
            have t0c := r24.cell 0
            have t1c := r24.cell 1
            have t2c := r24.cell 2
            have t3c := r24.cell 3
            have t4c := r24.cell 4
            have y0 := r24.fz 0
            have y1 := r24.fz 1
            have y2 := r24.fz 2
            have y3 := r24.fz 3
            have y4 := r24.fz 4
            have n0 := m24.cell 0
            have n1 := m24.cell 1
            have n2 := m24.cell 2
            have n3 := m24.cell 3
            have n4 := m24.cell 4
            simp only [List.getElem?_cons_zero, List.getElem?_cons_succ] at o0 o1 j0 j1 t0c t1c t2c t3c t4c n0 n1 n2 n3 n4
            have hneq : (binOp .neq 29 (.agg #[.int .i64 K, .string SS]) (.agg #[.int .i64 3, .string SD])).run Tryz.prog W24 = .ok (.bool (!(K == 3 && r.2 == d))) W24 := by
              have := neq_robj W24 K 3 r.2 d
              rwa [← unhide HSS, ← unhide HSD] at this
            have HFR := hide (unhide HFV W24 r24 G24)
            have HR24 := hide r24
            have HS24 := hide (own_low s24 hs6)
            have HW24 := hide hW24
            clear o24 r24 m24 s24 G24 gf j24 g23 g24 hW24
            by_cases hx0 : x = 0
            · have hK4 : K = 3 := by rw [unhide HK, if_pos (by rw [← unhide HX]; exact hx0)]
              subst hK4
              have hr0 : r.1 = 0 := by rw [← unhide HX]; exact hx0
              by_cases hrd : r.2 = d
              · have hres := unhide HGOOD ⟨by simp, by rw [← hrd, ← hr0]⟩
                have HRS := hide hres
                rw [show (!((3 : Int) == 3 && r.2 == d)) = false by simp [hrd]] at hneq
                clear hres hrd hr0 HBAD HGOOD
                subst hx0
                go_wp2_with (first | (refine wpList_neq (by rfl) _ _ _ _ rfl _ _ _ rfl rfl guard_robj hneq ?_) | (rw [← unhide HW24]))
                refine bodyPost_ret (results_row_tmp rfl _ _ _ _ _ _ _ rfl (unhide HFR _ _ _ _ _).2 Tryz.underlying47 rfl info_rchg3) rfl ?_
                refine ⟨po, pc, 0, ?_, by rw [unhide HRS], ?_, (unhide HFR _ _ _ _ _).1⟩
                · rw [unhide HRS]
                  simp only
                  rw [unhide HRCC]
                  rfl
                · rw [unhide HRS]
                  simp only
                  rw [← unhide HM]
                  exact own_set_id (own_set_id (own_set_id (own_set_id (own_set_id (unhide HS24) (unhide HR24) (by decide) 0 _) ((unhide HR24).set 0 _) (by decide) 1 _) (((unhide HR24).set 0 _).set 1 _) (by decide) 2 _) ((((unhide HR24).set 0 _).set 1 _).set 2 _) (by decide) 3 _) (((((unhide HR24).set 0 _).set 1 _).set 2 _).set 3 _) (by decide) 4 _
              · have hres := unhide HBAD (fun h => hrd (by rw [h.2]))
                have HRS := hide hres
                rw [show (!((3 : Int) == 3 && r.2 == d)) = true by simp [hrd]] at hneq
                clear hres hrd hr0 HBAD HGOOD
                subst hx0
                go_wp2_with (first | (refine wpList_neq (by rfl) _ _ _ _ rfl _ _ _ rfl rfl guard_robj hneq ?_) | (rw [← unhide HW24]))
                refine bodyPost_ret (results_row_tmp rfl _ _ _ _ _ _ _ rfl (unhide HFR _ _ _ _ _).2 Tryz.underlying47 rfl info_rchg3) rfl ?_
                exact ⟨none, 0, 11, by rw [unhide HRS]; rfl, by rw [unhide HRS], by rw [unhide HRS]; exact Stg.nil _ _, (unhide HFR _ _ _ _ _).1⟩
            · have hx1 : (x == 0) = false := by simpa using hx0
              have hres := unhide HBAD (fun h => hx0 (by rw [unhide HX, h.2]))
              have HRS := hide hres
              clear hres HBAD HGOOD hneq
              go_wp2_with (rw [← unhide HW24])
              refine bodyPost_ret (results_row_tmp rfl _ _ _ _ _ _ _ rfl (unhide HFR _ _ _ _ _).2 Tryz.underlying47 rfl info_rchg3) rfl ?_
              exact ⟨none, 0, 11, by rw [unhide HRS]; rfl, by rw [unhide HRS], by rw [unhide HRS]; exact Stg.nil _ _, (unhide HFR _ _ _ _ _).1⟩
          · have hD1 : (Dn == 0) = false := by simpa using hD0
            have hres := unhide HBAD (fun h => hD0 h.1)
            have HRS := hide hres
            have t0c := r22.cell 0
            have t1c := r22.cell 1
            have t2c := r22.cell 2
            have t3c := r22.cell 3
            have t4c := r22.cell 4
            have y0 := r22.fz 0
            have y1 := r22.fz 1
            have y2 := r22.fz 2
            have y3 := r22.fz 3
            have y4 := r22.fz 4
            simp only [List.getElem?_cons_zero, List.getElem?_cons_succ] at t0c t1c t2c t3c t4c
            have HFR := hide (hfive w22 r22 G22)
            clear hres HBAD HGOOD o22 r22 m22 s22 G22 hfive g22
            go_wp2
            refine bodyPost_ret (results_row_tmp rfl _ _ _ _ _ _ _ rfl (unhide HFR _ _ _ _ _).2 Tryz.underlying47 rfl info_rchg3) rfl ?_
            exact ⟨none, 0, 11, by rw [unhide HRS]; rfl, by rw [unhide HRS], by rw [unhide HRS]; exact Stg.nil _ _, (unhide HFR _ _ _ _ _).1⟩
        · have hB2 : (e' == 0) = false := by simpa using hB
          go_wp2_with fail
          refine (c8 _).mono ?_
          rintro e w13 ⟨rfl, g13⟩
          clear c8 p0 p1
          have o13 := (unhide HOw).kept g13 (by simp)
          have r13 := (unhide HRw).kept g13 (by simp)
          have m13 := (unhide HMw).kept g13 (by simp)
          have p13 := (unhide HPw).kept g13 (by simp)
          have s13 := (unhide HSw).kept g13
          have G13 := tn (unhide HGw) g13
          have a0 := p13.cell 0
          have a1 := p13.cell 1
          have za0 := p13.fz 0
          have za1 := p13.fz 1
          simp only [List.getElem?_cons_zero, List.getElem?_cons_succ] at a0 a1
          obtain ⟨W14, hW14⟩ : ∃ W, W = (w13.setCell ⟨w2.heap.size, 0, none⟩ (.string T4)).setCell ⟨w2.heap.size, 1, none⟩ (.int .i64 e4) := ⟨_, rfl⟩
          have p14 : Blk W14 w2.heap.size 82 [.string T4, .int .i64 e4] := by rw [hW14]; exact (p13.set 0 _).set 1 _
          have m14 : Blk W14 (w.heap.size + 2) 47 [.string TT, .slice po m pc, .int .u64 0, .string S0, .string S0] := by rw [hW14]; exact (m13.other _ _ (by simp; omega)).other _ _ (by simp; omega)
          have s14 : Stg W14 W6.heap.size (.slice po m pc) qs := by rw [hW14]; exact own_set_id (own_set_id s13 p13 (by decide) 0 _) (p13.set 0 _) (by decide) 1 _
          have b1 := m14.cell 2
          have zb1 := m14.fz 2
          simp only [List.getElem?_cons_zero, List.getElem?_cons_succ] at b1
          obtain ⟨W15, hW15⟩ : ∃ W, W = W14.setCell ⟨w.heap.size + 2, 2, none⟩ (.int .u64 (tm : Int)) := ⟨_, rfl⟩
          have HM15 := hide (show Blk W15 (w.heap.size + 2) 47 [.string TT, .slice po m pc, .int .u64 (tm : Int), .string S0, .string S0] by rw [hW15]; exact m14.set 2 _)
          have p15 : Blk W15 w2.heap.size 82 [.string T4, .int .i64 e4] := by rw [hW15]; exact p14.other _ _ (by simp; omega)
          have HO15 := hide (show Blk W15 w.heap.size 29 [.int .i64 3, .string SD] by rw [hW15, hW14]; exact ((o13.other _ _ (by simp; omega)).other _ _ (by simp; omega)).other _ _ (by simp))
          have HR15 := hide (show Blk W15 (w.heap.size + 1) 47 [.string S0, .slice none 0 0, .int .u64 0, .string S0, .string S0] by rw [hW15, hW14]; exact ((r13.other _ _ (by simp; omega)).other _ _ (by simp; omega)).other _ _ (by simp))
          have HS15 := hide (show Stg W15 W6.heap.size (.slice po m pc) qs by rw [hW15]; exact own_set_id s14 m14 (by decide) 2 _)
          have HG15 := hide (show w.grownBy W15 none by rw [hW15, hW14]; exact gb_setCell (gb_setCell (gb_setCell G13 _ _ (Or.inl (by simp; omega))) _ _ (Or.inl (by simp; omega))) _ _ (Or.inl (by simp)))
          have q0 := p15.cell 0
          have q1 := p15.cell 1
          simp only [List.getElem?_cons_zero, List.getElem?_cons_succ] at q0 q1
          have HP15 := hide p15
          have HW14 := hide hW14
          have HW15 := hide hW15
          clear hW14 hW15 p15 o13 r13 m13 p13 s13 G13 p14 m14 s14 g13
          go_wp2_with (first | (rw [← unhide HW15]) | (rw [← unhide HW14]))
          refine (c9 _).mono ?_
          rintro e w16 ⟨rfl, g16⟩
          clear c9 q0 q1 a0 a1 za0 za1 b1 zb1 HW14 HW15
          have o16 := (unhide HO15).kept g16 (by simp)
          have r16 := (unhide HR15).kept g16 (by simp)
          have m16 := (unhide HM15).kept g16 (by simp)
          have p16 := (unhide HP15).kept g16 (by simp)
          have s16 := (unhide HS15).kept g16
          have G16 := tn (unhide HG15) g16
          have a0 := p16.cell 0
          have a1 := p16.cell 1
          have za0 := p16.fz 0
          have za1 := p16.fz 1
          simp only [List.getElem?_cons_zero, List.getElem?_cons_succ] at a0 a1
          obtain ⟨W17, hW17⟩ : ∃ W, W = (w16.setCell ⟨w2.heap.size, 0, none⟩ (.string T5)).setCell ⟨w2.heap.size, 1, none⟩ (.int .i64 e5) := ⟨_, rfl⟩
          have p17 : Blk W17 w2.heap.size 82 [.string T5, .int .i64 e5] := by rw [hW17]; exact (p16.set 0 _).set 1 _
          have m17 : Blk W17 (w.heap.size + 2) 47 [.string TT, .slice po m pc, .int .u64 (tm : Int), .string S0, .string S0] := by rw [hW17]; exact (m16.other _ _ (by simp; omega)).other _ _ (by simp; omega)
          have s17 : Stg W17 W6.heap.size (.slice po m pc) qs := by rw [hW17]; exact own_set_id (own_set_id s16 p16 (by decide) 0 _) (p16.set 0 _) (by decide) 1 _
          have b1 := m17.cell 3
          have zb1 := m17.fz 3
          simp only [List.getElem?_cons_zero, List.getElem?_cons_succ] at b1
          obtain ⟨W18, hW18⟩ : ∃ W, W = W17.setCell ⟨w.heap.size + 2, 3, none⟩ (.string TN) := ⟨_, rfl⟩
          have HM18 := hide (show Blk W18 (w.heap.size + 2) 47 [.string TT, .slice po m pc, .int .u64 (tm : Int), .string TN, .string S0] by rw [hW18]; exact m17.set 3 _)
          have p18 : Blk W18 w2.heap.size 82 [.string T5, .int .i64 e5] := by rw [hW18]; exact p17.other _ _ (by simp; omega)
          have HO18 := hide (show Blk W18 w.heap.size 29 [.int .i64 3, .string SD] by rw [hW18, hW17]; exact ((o16.other _ _ (by simp; omega)).other _ _ (by simp; omega)).other _ _ (by simp))
          have HR18 := hide (show Blk W18 (w.heap.size + 1) 47 [.string S0, .slice none 0 0, .int .u64 0, .string S0, .string S0] by rw [hW18, hW17]; exact ((r16.other _ _ (by simp; omega)).other _ _ (by simp; omega)).other _ _ (by simp))
          have HS18 := hide (show Stg W18 W6.heap.size (.slice po m pc) qs by rw [hW18]; exact own_set_id s17 m17 (by decide) 3 _)
          have HG18 := hide (show w.grownBy W18 none by rw [hW18, hW17]; exact gb_setCell (gb_setCell (gb_setCell G16 _ _ (Or.inl (by simp; omega))) _ _ (Or.inl (by simp; omega))) _ _ (Or.inl (by simp)))
          have q0 := p18.cell 0
          have q1 := p18.cell 1
          simp only [List.getElem?_cons_zero, List.getElem?_cons_succ] at q0 q1
          have HP18 := hide p18
          have HW17 := hide hW17
          have HW18 := hide hW18
          clear hW17 hW18 p18 o16 r16 m16 p16 s16 G16 p17 m17 s17 g16
          go_wp2_with (first | (rw [← unhide HW18]) | (rw [← unhide HW17]))
          refine (c10 _).mono ?_
          rintro e w19 ⟨rfl, g19⟩
          clear c10 q0 q1 a0 a1 za0 za1 b1 zb1 HW17 HW18
          have o19 := (unhide HO18).kept g19 (by simp)
          have r19 := (unhide HR18).kept g19 (by simp)
          have m19 := (unhide HM18).kept g19 (by simp)
          have p19 := (unhide HP18).kept g19 (by simp)
          have s19 := (unhide HS18).kept g19
          have G19 := tn (unhide HG18) g19
          have a0 := p19.cell 0
          have a1 := p19.cell 1
          have za0 := p19.fz 0
          have za1 := p19.fz 1
          simp only [List.getElem?_cons_zero, List.getElem?_cons_succ] at a0 a1
          obtain ⟨W20, hW20⟩ : ∃ W, W = (w19.setCell ⟨w2.heap.size, 0, none⟩ (.string T6)).setCell ⟨w2.heap.size, 1, none⟩ (.int .i64 e6) := ⟨_, rfl⟩
          have p20 : Blk W20 w2.heap.size 82 [.string T6, .int .i64 e6] := by rw [hW20]; exact (p19.set 0 _).set 1 _
          have m20 : Blk W20 (w.heap.size + 2) 47 [.string TT, .slice po m pc, .int .u64 (tm : Int), .string TN, .string S0] := by rw [hW20]; exact (m19.other _ _ (by simp; omega)).other _ _ (by simp; omega)
          have s20 : Stg W20 W6.heap.size (.slice po m pc) qs := by rw [hW20]; exact own_set_id (own_set_id s19 p19 (by decide) 0 _) (p19.set 0 _) (by decide) 1 _
          have b1 := m20.cell 4
          have zb1 := m20.fz 4
          simp only [List.getElem?_cons_zero, List.getElem?_cons_succ] at b1
          obtain ⟨W21, hW21⟩ : ∃ W, W = W20.setCell ⟨w.heap.size + 2, 4, none⟩ (.string TX) := ⟨_, rfl⟩
          have HM21 := hide (show Blk W21 (w.heap.size + 2) 47 [.string TT, .slice po m pc, .int .u64 (tm : Int), .string TN, .string TX] by rw [hW21]; exact m20.set 4 _)
          have p21 : Blk W21 w2.heap.size 82 [.string T6, .int .i64 e6] := by rw [hW21]; exact p20.other _ _ (by simp; omega)
          have HO21 := hide (show Blk W21 w.heap.size 29 [.int .i64 3, .string SD] by rw [hW21, hW20]; exact ((o19.other _ _ (by simp; omega)).other _ _ (by simp; omega)).other _ _ (by simp))
          have HR21 := hide (show Blk W21 (w.heap.size + 1) 47 [.string S0, .slice none 0 0, .int .u64 0, .string S0, .string S0] by rw [hW21, hW20]; exact ((r19.other _ _ (by simp; omega)).other _ _ (by simp; omega)).other _ _ (by simp))
          have HS21 := hide (show Stg W21 W6.heap.size (.slice po m pc) qs by rw [hW21]; exact own_set_id s20 m20 (by decide) 4 _)
          have HG21 := hide (show w.grownBy W21 none by rw [hW21, hW20]; exact gb_setCell (gb_setCell (gb_setCell G19 _ _ (Or.inl (by simp; omega))) _ _ (Or.inl (by simp; omega))) _ _ (Or.inl (by simp)))
          have q0 := p21.cell 0
          have q1 := p21.cell 1
          simp only [List.getElem?_cons_zero, List.getElem?_cons_succ] at q0 q1
          have HP21 := hide p21
          have HW20 := hide hW20
          have HW21 := hide hW21
          clear hW20 hW21 p21 o19 r19 m19 p19 s19 G19 p20 m20 s20 g19
          go_wp2_with (first | (rw [← unhide HW21]) | (rw [← unhide HW20]))
          refine (c11 _).mono ?_
          rintro e w22 ⟨rfl, g22⟩
          clear c11 q0 q1 a0 a1 za0 za1 b1 zb1 HW20 HW21
          have o22 := (unhide HO21).kept g22 (by simp)
          have r22 := (unhide HR21).kept g22 (by simp)
          have m22 := (unhide HM21).kept g22 (by simp)
          have s22 := (unhide HS21).kept g22
          have G22 := tn (unhide HG21) g22
          have hfive : ∀ V : World, Blk V (w.heap.size + 1) 47 [.string S0, .slice none 0 0, .int .u64 0, .string S0, .string S0] → w.grownBy V none → ∀ a b c d e : Value, w.grownBy (((((V.setCell ⟨w.heap.size + 1, 0, none⟩ a).setCell ⟨w.heap.size + 1, 1, none⟩ b).setCell ⟨w.heap.size + 1, 2, none⟩ c).setCell ⟨w.heap.size + 1, 3, none⟩ d).setCell ⟨w.heap.size + 1, 4, none⟩ e) none ∧ Blk (((((V.setCell ⟨w.heap.size + 1, 0, none⟩ a).setCell ⟨w.heap.size + 1, 1, none⟩ b).setCell ⟨w.heap.size + 1, 2, none⟩ c).setCell ⟨w.heap.size + 1, 3, none⟩ d).setCell ⟨w.heap.size + 1, 4, none⟩ e) (w.heap.size + 1) 47 [a, b, c, d, e] := fun V hB gV a b c d e => ⟨gb_setCell (gb_setCell (gb_setCell (gb_setCell (gb_setCell gV _ _ (Or.inl (Nat.le_succ _))) _ _ (Or.inl (Nat.le_succ _))) _ _ (Or.inl (Nat.le_succ _))) _ _ (Or.inl (Nat.le_succ _))) _ _ (Or.inl (Nat.le_succ _)), ((((hB.set 0 a).set 1 b).set 2 c).set 3 d).set 4 e⟩
          by_cases hD0 : Dn = 0
          · subst hD0
            have n0 := m22.cell 0
            have n1 := m22.cell 1
            have n2 := m22.cell 2
            have n3 := m22.cell 3
            have n4 := m22.cell 4
            simp only [List.getElem?_cons_zero, List.getElem?_cons_succ] at n0 n1 n2 n3 n4
            have c12 := unhide HC12 w22 s22
            have HO22 := hide o22
            have HR22 := hide r22
            have HM22 := hide m22
            have HS22 := hide s22
            have HG22 := hide G22
            have HFV := hide hfive
            clear o22 r22 m22 s22 G22 hfive g22
            go_wp2_with fail
            refine c12.mono ?_
            rintro e w23 ⟨rfl, g23⟩
            obtain ⟨K, hK⟩ : ∃ K : Int, K = (if r.1 = 0 then 3 else 0) := ⟨_, rfl⟩
            obtain ⟨x, hx⟩ : ∃ x : Int, x = r.1 := ⟨_, rfl⟩
            obtain ⟨SS, hSS⟩ : ∃ S, S = str r.2 := ⟨_, rfl⟩
            rw [← hK, ← hx, ← hSS]
            have HK := hide hK
            have HX := hide hx
            have HSS := hide hSS
            clear hK hx hSS c12 n0 n1 n2 n3 n4
            obtain ⟨W24, hW24, j24, g24⟩ : ∃ W, W = w23.alloc (.cells #[.int .i64 K, .string SS] 29) ∧ Blk W w23.heap.size 29 [.int .i64 K, .string SS] ∧ w23.grownBy W none := box_new w23 _ _
            have gf := tn g23 g24
            have o24 := (unhide HO22).kept gf (by simp)
            have r24 := (unhide HR22).kept gf (by simp)
            have m24 := (unhide HM22).kept gf (by simp)
            have s24 := (unhide HS22).kept gf
            have G24 := tn (unhide HG22) gf
            have o0 := o24.cell 0
            have o1 := o24.cell 1
            have j0 := j24.cell 0
            have j1 := j24.cell 1
            have t0c := r24.cell 0
            have t1c := r24.cell 1
            have t2c := r24.cell 2
            have t3c := r24.cell 3
            have t4c := r24.cell 4
            have y0 := r24.fz 0
            have y1 := r24.fz 1
            have y2 := r24.fz 2
            have y3 := r24.fz 3
            have y4 := r24.fz 4
            have n0 := m24.cell 0
            have n1 := m24.cell 1
            have n2 := m24.cell 2
            have n3 := m24.cell 3
            have n4 := m24.cell 4
            simp only [List.getElem?_cons_zero, List.getElem?_cons_succ] at o0 o1 j0 j1 t0c t1c t2c t3c t4c n0 n1 n2 n3 n4
            have hneq : (binOp .neq 29 (.agg #[.int .i64 K, .string SS]) (.agg #[.int .i64 3, .string SD])).run Tryz.prog W24 = .ok (.bool (!(K == 3 && r.2 == d))) W24 := by
              have := neq_robj W24 K 3 r.2 d
              rwa [← unhide HSS, ← unhide HSD] at this
            have HFR := hide (unhide HFV W24 r24 G24)
            have HR24 := hide r24
            have HS24 := hide (own_low s24 hs6)
            have HW24 := hide hW24
            clear o24 r24 m24 s24 G24 gf j24 g23 g24 hW24
            by_cases hx0 : x = 0
            · have hK4 : K = 3 := by rw [unhide HK, if_pos (by rw [← unhide HX]; exact hx0)]
              subst hK4
              have hr0 : r.1 = 0 := by rw [← unhide HX]; exact hx0
              by_cases hrd : r.2 = d
              · have hres := unhide HGOOD ⟨by simp, by rw [← hrd, ← hr0]⟩
                have HRS := hide hres
                rw [show (!((3 : Int) == 3 && r.2 == d)) = false by simp [hrd]] at hneq
                clear hres hrd hr0 HBAD HGOOD
                subst hx0
                go_wp2_with (first | (refine wpList_neq (by rfl) _ _ _ _ rfl _ _ _ rfl rfl guard_robj hneq ?_) | (rw [← unhide HW24]))
                refine bodyPost_ret (results_row_tmp rfl _ _ _ _ _ _ _ rfl (unhide HFR _ _ _ _ _).2 Tryz.underlying47 rfl info_rchg3) rfl ?_
                refine ⟨po, pc, 0, ?_, by rw [unhide HRS], ?_, (unhide HFR _ _ _ _ _).1⟩
                · rw [unhide HRS]
                  simp only
                  rw [unhide HRCC]
                  rfl
                · rw [unhide HRS]
                  simp only
                  rw [← unhide HM]
                  exact own_set_id (own_set_id (own_set_id (own_set_id (own_set_id (unhide HS24) (unhide HR24) (by decide) 0 _) ((unhide HR24).set 0 _) (by decide) 1 _) (((unhide HR24).set 0 _).set 1 _) (by decide) 2 _) ((((unhide HR24).set 0 _).set 1 _).set 2 _) (by decide) 3 _) (((((unhide HR24).set 0 _).set 1 _).set 2 _).set 3 _) (by decide) 4 _
              · have hres := unhide HBAD (fun h => hrd (by rw [h.2]))
                have HRS := hide hres
                rw [show (!((3 : Int) == 3 && r.2 == d)) = true by simp [hrd]] at hneq
                clear hres hrd hr0 HBAD HGOOD
                subst hx0
                go_wp2_with (first | (refine wpList_neq (by rfl) _ _ _ _ rfl _ _ _ rfl rfl guard_robj hneq ?_) | (rw [← unhide HW24]))
                refine bodyPost_ret (results_row_tmp rfl _ _ _ _ _ _ _ rfl (unhide HFR _ _ _ _ _).2 Tryz.underlying47 rfl info_rchg3) rfl ?_
                exact ⟨none, 0, 11, by rw [unhide HRS]; rfl, by rw [unhide HRS], by rw [unhide HRS]; exact Stg.nil _ _, (unhide HFR _ _ _ _ _).1⟩
            · have hx1 : (x == 0) = false := by simpa using hx0
              have hres := unhide HBAD (fun h => hx0 (by rw [unhide HX, h.2]))
              have HRS := hide hres
              clear hres HBAD HGOOD hneq
              go_wp2_with (rw [← unhide HW24])
              refine bodyPost_ret (results_row_tmp rfl _ _ _ _ _ _ _ rfl (unhide HFR _ _ _ _ _).2 Tryz.underlying47 rfl info_rchg3) rfl ?_
              exact ⟨none, 0, 11, by rw [unhide HRS]; rfl, by rw [unhide HRS], by rw [unhide HRS]; exact Stg.nil _ _, (unhide HFR _ _ _ _ _).1⟩
          · have hD1 : (Dn == 0) = false := by simpa using hD0
            have hres := unhide HBAD (fun h => hD0 h.1)
            have HRS := hide hres
            have t0c := r22.cell 0
            have t1c := r22.cell 1
            have t2c := r22.cell 2
            have t3c := r22.cell 3
            have t4c := r22.cell 4
            have y0 := r22.fz 0
            have y1 := r22.fz 1
            have y2 := r22.fz 2
            have y3 := r22.fz 3
            have y4 := r22.fz 4
            simp only [List.getElem?_cons_zero, List.getElem?_cons_succ] at t0c t1c t2c t3c t4c
            have HFR := hide (hfive w22 r22 G22)
            clear hres HBAD HGOOD o22 r22 m22 s22 G22 hfive g22
            go_wp2
            refine bodyPost_ret (results_row_tmp rfl _ _ _ _ _ _ _ rfl (unhide HFR _ _ _ _ _).2 Tryz.underlying47 rfl info_rchg3) rfl ?_
            exact ⟨none, 0, 11, by rw [unhide HRS]; rfl, by rw [unhide HRS], by rw [unhide HRS]; exact Stg.nil _ _, (unhide HFR _ _ _ _ _).1⟩
  · have hres : RT = (2, ⟨[], [], 0, [], []⟩) := by rw [hRT]; simp [rtC, hk]
    have hk2 : (k == 3) = false := by simpa using hk
    have HR := hide hres
    clear hRT hres hSD hd hS0
    go_enter Tryz.func10, Tryz.ntmps10
    go_wp2
    refine bodyPost_ret (v := .tuple #[.agg #[.string ⟨#[]⟩, .slice none 0 0, .int .u64 0, .string ⟨#[]⟩, .string ⟨#[]⟩], .int .i64 2]) (by simp [results, Tryz.results10, go_sem]) rfl ?_
    exact ⟨none, 0, 2, by rw [unhide HR]; rfl, by rw [unhide HR], by rw [unhide HR]; exact Stg.nil _ _, gb_alloc (gb_alloc (gb_refl _ _) _) _⟩

end Go.Proofs.YtcemdlcimhoeeaaGreatDoor

/- What the document's Check (package coffretref10) answers. Of data of at most 100000 bytes. -/
namespace Go.Proofs.YtcemdlcimhoeeaaGreatDoor
open Go.RowKit

theorem rt_check2 (d : List UInt8) (h : d.length ≤ 16384) : checkL 2 d = (rtT 2 d).1 := by
  have h1 : ¬ 16384 < d.length := by omega
  by_cases hq : ofTree (readT d) = (0, d) <;> simp [checkL, h1, rtT, treeOf, hq, errO]
theorem rt_check3 (d : List UInt8) (h : d.length ≤ 16384) : checkL 3 d = (rtC 3 d).1 := by
  have h1 : ¬ 16384 < d.length := by omega
  by_cases hq : ofChg (readC d) = (0, d) <;> simp [checkL, h1, rtC, chgOf, hq, errO]
theorem rt_check4 (d : List UInt8) (h : d.length ≤ 16384) : checkL 4 d = (rtM 4 d).1 := by
  have h1 : ¬ 16384 < d.length := by omega
  by_cases hq : ofMrk (readM d) = (0, d) <;> simp [checkL, h1, rtM, mrkOf, hq, errO]

set_option maxRecDepth 100000 in
set_option maxHeartbeats 2000000 in
theorem rcheck_any (w : World) (k : Int) (d : List UInt8) (hd : d.length ≤ 100000) : Calls Tryz.prog 19 #[.agg #[.int .i64 k, .string (str d)]] w fun e w' => e = .returned (.int .i64 (checkL k d)) ∧ w.grownBy w' none := by
  have hsz := str_size d
  obtain ⟨W0, hW0, hB0, g0⟩ : ∃ W, W = w.alloc (.cells #[.int .i64 k, .string (str d)] 29) ∧ Blk W w.heap.size 29 [.int .i64 k, .string (str d)] ∧ w.grownBy W none := box_new w _ _
  have c0 := hB0.cell 0
  have c1 := hB0.cell 1
  simp only [List.getElem?_cons_zero, List.getElem?_cons_succ] at c0 c1
  have ct := rtreeOf_any W0 k d hd
  have cc := rchangeOf_any W0 k d hd
  have cm := rmarkOf_any W0 k d hd
  obtain ⟨SD, hSD⟩ : ∃ S, S = str d := ⟨_, rfl⟩
  obtain ⟨n, hn⟩ : ∃ n, n = d.length := ⟨_, rfl⟩
  rw [← hSD, ← hn] at hsz
  rw [← hSD] at c1 ct cc cm hW0 ⊢
  obtain ⟨Y, hY⟩ : ∃ y, y = checkL k d := ⟨_, rfl⟩
  rw [← hY]
  have HW := hide hW0
  have HG := hide g0
  clear hW0 hB0 g0 hSD
  by_cases hk1 : k < 1
  · have hr : Y = 2 := by rw [hY]; unfold checkL; rw [if_pos (Or.inl hk1)]
    subst hr
    clear hY ct cc cm hn hd
    go_enter Tryz.func19, Tryz.ntmps19
    go_wp2_with (rw [← unhide HW])
    go_ret
    exact ⟨rfl, unhide HG⟩
  · by_cases hk4 : 4 < k
    · have hr : Y = 2 := by rw [hY]; unfold checkL; rw [if_pos (Or.inr hk4)]
      subst hr
      clear hY ct cc cm hn hd
      go_enter Tryz.func19, Tryz.ntmps19
      go_wp2_with (rw [← unhide HW])
      go_ret
      exact ⟨rfl, unhide HG⟩
    · by_cases hbig : 16384 < d.length
      · have hr : Y = 3 := by rw [hY]; unfold checkL; rw [if_neg (by omega), if_pos hbig]
        have hb2 : (16384 : Int) < (n : Int) := by omega
        subst hr
        clear hY ct cc cm hn hd hbig
        go_enter Tryz.func19, Tryz.ntmps19
        go_wp2_with (rw [← unhide HW])
        go_ret
        exact ⟨rfl, unhide HG⟩
      · have hb2 : ¬ (16384 : Int) < (n : Int) := by omega
        have h5 : k = 1 ∨ k = 2 ∨ k = 3 ∨ k = 4 := by omega
        have hd6 : d.length ≤ 16384 := by omega
        rcases h5 with rfl | rfl | rfl | rfl
        · have hr : Y = 0 := by rw [hY]; unfold checkL; rw [if_neg (by omega), if_neg hbig]; rfl
          subst hr
          clear hY ct cc cm hn hd hbig
          go_enter Tryz.func19, Tryz.ntmps19
          go_wp2_with (rw [← unhide HW])
          go_ret
          exact ⟨rfl, unhide HG⟩
        · rw [rt_check2 d hd6] at hY
          have HY := hide hY
          clear cc cm hn hd hbig hY hd6
          go_enter Tryz.func19, Tryz.ntmps19
          go_wp2_with (rw [← unhide HW])
          refine ct.mono ?_
          rintro e w2 ⟨v, y, rfl, hy, _, g2⟩
          rw [← unhide HY] at hy
          subst hy
          clear ct c0 c1
          go_wp2
          go_ret
          exact ⟨rfl, tn (unhide HG) g2⟩
        · rw [rt_check3 d hd6] at hY
          have HY := hide hY
          clear ct cm hn hd hbig hY hd6
          go_enter Tryz.func19, Tryz.ntmps19
          go_wp2_with (rw [← unhide HW])
          refine cc.mono ?_
          rintro e w2 ⟨po, pc, y, rfl, hy, _, g2⟩
          rw [← unhide HY] at hy
          subst hy
          clear cc c0 c1
          go_wp2
          go_ret
          exact ⟨rfl, tn (unhide HG) g2⟩
        · rw [rt_check4 d hd6] at hY
          rw [← hY] at cm
          clear ct cc hn hd hbig hY hd6
          go_enter Tryz.func19, Tryz.ntmps19
          go_wp2_with (rw [← unhide HW])
          refine cm.mono ?_
          rintro e w2 ⟨rfl, g2⟩
          clear cm c0 c1
          go_wp2
          go_ret
          exact ⟨rfl, tn (unhide HG) g2⟩

end Go.Proofs.YtcemdlcimhoeeaaGreatDoor
