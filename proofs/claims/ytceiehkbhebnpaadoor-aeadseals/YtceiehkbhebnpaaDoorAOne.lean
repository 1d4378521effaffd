/- The law package's one, by what Seal and Open answer: it answers true, and nothing that was in memory has changed. -/
import Derived.Test.YtceiehkbhebnpaaDoorALaw
import Derived.Lib.SlBytesConst
import Derived.Deep.CutBlock
namespace Go.Proofs.YtceiehkbhebnpaaDoor
open Go.RowKit

theorem wpList_built {P : Program} {ops : Array Oper} {rest : List Oper} {o : Oper} {a : Act} {w : World} {Q : Exit → Act → World → Prop} (hg : o.guard = none) (t : TypeId) (parts : Array (Nat × Operand)) (ho : o.op = .build t parts) (cells : Array Value)
    (hf : P.built t (parts.map fun (i, x) => (i, a.eval x)).toList = some cells)
    (h : wpList P ops Q rest (a.put o.dst (.agg cells)) w) : wpList P ops Q (o :: rest) a w :=
  wpList_build hg t parts ho (by rw [hf]; rfl) (by rw [hf]; exact h)
theorem bts_new (V : World) (l : List UInt8) (mk : Nat × Nat) (h : l.length ≤ maxLen) : Bts (V.alloc (.cells (l.map bv).toArray 5 mk)) (some ⟨V.heap.size, 0, none⟩) l.length l := by
  refine ⟨(fun e => by cases e), Nat.le_refl _, h, (fun ad e _ => by cases e; rfl), (fun ad e i hi => ?_)⟩
  cases e
  show (V.alloc (.cells (l.map bv).toArray 5 mk)).cell? ⟨V.heap.size, 0 + i, none⟩ = _
  rw [Nat.zero_add, cell_of_row _ _ i _ _ _ (heap_alloc_new V _)]
  simp [hi, bv]

set_option maxRecDepth 100000 in
set_option maxHeartbeats 2000000 in
theorem aone_any (A : AeadC) (w : World) (hT : CTab w) :
    Calls Tryd.prog 13 #[] w fun e w' => e = .returned (.bool true) ∧ w.grownBy w' none := by
  have tr : ∀ {x y z : World}, x.grownBy y none → y.grownBy z none → x.grownBy z none := fun h k => gb_trans h k (fun _ e => by cases e)
  obtain ⟨k, hk⟩ : ∃ k, k = k6 := ⟨_, rfl⟩
  obtain ⟨n, hn⟩ : ∃ n, n = n6 := ⟨_, rfl⟩
  have hkl : k.length = 32 := by rw [hk]; rfl
  have hnl : n.length = 12 := by rw [hn]; rfl
  have hbk := built_k6
  have hbn := built_n6
  rw [← hk] at hbk
  rw [← hn] at hbn
  have hno := other_beside
  rw [← hk, ← hn] at hno
  have kc := fun (w : World) (C : Array Value) (n c : Nat) => Lib.run_convert_bytes_const (P := Tryd.prog) w 24 5 C n c Tryd.underlying24 Tryd.underlying5
  obtain ⟨y, hy⟩ : ∃ y, y = sealL k n [97] [98, 99] := ⟨_, rfl⟩
  have hyl : y.length = 18 := by rw [hy, sealL_length]; rfl
  have hso : ∀ V bo xo cb cx, Bts V bo cb [97] → Bts V xo cx [98, 99] → CTab V → Calls Tryd.prog 7 #[.agg (k.map bv).toArray, .agg (n.map bv).toArray, .slice bo 1 cb, .slice xo 2 cx] V fun e w' => ∃ so cs, e = .returned (.slice so 18 cs) ∧ Bts w' so cs y ∧ V.grownBy w' none := fun V bo xo cb cx h1 h2 h3 =>
    (A.sealed V k n [97] [98, 99] bo xo cb cx hkl hnl h1 h2 (by decide) (by decide) h3).mono fun e w' ⟨v, he, ⟨so, cs, hv, hB, _⟩, hg⟩ => ⟨so, cs, by rw [he, hv, ← hy, hyl], by rw [hy]; exact hB, hg⟩
  have hop : ∀ V bo xo cb cx, Bts V bo cb [97] → Bts V xo cx y → CTab V → Calls Tryd.prog 9 #[.agg (k.map bv).toArray, .agg (n.map bv).toArray, .slice bo 1 cb, .slice xo 18 cx] V fun e w' => ∃ so cs, e = .returned (.tuple #[.slice so 2 cs, .bool true]) ∧ Bts w' so cs [98, 99] ∧ V.grownBy w' none := fun V bo xo cb cx h1 h2 h3 => by
    have h := A.opened V k n [97] y bo xo cb cx hkl hnl h1 h2 (by decide) (by omega) h3
    rw [hyl] at h
    refine h.mono fun e w' ⟨v, he, ⟨so, cs, hv, hB, _⟩, hg⟩ => ?_
    rw [hy, open_text] at hv hB
    rw [hy, open_seal] at he
    exact ⟨so, cs, by rw [he, hv]; rfl, hB, hg⟩
  have hop2 : ∀ V bo xo cb cx, Bts V bo cb [98] → Bts V xo cx y → CTab V → Calls Tryd.prog 9 #[.agg (k.map bv).toArray, .agg (n.map bv).toArray, .slice bo 1 cb, .slice xo 18 cx] V fun e w' => ∃ v, e = .returned (.tuple #[v, .bool false]) ∧ V.grownBy w' none := fun V bo xo cb cx h1 h2 h3 => by
    have h := A.opened V k n [98] y bo xo cb cx hkl hnl h1 h2 (by decide) (by omega) h3
    rw [hyl] at h
    refine h.mono fun e w' ⟨v, he, _, hg⟩ => ?_
    rw [hy, hno] at he
    exact ⟨v, he, hg⟩
  have HKE := hide hk
  have HNE := hide hn
  have HBK := hide hbk
  have HBN := hide hbn
  have HT := hide hT
  clear hk hn hkl hnl hbk hbn hno hy hyl hT
  have HSO := hide hso
  have HOP := hide hop
  have HOP2 := hide hop2
  clear hso hop hop2
  have hb1 : Bts ((w.alloc (.cells #[.int .u8 97] 5 (1, 2))).alloc (.cells #[.int .u8 98, .int .u8 99] 5 (2, 3))) (some ⟨w.heap.size, 0, none⟩) 1 [97] :=
    (bts_new w [97] (1, 2) (by decide)).kept (World.grownBy_alloc _ (.cells #[.int .u8 98, .int .u8 99] 5 (2, 3)) none) (fun _ e => by cases e)
  have hb2 : Bts ((w.alloc (.cells #[.int .u8 97] 5 (1, 2))).alloc (.cells #[.int .u8 98, .int .u8 99] 5 (2, 3))) (some ⟨w.heap.size + 1, 0, none⟩) 2 [98, 99] := by
    have := bts_new (w.alloc (.cells #[.int .u8 97] 5 (1, 2))) [98, 99] (2, 3) (by decide)
    rw [World.size_alloc] at this
    exact this
  have hg1 : w.grownBy ((w.alloc (.cells #[.int .u8 97] 5 (1, 2))).alloc (.cells #[.int .u8 98, .int .u8 99] 5 (2, 3))) none := gb_alloc (gb_alloc (gb_refl _ _) _) _
  have HB1 := hide hb1
  have HB2 := hide hb2
  clear hb1 hb2
  have kc2 := kc (w.alloc (.cells #[.int .u8 97] 5 (1, 2))) #[.int .u8 98, .int .u8 99] 2 2
  rw [World.size_alloc] at kc2
  go_enter Tryd.func13, Tryd.ntmps13
  go_wp2_with (first
    | (refine wpList_built rfl 23 _ rfl (k.map bv).toArray ?_ ?_; (first | exact unhide HBK | (rw [unhide HKE]; kernel_rfl)))
    | (refine wpList_built rfl 27 _ rfl (n.map bv).toArray ?_ ?_; (first | exact unhide HBN | (rw [unhide HNE]; kernel_rfl)))
    | (go_at_call 7; refine (unhide HSO _ _ _ _ _ (unhide HB1) (unhide HB2) ((unhide HT).kept0 hg1)).mono ?_; rintro e w2 ⟨so, cs, rfl, hy2, g2⟩; have HY2 := hide hy2; have G2 := tr hg1 g2; have hb3 : Bts (w2.alloc (.cells #[.int .u8 97] 5 (1, 2))) (some ⟨w2.heap.size, 0, none⟩) 1 [97] := bts_new w2 [97] (1, 2) (by decide); have hy3 := hy2.kept (World.grownBy_alloc w2 (.cells #[.int .u8 97] 5 (1, 2)) none) (fun _ e => by cases e); have G3 := gb_alloc G2 (.cells #[.int .u8 97] 5 (1, 2)); have HB3 := hide hb3; have HY3 := hide hy3; clear hy2 hb3 hy3)
    | (go_at_call 9; refine (unhide HOP _ _ _ _ _ (unhide HB3) (unhide HY3) ((unhide HT).kept0 G3)).mono ?_; rintro e w4 ⟨bo, cb, rfl, hx4, g4⟩; have G4 := tr G3 g4; have hy4 := (unhide HY3).kept g4 (fun _ e => by cases e); have hb5 : Bts (w4.alloc (.cells #[.int .u8 98] 5 (1, 2))) (some ⟨w4.heap.size, 0, none⟩) 1 [98] := bts_new w4 [98] (1, 2) (by decide); have hy5 := hy4.kept (World.grownBy_alloc w4 (.cells #[.int .u8 98] 5 (1, 2)) none) (fun _ e => by cases e); have hx5 := hx4.kept (World.grownBy_alloc w4 (.cells #[.int .u8 98] 5 (1, 2)) none) (fun _ e => by cases e); have G5 := gb_alloc G4 (.cells #[.int .u8 98] 5 (1, 2)); have HB5 := hide hb5; have HY5 := hide hy5; have HX5 := hide hx5; clear hy4 hb5 hy5 hx5 hx4 HB3)
    | (go_at_call 9; refine (unhide HOP2 _ _ _ _ _ (unhide HB5) (unhide HY5) ((unhide HT).kept0 G5)).mono ?_; rintro e w6 ⟨v6, rfl, g6⟩; have G6 := tr G5 g6; have hx6 := (unhide HX5).kept g6 (fun _ e => by cases e); have hcv : (convert 24 9 (.slice bo 2 cb)).run Tryd.prog w6 = .ok (.string { data := #[98, 99] }) w6 := conv_str hx6; clear hx6 HB5))
  go_ret
  exact ⟨rfl, G6⟩
end Go.Proofs.YtceiehkbhebnpaaDoor
