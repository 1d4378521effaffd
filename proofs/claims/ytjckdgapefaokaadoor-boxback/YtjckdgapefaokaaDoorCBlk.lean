/- What chacha's Block answers: THE BLOCK. Where the table holds what the program's text lays in it, of a key of 32 bytes and a nonce of 12. -/
import Derived.Test.YtjckdgapefaokaaDoorCFirst
import Derived.Deep.DrawnRows
namespace Go.Proofs.YtjckdgapefaokaaDoor
open Go.RowKit
attribute [local go_sem ↓] Go.wp_at_zero Go.wp_at_succ

theorem leBytes_snoc (bw : List W) (r : Nat) (hr : r < bw.length) : leBytes (bw.take (r + 1)) = leBytes (bw.take r) ++ le4 (bw.getD r 0) := by
  rw [List.take_succ_eq_append_getElem hr, leBytes_append]
  simp [leBytes, List.getD, hr]

theorem Blk.laid4 {w : World} {b : Nat} {t : TypeId} {bw : List W} {r : Nat} (hl : bw.length = 16) (hr : r < 16) (h : Blk w b t ((leBytes (bw.take r) ++ List.replicate (64 - 4 * r) 0).map bv)) : Blk (w.setCells b (4 * r) ((le4 (bw.getD r 0)).map bv)) b t ((leBytes (bw.take (r + 1)) ++ List.replicate (64 - 4 * (r + 1)) 0).map bv) := by
  have e : (leBytes (bw.take r) ++ List.replicate (64 - 4 * r) (0 : UInt8)).map bv = (leBytes (bw.take r)).map bv ++ ((List.replicate 4 (0 : UInt8)).map bv ++ (List.replicate (64 - 4 * (r + 1)) (0 : UInt8)).map bv) := by
    rw [← List.map_append, ← List.map_append, List.replicate_append_replicate, show 4 + (64 - 4 * (r + 1)) = 64 - 4 * r by omega]
  rw [e] at h
  have hA : ((leBytes (bw.take r)).map bv).length = 4 * r := by rw [List.length_map, leBytes_length]; simp; omega
  have := Blk.setCells ((le4 (bw.getD r 0)).map bv) _ h (by simp [le4_length])
  rw [hA] at this
  rw [leBytes_snoc bw r (by omega), List.map_append, List.map_append, List.append_assoc]
  exact this

theorem zero64b (w : World) : (zeroValue 97).run Tryd.prog w = .ok (.agg ((List.replicate 64 (0 : UInt8)).map bv).toArray) w := by kernel_rfl

set_option maxRecDepth 100000 in
set_option maxHeartbeats 4000000 in
theorem block_any (w : World) (k n : List UInt8) (c : W) (hk : k.length = 32) (hn : n.length = 12) (hT : CTab w) :
    Calls Tryd.prog 50 #[.agg (k.map bv).toArray, .agg (n.map bv).toArray, .int .u32 (wz c)] w fun e w' => e = .returned (.agg ((blockL k n c).map bv).toArray) ∧ w.grownBy w' none := by
  have hi16 : (Tryd.prog.info? 126).map (·.size) = some 16 := by kernel_rfl
  have hi64 : (Tryd.prog.info? 97).map (·.size) = some 64 := by kernel_rfl
  have hi32 : (Tryd.prog.info? 37).map (·.size) = some 32 := by kernel_rfl
  have hi12 : (Tryd.prog.info? 64).map (·.size) = some 12 := by kernel_rfl
  obtain ⟨KA, hKA⟩ : ∃ A : Array Value, A = (k.map bv).toArray := ⟨_, rfl⟩
  obtain ⟨NA, hNA⟩ : ∃ A : Array Value, A = (n.map bv).toArray := ⟨_, rfl⟩
  have hKZ : KA.size = 32 := by rw [hKA]; simp [hk]
  have hNZ : NA.size = 12 := by rw [hNA]; simp [hn]
  obtain ⟨Z, hZ⟩ : ∃ A : Array Value, A = ((List.replicate 64 (0 : UInt8)).map bv).toArray := ⟨_, rfl⟩
  have hz := zero64b
  rw [← hZ] at hz
  obtain ⟨Y, hY⟩ : ∃ A : Array Value, A = ((List.replicate 16 (0 : W)).map wv).toArray := ⟨_, rfl⟩
  have hy := zero16w
  rw [← hY] at hy
  obtain ⟨F, hF⟩ : ∃ F, F = firstL k n c := ⟨_, rfl⟩
  have hFl : F.length = 16 := by rw [hF]; exact firstL_length _ _ _
  obtain ⟨W1, hW1⟩ : ∃ W1, W1 = ((w.alloc (.cells KA 37)).alloc (.cells NA 64)).alloc (.cells Z 97) := ⟨_, rfl⟩
  have hg1 : w.grownBy W1 none := by rw [hW1]; exact gb_alloc (gb_alloc (gb_alloc (gb_refl _ _) _) _) _
  have hs1 : W1.heap.size = w.heap.size + 3 := by rw [hW1]; simp
  have hK1 : W1.heap[w.heap.size]? = some (.cells KA 37 (0, 0)) := by
    have := ((Blk.new w 37 (k.map bv)).alloc (.cells NA 64)).alloc (.cells Z 97)
    rw [hW1, hKA]; exact this
  have hN1 : W1.heap[w.heap.size + 1]? = some (.cells NA 64 (0, 0)) := by
    have := Blk.new (w.alloc (.cells KA 37)) 64 (n.map bv)
    rw [World.size_alloc] at this
    rw [hW1, hNA]; exact this.alloc _
  have hR1 : Blk W1 (w.heap.size + 2) 97 ((List.replicate 64 (0 : UInt8)).map bv) := by
    have := Blk.new ((w.alloc (.cells KA 37)).alloc (.cells NA 64)) 97 ((List.replicate 64 (0 : UInt8)).map bv)
    rw [World.size_alloc, World.size_alloc] at this
    rw [hW1, hZ]; exact this
  have hlo := laidOut_any W1 k n c hk hn (hT.kept0 hg1)
  rw [← hKA, ← hNA, ← hF] at hlo
  rw [← hKA, ← hNA]
  have hsz : ((F.map wv).toArray).size = 16 := by simp [hFl]
  have HKA := hide hKA
  have HNA := hide hNA
  have HKZ := hide hKZ
  have HNZ := hide hNZ
  have HZ := hide hZ
  have HY := hide hY
  have HF := hide hF
  have HFL := hide hFl
  have HW1 := hide hW1
  have HK := hide hk
  have HN := hide hn
  have HK1 := hide hK1
  have HN1 := hide hN1
  have HR1 := hide hR1
  have HSZ := hide hsz
  have HS1 := hide hs1
  clear hKA hNA hKZ hNZ hZ hY hF hFl hW1 hk hn hK1 hN1 hR1 hsz hT hs1
  go_enter Tryd.func50, Tryd.ntmps50
  go_wp2_with (first
    | (rw [← unhide HW1]; refine wpList_load_row rfl 37 _ rfl w.heap.size rfl _ _ _ _ (unhide HK1) Tryd.underlying37 rfl ?_ ?_; (rw [unhide HKZ]; exact hi32))
    | (refine wpList_load_row rfl 64 _ rfl (w.heap.size + 1) rfl _ _ _ _ (unhide HN1) Tryd.underlying64 rfl ?_ ?_; (rw [unhide HNZ]; exact hi12)))
  refine hlo.mono ?_
  rintro e w2 ⟨rfl, g2⟩
  have hN2 : Blk (w2.alloc (.cells Y 126)) w2.heap.size 126 ((List.replicate 16 (0 : W)).map wv) := by
    rw [unhide HY]; exact Blk.new w2 126 _
  obtain ⟨W3, hW3⟩ : ∃ W3, W3 = (w2.alloc (.cells Y 126)).setRow w2.heap.size (F.map wv).toArray := ⟨_, rfl⟩
  have hB3 : Blk W3 w2.heap.size 126 (F.map wv) := by rw [hW3]; exact hN2.row _
  have g3 : W1.grownBy W3 none := by rw [hW3]; exact gb_row (gb_alloc g2 _) _ (Or.inl g2.size)
  have hs3 : W3.heap.size = w2.heap.size + 1 := by rw [hW3]; simp
  have hN4 : Blk (W3.alloc (.cells Y 126)) W3.heap.size 126 ((List.replicate 16 (0 : W)).map wv) := by
    rw [unhide HY]; exact Blk.new W3 126 _
  obtain ⟨W5, hW5⟩ : ∃ W5, W5 = (W3.alloc (.cells Y 126)).setRow W3.heap.size (F.map wv).toArray := ⟨_, rfl⟩
  have hB5 : Blk W5 W3.heap.size 126 (F.map wv) := by rw [hW5]; exact hN4.row _
  have hF5 : Blk W5 w2.heap.size 126 (F.map wv) := by rw [hW5]; exact (hB3.alloc _).row_other _ _ (by rw [hs3]; omega)
  have hge := g2.size
  have hs1 := unhide HS1
  have g5 : W1.grownBy W5 none := by rw [hW5]; exact gb_row (gb_alloc g3 _) _ (Or.inl (by omega))
  have hR5 := (unhide HR1).kept g5 (by simp)
  have G5 : w.grownBy W5 none := gb_trans hg1 g5 (fun _ e => by cases e)
  have hle : w.heap.size + 3 ≤ w2.heap.size := by omega
  have hne : w2.heap.size ≠ w.heap.size + 2 := by omega
  have HN2 := hide hN2
  have HB3 := hide hB3
  have HN4 := hide hN4
  have HW3 := hide hW3
  have HW5 := hide hW5
  have HB5 := hide hB5
  have HF5 := hide hF5
  have HR5 := hide hR5
  have HS3 := hide hs3
  clear hN2 hB3 hN4 hW3 hW5 hB5 hF5 hR5 hs3 hge hs1 g5 g3 hg1 hlo
  go_wp2_with (first
    | (refine wpList_store_row rfl 126 _ _ rfl w2.heap.size _ rfl rfl _ _ (unhide HN2) ?_ ?_ ?_ ?_; (rw [unhide HSZ]; exact hi16); (rw [unhide HSZ]; rfl); (exact all_oneCell_toArray (wv_one _)); rw [← unhide HW3])
    | (refine wpList_load_row rfl 126 _ rfl w2.heap.size rfl _ _ _ _ (unhide HB3) Tryd.underlying126 rfl ?_ ?_; (rw [unhide HSZ]; exact hi16))
    | (refine wpList_store_row rfl 126 _ _ rfl W3.heap.size _ rfl rfl _ _ (unhide HN4) ?_ ?_ ?_ ?_; (rw [unhide HSZ]; exact hi16); (rw [unhide HSZ]; rfl); (exact all_oneCell_toArray (wv_one _)); rw [← unhide HW5]))
  obtain ⟨N7, hN7⟩ : ∃ N, N = w2.heap.size := ⟨_, rfl⟩
  have hB5 := unhide HB5
  have hF5 := unhide HF5
  rw [unhide HS3] at hB5
  rw [unhide HS3]
  rw [← hN7] at hB5 hF5 hle hne ⊢
  have hR5 := unhide HR5
  clear HW3 HW5 HB5 HF5 HR5 HS3 HN2 HB3 HN4 HK1 HN1 HR1 HW1 g2 hN7
  go_loopw [17] (fun i wr => ∃ r : Nat, r ≤ 10 ∧ i = .int .i64 r ∧ Blk wr (N7 + 1) 126 ((turnsL r F).map wv) ∧ Blk wr N7 126 (F.map wv) ∧ Blk wr (w.heap.size + 2) 97 ((List.replicate 64 (0 : UInt8)).map bv) ∧ w.grownBy wr none) (fun i _ => 10 - (intOf i).toNat)
  case atStart => exact ⟨0, Nat.zero_le _, rfl, hB5, hF5, hR5, G5⟩
  case round =>
    clear hB5 hF5 hR5 G5
    obtain ⟨r, hr, rfl, hB, hFb, hR, hg⟩ := hrel
    by_cases hlt : r < 10
    · have ht := turn_any wr (N7 + 1) 126 (turnsL r F) (by rw [turnsL_length]; exact unhide HFL) hB
      have hq1 : (r : Int) < 10 := by omega
      clear hB
      have HFb := hide hFb
      have HR := hide hR
      clear hFb hR
      go_wp2_with fail
      refine ht.mono ?_
      rintro e w3 ⟨rfl, B3, g3⟩
      have h1 := (unhide HFb).kept g3 (by simp)
      have h2 := (unhide HR).kept g3 (by simp; omega)
      have h3 : w.grownBy w3 none := gb_trans hg g3 (fun x e => by cases e; exact Or.inl (by omega))
      clear ht
      go_wp2
      go_roundw
      case rel => exact ⟨r + 1, by omega, by go_num, B3, h1, h2, h3⟩
      case measure => simp [intOf]; omega
    · obtain rfl : r = 10 := by omega
      rw [show ((10 : Nat) : Int) = 10 from rfl]
      obtain ⟨T, hT⟩ : ∃ T, T = turnsL 10 F := ⟨_, rfl⟩
      rw [← hT] at hB
      have hTl : T.length = 16 := by rw [hT, turnsL_length]; exact unhide HFL
      have hTz : ((T.map wv).toArray).size = 16 := by simp [hTl]
      obtain ⟨bw, hbw⟩ : ∃ bw, bw = List.zipWith (· + ·) T F := ⟨_, rfl⟩
      have hbl : bw.length = 16 := by rw [hbw]; simp [hTl, unhide HFL]
      have hfin : leBytes bw = blockL k n c := by rw [hbw, hT, unhide HF]; rfl
      have hgl := hg.size
      obtain ⟨W6, hW6⟩ : ∃ W6, W6 = wr.alloc (.cells Z 97) := ⟨_, rfl⟩
      have hB6 : Blk W6 (N7 + 1) 126 (T.map wv) := by rw [hW6]; exact hB.alloc _
      have hF6 : Blk W6 N7 126 (F.map wv) := by rw [hW6]; exact hFb.alloc _
      have hR6 : Blk W6 (w.heap.size + 2) 97 ((List.replicate 64 (0 : UInt8)).map bv) := by rw [hW6]; exact hR.alloc _
      have hO6 : Blk W6 wr.heap.size 97 ((leBytes (bw.take 0) ++ List.replicate (64 - 4 * 0) 0).map bv) := by
        rw [hW6, unhide HZ]; exact Blk.new wr 97 _
      have hg6 : w.grownBy W6 none := by rw [hW6]; exact gb_alloc hg _
      have hn9 : N7 + 1 < wr.heap.size := hB.lt
      have HB6 := hide hB6
      have HF6 := hide hF6
      have HR6 := hide hR6
      have HO6 := hide hO6
      have HT := hide hT
      have HTL := hide hTl
      have HTZ := hide hTz
      have HBW := hide hbw
      have HBL := hide hbl
      have HFIN := hide hfin
      have HW6 := hide hW6
      clear hB hFb hR hB6 hF6 hR6 hO6 hT hTl hTz hbw hbl hfin hgl hW6 hg
      go_wp2_with (rw [← unhide HW6]; refine wpList_load_row rfl 126 _ rfl (N7 + 1) rfl _ _ _ _ (unhide HB6) Tryd.underlying126 rfl ?_ ?_; (rw [unhide HTZ]; exact hi16))
      obtain ⟨N9, hN9⟩ : ∃ N, N = wr.heap.size := ⟨_, rfl⟩
      have hO6 := unhide HO6
      rw [← hN9] at hO6 hn9 ⊢
      clear HW6 hN9 HO6
      go_loopw [22] (fun i wr => ∃ r : Nat, r ≤ 16 ∧ i = .int .i64 r ∧ Blk wr N9 97 ((leBytes (bw.take r) ++ List.replicate (64 - 4 * r) 0).map bv) ∧ Blk wr N7 126 (F.map wv) ∧ Blk wr (w.heap.size + 2) 97 ((List.replicate 64 (0 : UInt8)).map bv) ∧ w.grownBy wr none) (fun i _ => 16 - (intOf i).toNat)
      case atStart => exact ⟨0, Nat.zero_le _, rfl, hO6, unhide HF6, unhide HR6, hg6⟩
      case round =>
        clear hO6 HF6 HR6 HB6 hg6 hlt hr
        obtain ⟨r, hr, rfl, hO, hFb, hR, hg⟩ := hrel
        by_cases hlt : r < 16
        · obtain ⟨x, hx⟩ : ∃ x, x = T.getD r 0 := ⟨_, rfl⟩
          obtain ⟨f, hf⟩ : ∃ f, f = F.getD r 0 := ⟨_, rfl⟩
          have hidx := index_row 126 92 16 (T.map wv) r (.int .u32 (wz x)) Tryd.underlying126 size_word agg_word hlt (by
            have hl2 : r < T.length := by rw [unhide HTL]; exact hlt
            rw [List.getElem?_map, List.getElem?_eq_getElem hl2, hx, show T.getD r 0 = T[r] by simp [List.getD, hl2]]; rfl)
          have hxf : x + f = bw.getD r 0 := by
            have h1 : r < T.length := by rw [unhide HTL]; exact hlt
            have h2 : r < F.length := by rw [unhide HFL]; exact hlt
            have h3 : r < (List.zipWith (· + ·) T F).length := by simp; omega
            rw [hx, hf, unhide HBW, List.getD, List.getElem?_eq_getElem h1, List.getD, List.getElem?_eq_getElem h2, List.getD, List.getElem?_eq_getElem h3, Option.getD_some, Option.getD_some, Option.getD_some, List.getElem_zipWith]
          have hcf0 : wr.drew.cell? ⟨N7, r, none⟩ = some (.int .u32 (wz f)) := by
            rw [hf]; exact hFb.drew.word r (by rw [unhide HFL]; exact hlt)
          have hth : wr.drew.there N9 (4 * r) 4 := fun j hj => hO.drew.there (4 * r) 4 (by simp only [List.length_map, List.length_append, List.length_replicate, leBytes_length, List.length_take, unhide HBL]; omega) j hj
          have hO1 := hO.drew.laid4 (unhide HBL) hlt
          rw [← hxf] at hO1
          have hF1 := Blk.setCells_other (b' := N9) (by omega) ((le4 (x + f)).map bv) (4 * r) hFb.drew
          have hR1 := Blk.setCells_other (b' := N9) (by omega) ((le4 (x + f)).map bv) (4 * r) hR.drew
          have hg1 : w.grownBy (wr.drew.setCells N9 (4 * r) ((le4 (x + f)).map bv)) none := gb_setCells (Or.inl (by omega)) _ _ (gb_drew hg)
          have hcf1 : (wr.drew.setCells N9 (4 * r) ((le4 (x + f)).map bv)).cell? ⟨N7, r, none⟩ = some (.int .u32 (wz f)) := by
            rw [hf]; rw [hf] at hF1; exact hF1.word r (by rw [unhide HFL]; exact hlt)
          have hsl := slice_arr 97 5 64 Tryd.underlying97 size_byte N9 0 (4 * r) (4 * r + 4) ((4 * r : Nat) : Int) ((4 * r + 4 : Nat) : Int) rfl rfl (by omega) (by omega) (by omega)
          rw [Nat.zero_add, show 4 * r + 4 - 4 * r = 4 by omega] at hsl
          obtain ⟨p4, hp4⟩ : ∃ p : Nat, p = 4 * r := ⟨_, rfl⟩
          obtain ⟨p8, hp8⟩ : ∃ p : Nat, p = 4 * r + 4 := ⟨_, rfl⟩
          obtain ⟨r1, hr1⟩ : ∃ p : Nat, p = r + 1 := ⟨_, rfl⟩
          obtain ⟨c9, hc9⟩ : ∃ p : Nat, p = 64 - 4 * r := ⟨_, rfl⟩
          rw [← hp8, ← hc9, ← hp4] at hsl
          rw [← hp4] at hth hO1 hF1 hR1 hg1 hcf1
          have hm1 : (r : Int) * 4 = (p4 : Int) := by omega
          have hv1 : IntKind.i64.wrap (p4 : Int) = (p4 : Int) := by rw [IntKind.wrap_i64]; omega
          have hm3 : IntKind.i64.wrap ((r : Int) + 1) = (r1 : Int) := by rw [IntKind.wrap_i64]; omega
          have hm2 : (r1 : Int) * 4 = (p8 : Int) := by omega
          have hv2 : IntKind.i64.wrap (p8 : Int) = (p8 : Int) := by rw [IntKind.wrap_i64]; omega
          have hq0 : (0 : Int) ≤ (r : Int) := by omega
          have hq1 : (r : Int) < 16 := by omega
          have ha := w_add
          have ham := w_addm
          have HO1 := hide hO1
          have HF1 := hide hF1
          have HR1 := hide hR1
          have HG1 := hide hg1
          have HRR := hide hr1
          clear hO hFb hR hx hf hxf hO1 hF1 hR1 hg1 hp4 hp8 hr1 hc9
          go_wp2
          refine wp_region_noPanic ?_
          refine wp_region_held_drew (S := fun V => V.cell? ⟨N7, r, none⟩ = some (.int .u32 (wz f))) (by kernel_rfl) hcf0 (fun _ => ?_)
          refine wpAnyH_take (i := 0) (oi := { dst := some 26, op := Op.move (Operand.tmp 10), type := _, pos := _, after := _, guard := _ }) (v := .int .i64 (r : Int)) rfl (by kernel_rfl) (by kernel_rfl) (by kernel_rfl) (fun _ _ _ h => h) (Or.inl ⟨by rfl, fun V (hV : V.cell? ⟨N7, r, none⟩ = some (.int .u32 (wz f))) => by go_simp⟩) hcf0 ?_
          (try simp only [Act.put, List.setIfInBounds_toArray, List.set_cons_zero, List.set_cons_succ])
          refine wpAnyH_take (i := 1) (oi := { dst := some 27, op := Op.binOp BinOp.mul 3 (Operand.tmp 26) (Operand.const (Value.int IntKind.i64 4)) 3, type := _, pos := _, after := _, guard := _ }) (v := .int .i64 (p4 : Int)) rfl (by kernel_rfl) (by kernel_rfl) (by kernel_rfl) (fun _ _ _ h => h) (Or.inl ⟨by rfl, fun V (hV : V.cell? ⟨N7, r, none⟩ = some (.int .u32 (wz f))) => by go_simp⟩) hcf0 ?_
          (try simp only [Act.put, List.setIfInBounds_toArray, List.set_cons_zero, List.set_cons_succ])
          refine wpAnyH_take (i := 2) (oi := { dst := some 28, op := Op.move (Operand.tmp 10), type := _, pos := _, after := _, guard := _ }) (v := .int .i64 (r : Int)) rfl (by kernel_rfl) (by kernel_rfl) (by kernel_rfl) (fun _ _ _ h => h) (Or.inl ⟨by rfl, fun V (hV : V.cell? ⟨N7, r, none⟩ = some (.int .u32 (wz f))) => by go_simp⟩) hcf0 ?_
          (try simp only [Act.put, List.setIfInBounds_toArray, List.set_cons_zero, List.set_cons_succ])
          refine wpAnyH_take (i := 3) (oi := { dst := some 29, op := Op.binOp BinOp.add 3 (Operand.tmp 28) (Operand.const (Value.int IntKind.i64 1)) 3, type := _, pos := _, after := _, guard := _ }) (v := .int .i64 (r1 : Int)) rfl (by kernel_rfl) (by kernel_rfl) (by kernel_rfl) (fun _ _ _ h => h) (Or.inl ⟨by rfl, fun V (hV : V.cell? ⟨N7, r, none⟩ = some (.int .u32 (wz f))) => by go_simp⟩) hcf0 ?_
          (try simp only [Act.put, List.setIfInBounds_toArray, List.set_cons_zero, List.set_cons_succ])
          refine wpAnyH_take (i := 4) (oi := { dst := some 30, op := Op.binOp BinOp.mul 3 (Operand.tmp 29) (Operand.const (Value.int IntKind.i64 4)) 3, type := _, pos := _, after := _, guard := _ }) (v := .int .i64 (p8 : Int)) rfl (by kernel_rfl) (by kernel_rfl) (by kernel_rfl) (fun _ _ _ h => h) (Or.inl ⟨by rfl, fun V (hV : V.cell? ⟨N7, r, none⟩ = some (.int .u32 (wz f))) => by go_simp⟩) hcf0 ?_
          (try simp only [Act.put, List.setIfInBounds_toArray, List.set_cons_zero, List.set_cons_succ])
          refine wpAnyH_take (i := 5) (oi := { dst := some 31, op := Op.slice 97 (Operand.tmp 9) (some (Operand.tmp 27)) (some (Operand.tmp 30)) none, type := _, pos := _, after := _, guard := _ }) (v := .slice (some ⟨N9, p4, none⟩) 4 c9) rfl (by kernel_rfl) (by kernel_rfl) (by kernel_rfl) (fun _ _ _ h => h) (Or.inl ⟨by rfl, fun V (hV : V.cell? ⟨N7, r, none⟩ = some (.int .u32 (wz f))) => by go_simp⟩) hcf0 ?_
          (try simp only [Act.put, List.setIfInBounds_toArray, List.set_cons_zero, List.set_cons_succ])
          refine wpAnyH_take (i := 6) (oi := { dst := some 32, op := Op.move (Operand.tmp 11), type := _, pos := _, after := _, guard := _ }) (v := .int .u32 (wz x)) rfl (by kernel_rfl) (by kernel_rfl) (by kernel_rfl) (fun _ _ _ h => h) (Or.inl ⟨by rfl, fun V (hV : V.cell? ⟨N7, r, none⟩ = some (.int .u32 (wz f))) => by go_simp⟩) hcf0 ?_
          (try simp only [Act.put, List.setIfInBounds_toArray, List.set_cons_zero, List.set_cons_succ])
          refine wpAnyH_take (i := 7) (oi := { dst := some 33, op := Op.move (Operand.tmp 10), type := _, pos := _, after := _, guard := _ }) (v := .int .i64 (r : Int)) rfl (by kernel_rfl) (by kernel_rfl) (by kernel_rfl) (fun _ _ _ h => h) (Or.inl ⟨by rfl, fun V (hV : V.cell? ⟨N7, r, none⟩ = some (.int .u32 (wz f))) => by go_simp⟩) hcf0 ?_
          (try simp only [Act.put, List.setIfInBounds_toArray, List.set_cons_zero, List.set_cons_succ])
          refine wpAnyH_take (i := 8) (oi := { dst := some 34, op := Op.indexAddr 126 (Operand.tmp 7) (Operand.tmp 33), type := _, pos := _, after := _, guard := _ }) (v := .pointer (some ⟨N7, r, none⟩)) rfl (by kernel_rfl) (by kernel_rfl) (by kernel_rfl) (fun _ _ _ h => h) (Or.inl ⟨by rfl, fun V (hV : V.cell? ⟨N7, r, none⟩ = some (.int .u32 (wz f))) => by go_simp⟩) hcf0 ?_
          (try simp only [Act.put, List.setIfInBounds_toArray, List.set_cons_zero, List.set_cons_succ])
          refine wpAnyH_take (i := 9) (oi := { dst := some 35, op := Op.load 92 (Operand.tmp 34), type := _, pos := _, after := _, guard := _ }) (v := .int .u32 (wz f)) rfl (by kernel_rfl) (by kernel_rfl) (by kernel_rfl) (fun _ _ _ h => h) (Or.inl ⟨by rfl, fun V (hV : V.cell? ⟨N7, r, none⟩ = some (.int .u32 (wz f))) => by go_simp⟩) hcf0 ?_
          (try simp only [Act.put, List.setIfInBounds_toArray, List.set_cons_zero, List.set_cons_succ])
          refine wpAnyH_take (i := 10) (oi := { dst := some 36, op := Op.binOp BinOp.add 92 (Operand.tmp 32) (Operand.tmp 35) 92, type := _, pos := _, after := _, guard := _ }) (v := .int .u32 (wz (x + f))) rfl (by kernel_rfl) (by kernel_rfl) (by kernel_rfl) (fun _ _ _ h => h) (Or.inl ⟨by rfl, fun V (hV : V.cell? ⟨N7, r, none⟩ = some (.int .u32 (wz f))) => by go_simp⟩) hcf0 ?_
          (try simp only [Act.put, List.setIfInBounds_toArray, List.set_cons_zero, List.set_cons_succ])
          refine wpAnyH_ready (rs := [11]) (by kernel_rfl) (by simp) ?_
          refine AllReadyH.cons (o := { dst := some 37, op := Op.call { callee := Callee.value (Operand.func 71), args := #[(Operand.tmp 31), (Operand.tmp 36)], argTypes := #[22, 92] }, type := _, pos := _, after := _, guard := _ }) rfl (fun K9 hK9 => ?_) AllReadyH.nil
          go_simp
          go_at_call 71
          refine (layWord_any _ N9 p4 c9 (x + f) hth).mono ?_
          rintro e w4 ⟨rfl, rfl⟩
          go_wp2_with fail
          refine hK9.out _ _ hcf1 (fun _ => ?_)
          clear hK9 K9
          (try simp only [Act.put, List.setIfInBounds_toArray, List.set_cons_zero, List.set_cons_succ])
          refine wpAnyH_done (by kernel_rfl) ?_ _
          refine NoPanic.normal ?_
          go_wp2
          go_roundw
          case rel => exact ⟨r + 1, by omega, by rw [unhide HRR], unhide HO1, unhide HF1, unhide HR1, unhide HG1⟩
          case measure =>
            have := unhide HRR
            simp [intOf]; omega
        · obtain rfl : r = 16 := by omega
          rw [show ((16 : Nat) : Int) = 16 from rfl]
          rw [List.take_of_length_le (by rw [unhide HBL]; exact Nat.le_refl _), show 64 - 4 * 16 = 0 from rfl, List.replicate_zero, List.append_nil, unhide HFIN] at hO
          have hz64 : (((blockL k n c).map bv).toArray).size = 64 := by simp [blockL_length]
          have HZ64 := hide hz64
          clear hz64
          go_wp2_with (first | (refine wpList_load_row rfl 97 _ rfl N9 rfl _ _ _ _ hO Tryd.underlying97 rfl ?_ ?_; (rw [unhide HZ64]; exact hi64)) | (refine wpList_store_row rfl 97 _ _ rfl (w.heap.size + 2) _ rfl rfl _ _ hR ?_ ?_ ?_ ?_; (rw [unhide HZ64]; exact hi64); (rw [unhide HZ64]; rfl); (exact all_oneCell_toArray (bv_one _))))
          have hS := hR.row ((blockL k n c).map bv)
          have hG : w.grownBy (wr.setRow (w.heap.size + 2) ((blockL k n c).map bv).toArray) none := gb_row hg _ (Or.inl (by omega))
          refine bodyPost_ret (v := .agg ((blockL k n c).map bv).toArray) (results_cell_row (g := w.heap.size + 2) rfl _ _ _ _ _ _ ?_ hS Tryd.underlying97 rfl ?_) rfl ⟨rfl, hG⟩
          · rfl
          · rw [unhide HZ64]; exact hi64

end Go.Proofs.YtjckdgapefaokaaDoor
