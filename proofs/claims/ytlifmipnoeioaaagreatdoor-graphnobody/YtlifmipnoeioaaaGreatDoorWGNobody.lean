/- The walk of GraphNobody. -/
import Derived.Test.YtlifmipnoeioaaaGreatDoorGNob
namespace Go.Proofs.YtlifmipnoeioaaaGreatDoor
open Go.RowKit

/-- What a set that nobody made answers, in whatever memory that grew out of X. -/
structure NobC (X : World) (po : Option Addr) (KB ZB : List Value) : Prop where
  put : ∀ V, X.grownBy V none → Calls Tryz.prog 32 #[.pointer po, .agg #[.int .i64 1, .slice none 0 0]] V fun e w' => e = .returned (.tuple #[.agg ZB.toArray, .int .i64 1]) ∧ X.grownBy w' none
  get : ∀ V, X.grownBy V none → Calls Tryz.prog 14 #[.pointer po, .agg KB.toArray] V fun e w' => e = .returned (.tuple #[.agg #[.int .i64 0, .slice none 0 0], .int .i64 1]) ∧ X.grownBy w' none
  reach : ∀ V p, X.grownBy V none → Blk V p 33 KB → Calls Tryz.prog 22 #[.pointer po, .slice (some ⟨p, 0, none⟩) 1 1] V fun e w' => ∃ a1 c1 a2 c2, e = .returned (.tuple #[.slice a1 0 c1, .slice a2 1 c2]) ∧ X.grownBy w' none
  drop : ∀ V, X.grownBy V none → Calls Tryz.prog 12 #[.pointer po, .agg KB.toArray] V fun e w' => e = .returned (.int .i64 1) ∧ X.grownBy w' none
  has : ∀ V, X.grownBy V none → Calls Tryz.prog 13 #[.pointer po, .agg KB.toArray] V fun e w' => e = .returned (.bool false) ∧ X.grownBy w' none
  ids : ∀ V, X.grownBy V none → Calls Tryz.prog 19 #[.pointer po] V fun e w' => ∃ ao c, e = .returned (.slice ao 0 c) ∧ X.grownBy w' none
  clone : ∀ V, X.grownBy V none → Calls Tryz.prog 10 #[.pointer po] V fun e w' => e = .returned (.pointer none) ∧ X.grownBy w' none
  log : ∀ V, X.grownBy V none → Calls Tryz.prog 28 #[.pointer po, .agg KB.toArray] V fun e w' => ∃ ao c, e = .returned (.slice ao 0 c) ∧ X.grownBy w' none
  beyond : ∀ V p, X.grownBy V none → Blk V p 33 KB → Calls Tryz.prog 24 #[.pointer po, .slice (some ⟨p, 0, none⟩) 1 1, .slice none 0 0] V fun e w' => ∃ ao c, e = .returned (.slice ao 0 c) ∧ X.grownBy w' none
theorem nobC_of {X : World} {po : Option Addr} (h : NoSet X po) (x : List UInt8) (hx : x.length = 32) : NobC X po (x.map bv) (zero32.map bv) where
  put V g := (gput_no V po (h.none g) 1 (.slice none 0 0)).mono fun e w' ⟨h1, h2⟩ => ⟨h1, tn g h2⟩
  get V g := (nob_get V po (h.none g) x hx).mono fun e w' ⟨h1, h2⟩ => ⟨h1, tn g h2⟩
  reach V p g hB := (nob_reach V po (h.none g) p x hx hB).mono fun e w' ⟨a1, c1, a2, c2, h1, h2⟩ => ⟨a1, c1, a2, c2, h1, tn g h2⟩
  drop V g := (gdrop_no V po (h.none g) x hx).mono fun e w' ⟨h1, h2⟩ => ⟨h1, tn g h2⟩
  has V g := (nob_has V po (h.none g) x hx).mono fun e w' ⟨h1, h2⟩ => ⟨h1, tn g h2⟩
  ids V g := (nob_ids V po (h.none g)).mono fun e w' ⟨a, c, h1, h2⟩ => ⟨a, c, h1, tn g h2⟩
  clone V g := (gclone_no V po (h.none g)).mono fun e w' ⟨h1, h2⟩ => ⟨h1, by rw [h2]; exact g⟩
  log V g := (nob_log V po (h.none g) x hx).mono fun e w' ⟨a, c, h1, h2⟩ => ⟨a, c, h1, tn g h2⟩
  beyond V p g hB := (nob_beyond V po (h.none g) p x hx hB).mono fun e w' ⟨a, c, h1, h2⟩ => ⟨a, c, h1, tn g h2⟩

theorem wpList_build1g {P : Program} {w w' : World} {ops : Array Oper} {rest : List Oper} {o : Oper} {a : Act} {Q : Exit → Act → World → Prop} (hw : Region.wanted o (yielded ops a.tmps) = true) (t : TypeId) (x : Operand) (ho : o.op = .buildSlice t 1 #[(0, x)])
    (X s : Value) (hx : a.eval x = X) (hr : (Instr.buildSlice t 1 #[(0, X)]).run P w = .ok s w') (h : wpList P ops Q rest (a.put o.dst s) w') : wpList P ops Q (o :: rest) a w :=
  wpList_want hw fun _ hK => by
    unfold Oper.wp execOp
    simp only [ho, Sem.run_bind, List.map_toArray, List.map_cons, List.map_nil, hx, hr, Result.andThen_ok]
    exact hK _ _ h
theorem built_obj0 (k : Int) : Tryz.prog.built 42 [(0, .int .i64 k)] = some #[.int .i64 k, .slice none 0 0] := by kernel_rfl
theorem built_set0 : Tryz.prog.built 78 [] = some #[.map none] := by kernel_rfl

set_option maxRecDepth 100000 in
set_option maxHeartbeats 8000000 in
theorem walk_nobody (w : World) (hT : Tabs w) (x : List UInt8) (hx : x.length = 32) : Calls Tryz.prog 8 #[keyV x] w fun e w' => e = .returned (.bool true) ∧ w.grownBy w' none := by
  obtain ⟨KB, hKB⟩ : ∃ KB, KB = x.map bv := ⟨_, rfl⟩
  obtain ⟨ZB, hZB⟩ : ∃ ZB, ZB = zero32.map bv := ⟨_, rfl⟩
  have hKl : KB.length = 32 := by rw [hKB]; simp [hx]
  have hZl : ZB.length = 32 := by rw [hZB]; rfl
  have hkv : keyV x = .agg KB.toArray := by rw [hKB]; rfl
  obtain ⟨Z, hZ, hzv⟩ := zero_id
  have hzo := zero_obj
  have hbo := built_obj0
  have hbs0 := built_set0
  obtain ⟨W0, hW0, hB0, g0⟩ := box_new w 33 KB
  have hiK : (Tryz.prog.info? 33).map (·.size) = some KB.length := by rw [hKl]; exact info_id
  have hiZ2 : (Tryz.prog.info? 33).map (·.size) = some ZB.toArray.size := by simpa [hZl] using info_id
  have hZo : ZB.toArray.all (·.oneCell') = true := by rw [hZB]; exact all_oneCell_toArray (bv_one _)
  have hZZ : Z.toList.toArray.size = ZB.toArray.size := by simp [hZ, hZl]
  have hbs : ∀ V : World, (Instr.buildSlice 29 1 #[(0, .agg KB.toArray)]).run Tryz.prog V = .ok (.slice (some ⟨V.heap.size, 0, none⟩) 1 1) (V.alloc (.cells KB.toArray 33)) := fun V => by rw [hKB]; exact bs_id x hx V
  have hno : ∀ X po, NoSet X po → NobC X po KB ZB := fun X po h => by rw [hKB, hZB]; exact nobC_of h x hx
  rw [hkv]
  have HW0 := hide hW0
  have HB0 := hide hB0
  have HG0 := hide g0
  have HIK := hide hiK
  have HIZ2 := hide hiZ2
  have HZO := hide hZo
  have HZZ := hide hZZ
  have HBS := hide hbs
  have HNO := hide hno
  have HTB := hide hT
  clear hKB hZB hKl hZl hkv hZ hW0 hB0 g0 hiK hiZ2 hZo hZZ hbs hno hT
  go_enter Tryz.func8, Tryz.ntmps8
  go_wp2_with (rw [← unhide HW0])
  go_loopw [3] (fun i wr => ∃ j : Nat, i = .int .i64 j ∧ j ≤ 2 ∧ Hid (W0.grownBy wr none)) (fun i _ => 2 - (intOf i).toNat)
  case atStart => exact ⟨0, rfl, by omega, gb_refl _ _⟩
  case round =>
    obtain ⟨j, rfl, hj, HS⟩ := hrel
    rcases (by omega : j = 0 ∨ j = 1 ∨ j = 2) with rfl | rfl | rfl
    · obtain ⟨X, hX, hBX, gX⟩ : ∃ X, X = wr.alloc (.cells #[.map none] 78) ∧ Blk X wr.heap.size 78 [.map none] ∧ wr.grownBy X none := box_new wr _ _
      have hC := unhide HNO X _ (noSet_plain hBX)
      have hR := blk_all ((unhide HB0).kept (tn (unhide HS) gX) (by simp))
      have HX := hide hX
      have HC := hide hC
      have HR := hide hR
      have HGX := hide (tn (unhide HS) gX)
      clear hX hBX gX hC hR HS
      go_upto_region 7 with (rw [← unhide HX])
      go_wp2_with fail
      refine ((unhide HC).put _ (gb_refl _ _)).mono ?_
      rintro e w2 ⟨rfl, g2⟩
      obtain ⟨W3, hW3, hB3, g3⟩ := row_new w2 33 Z ZB
      have hBZ : Blk (w2.alloc (.cells Z 33)) w2.heap.size 33 Z.toList := by simpa using Blk.new w2 33 Z.toList
      have HG3 := hide (tn g2 g3)
      have hR3 := range_kept (unhide HR) (unhide HG3) (by simp)
      have HW3 := hide hW3
      have HBZ := hide hBZ
      clear hW3 hBZ hB3 g3 g2
      go_wp2_with (first
        | (have hB9 := unhide HBZ; refine wpList_store_row rfl 33 _ _ rfl w2.heap.size ZB.toArray rfl rfl _ _ hB9 (unhide HIZ2) (unhide HZZ) (unhide HZO) ?_; clear hB9; rw [← unhide HW3])
        | (refine wpList_load_mid rfl 33 _ rfl w.heap.size 0 rfl KB _ hR3 Tryz.underlying33 rfl (unhide HIK) ?_; clear hR3))
      refine ((unhide HC).get _ (unhide HG3)).mono ?_
      rintro e w4 ⟨rfl, g4⟩
      obtain ⟨W5, hW5, hB5, g5⟩ : ∃ W, W = (w4.alloc (.cells #[.int .i64 0, .slice none 0 0] 42)).setRow w4.heap.size #[.int .i64 0, .slice none 0 0] ∧ Blk W w4.heap.size 42 [.int .i64 0, .slice none 0 0] ∧ w4.grownBy W none := row_new w4 42 #[.int .i64 0, .slice none 0 0] [.int .i64 0, .slice none 0 0]
      have hBO : Blk (w4.alloc (.cells #[.int .i64 0, .slice none 0 0] 42)) w4.heap.size 42 [.int .i64 0, .slice none 0 0] := Blk.new w4 42 [.int .i64 0, .slice none 0 0]
      have HG5 := hide (tn g4 g5)
      obtain ⟨W6, hW6, hB6, g6⟩ := box_new W5 33 KB
      have HB5 : Hid ((Instr.buildSlice 29 1 #[(0, .agg KB.toArray)]).run Tryz.prog W5 = .ok (.slice (some ⟨W5.heap.size, 0, none⟩) 1 1) W6) := by rw [hW6]; exact unhide HBS W5
      have hR5 := range_kept (unhide HR) (unhide HG5) (by simp)
      have HG6 := hide (tn (unhide HG5) g6)
      have HB6 := hide hB6
      have HW5 := hide hW5
      have HBO := hide hBO
      clear hW5 hBO hB5 g5 g4 hW6 hB6 g6 HBZ HW3 HG3
      go_wp2_with (first
        | (have hB9 := unhide HBO; refine wpList_store_row rfl 42 _ _ rfl w4.heap.size #[.int .i64 0, .slice none 0 0] rfl rfl _ _ hB9 info_obj rfl (obj_one rfl) ?_; clear hB9; rw [← unhide HW5])
        | (refine wpList_load_mid rfl 33 _ rfl w.heap.size 0 rfl KB _ hR5 Tryz.underlying33 rfl (unhide HIK) ?_; clear hR5)
        | (refine wpList_build1 rfl 29 _ rfl (.agg KB.toArray) _ rfl (unhide HB5) ?_))
      refine ((unhide HC).reach _ _ (unhide HG6) (unhide HB6)).mono ?_
      rintro e w7 ⟨a1, c1, a2, c2, rfl, g7⟩
      have hR7 := range_kept (unhide HR) g7 (by simp)
      have HR7 := hide hR7
      have HG7 := hide g7
      clear hR7 g7 HB5 HG6 HB6 HW5 HBO HG5
      go_upto_region 10 with fail
      have g7 := unhide HG7
      refine region_named fun O hO => ?_
      refine wpList_val (by rw [hO]; kernel_rfl) (.int .i64 (1)) (fun K9 hK9 => by go_simp; exact hK9) ?_
      (try simp only [Act.put, pq1, pq2, pq3])
      refine wpList_val (by rw [hO]; kernel_rfl) (.bool false) (fun K9 hK9 => by go_simp; exact hK9) ?_
      (try simp only [Act.put, pq1, pq2, pq3])
      refine wpList_val (by rw [hO]; kernel_rfl) (.bool false) (fun K9 hK9 => by go_simp; exact hK9) ?_
      (try simp only [Act.put, pq1, pq2, pq3])
      refine wpList_val (by rw [hO]; kernel_rfl) (.int .i64 (1)) (fun K9 hK9 => by go_simp; exact hK9) ?_
      (try simp only [Act.put, pq1, pq2, pq3])
      refine wpList_val (by rw [hO]; kernel_rfl) (.bool false) (fun K9 hK9 => by go_simp; exact hK9) ?_
      (try simp only [Act.put, pq1, pq2, pq3])
      refine wpList_val (by rw [hO]; kernel_rfl) (.bool false) (fun K9 hK9 => by go_simp; exact hK9) ?_
      (try simp only [Act.put, pq1, pq2, pq3])
      refine wpList_val (by rw [hO]; kernel_rfl) (.bool false) (fun K9 hK9 => by go_simp; exact hK9) ?_
      (try simp only [Act.put, pq1, pq2, pq3])
      refine wpList_val (by rw [hO]; kernel_rfl) (.pointer (some ⟨wr.heap.size, 0, none⟩)) (fun K9 hK9 => by go_simp; exact hK9) ?_
      (try simp only [Act.put, pq1, pq2, pq3])
      refine wpList_val (by rw [hO]; kernel_rfl) (.agg KB.toArray) (fun K9 hK9 => wp_load_mid 33 _ rfl w.heap.size 0 rfl KB _ (range_kept (unhide HR) g7 (by simp)) Tryz.underlying33 rfl (unhide HIK) hK9) ?_
      (try simp only [Act.put, pq1, pq2, pq3])
      refine wpList_want (by rw [hO]; kernel_rfl) fun K9 hK9 => ?_
      go_simp
      go_at_call 12
      refine ((unhide HC).drop _ g7).mono ?_
      rintro e wd ⟨rfl, gd⟩
      refine hK9 _ _ ?_
      clear hK9 K9
      (try simp only [Act.put, pq1, pq2, pq3])
      refine wpList_val (by rw [hO]; kernel_rfl) (.bool false) (fun K9 hK9 => by go_simp; exact hK9) ?_
      (try simp only [Act.put, pq1, pq2, pq3])
      refine wpList_val (by rw [hO]; kernel_rfl) (.bool false) (fun K9 hK9 => by go_simp; exact hK9) ?_
      (try simp only [Act.put, pq1, pq2, pq3])
      refine wpList_val (by rw [hO]; kernel_rfl) (.bool false) (fun K9 hK9 => by go_simp; exact hK9) ?_
      (try simp only [Act.put, pq1, pq2, pq3])
      refine wpList_val (by rw [hO]; kernel_rfl) (.pointer (some ⟨wr.heap.size, 0, none⟩)) (fun K9 hK9 => by go_simp; exact hK9) ?_
      (try simp only [Act.put, pq1, pq2, pq3])
      refine wpList_val (by rw [hO]; kernel_rfl) (.agg KB.toArray) (fun K9 hK9 => wp_load_mid 33 _ rfl w.heap.size 0 rfl KB _ (range_kept (unhide HR) gd (by simp)) Tryz.underlying33 rfl (unhide HIK) hK9) ?_
      (try simp only [Act.put, pq1, pq2, pq3])
      refine wpList_want (by rw [hO]; kernel_rfl) fun K9 hK9 => ?_
      go_simp
      go_at_call 13
      refine ((unhide HC).has _ gd).mono ?_
      rintro e wh ⟨rfl, gh⟩
      refine hK9 _ _ ?_
      clear hK9 K9
      (try simp only [Act.put, pq1, pq2, pq3])
      refine wpList_val (by rw [hO]; kernel_rfl) (.bool false) (fun K9 hK9 => by go_simp; exact hK9) ?_
      (try simp only [Act.put, pq1, pq2, pq3])
      refine wpList_val (by rw [hO]; kernel_rfl) (.bool false) (fun K9 hK9 => by go_simp; exact hK9) ?_
      (try simp only [Act.put, pq1, pq2, pq3])
      refine wpList_val (by rw [hO]; kernel_rfl) (.pointer (some ⟨wr.heap.size, 0, none⟩)) (fun K9 hK9 => by go_simp; exact hK9) ?_
      (try simp only [Act.put, pq1, pq2, pq3])
      refine wpList_want (by rw [hO]; kernel_rfl) fun K9 hK9 => ?_
      go_simp
      go_at_call 19
      refine ((unhide HC).ids _ gh).mono ?_
      rintro e wi ⟨ai, ci, rfl, gi⟩
      refine hK9 _ _ ?_
      clear hK9 K9
      (try simp only [Act.put, pq1, pq2, pq3])
      refine wpList_val (by rw [hO]; kernel_rfl) (.int .i64 (0)) (fun K9 hK9 => by go_simp; exact hK9) ?_
      (try simp only [Act.put, pq1, pq2, pq3])
      refine wpList_val (by rw [hO]; kernel_rfl) (.slice a1 0 c1) (fun K9 hK9 => by go_simp; exact hK9) ?_
      (try simp only [Act.put, pq1, pq2, pq3])
      refine wpList_val (by rw [hO]; kernel_rfl) (.int .i64 (0)) (fun K9 hK9 => by go_simp; exact hK9) ?_
      (try simp only [Act.put, pq1, pq2, pq3])
      refine wpList_val (by rw [hO]; kernel_rfl) (.int .i64 (0)) (fun K9 hK9 => by go_simp; exact hK9) ?_
      (try simp only [Act.put, pq1, pq2, pq3])
      refine wpList_val (by rw [hO]; kernel_rfl) (.bool false) (fun K9 hK9 => by go_simp; exact hK9) ?_
      (try simp only [Act.put, pq1, pq2, pq3])
      refine wpList_val (by rw [hO]; kernel_rfl) (.bool false) (fun K9 hK9 => by go_simp; exact hK9) ?_
      (try simp only [Act.put, pq1, pq2, pq3])
      refine wpList_val (by rw [hO]; kernel_rfl) (.bool false) (fun K9 hK9 => by go_simp; exact hK9) ?_
      (try simp only [Act.put, pq1, pq2, pq3])
      refine wpList_val (by rw [hO]; kernel_rfl) (.slice a2 1 c2) (fun K9 hK9 => by go_simp; exact hK9) ?_
      (try simp only [Act.put, pq1, pq2, pq3])
      refine wpList_val (by rw [hO]; kernel_rfl) (.int .i64 (1)) (fun K9 hK9 => by go_simp; exact hK9) ?_
      (try simp only [Act.put, pq1, pq2, pq3])
      refine wpList_val (by rw [hO]; kernel_rfl) (.bool false) (fun K9 hK9 => by go_simp; exact hK9) ?_
      (try simp only [Act.put, pq1, pq2, pq3])
      refine wpList_val (by rw [hO]; kernel_rfl) (.bool false) (fun K9 hK9 => by go_simp; exact hK9) ?_
      (try simp only [Act.put, pq1, pq2, pq3])
      refine wpList_val (by rw [hO]; kernel_rfl) (.bool false) (fun K9 hK9 => by go_simp; exact hK9) ?_
      (try simp only [Act.put, pq1, pq2, pq3])
      refine wpList_val (by rw [hO]; kernel_rfl) (.pointer (some ⟨wr.heap.size, 0, none⟩)) (fun K9 hK9 => by go_simp; exact hK9) ?_
      (try simp only [Act.put, pq1, pq2, pq3])
      refine wpList_want (by rw [hO]; kernel_rfl) fun K9 hK9 => ?_
      go_simp
      go_at_call 10
      refine ((unhide HC).clone _ gi).mono ?_
      rintro e wc ⟨rfl, gc⟩
      refine hK9 _ _ ?_
      clear hK9 K9
      (try simp only [Act.put, pq1, pq2, pq3])
      refine wpList_val (by rw [hO]; kernel_rfl) (.bool false) (fun K9 hK9 => by go_simp; exact hK9) ?_
      (try simp only [Act.put, pq1, pq2, pq3])
      refine wpList_val (by rw [hO]; kernel_rfl) (.bool false) (fun K9 hK9 => by go_simp; exact hK9) ?_
      (try simp only [Act.put, pq1, pq2, pq3])
      refine wpList_val (by rw [hO]; kernel_rfl) (.bool false) (fun K9 hK9 => by go_simp; exact hK9) ?_
      (try simp only [Act.put, pq1, pq2, pq3])
      refine wpList_val (by rw [hO]; kernel_rfl) (.pointer (some ⟨wr.heap.size, 0, none⟩)) (fun K9 hK9 => by go_simp; exact hK9) ?_
      (try simp only [Act.put, pq1, pq2, pq3])
      refine wpList_val (by rw [hO]; kernel_rfl) (.agg KB.toArray) (fun K9 hK9 => wp_load_mid 33 _ rfl w.heap.size 0 rfl KB _ (range_kept (unhide HR) gc (by simp)) Tryz.underlying33 rfl (unhide HIK) hK9) ?_
      (try simp only [Act.put, pq1, pq2, pq3])
      refine wpList_want (by rw [hO]; kernel_rfl) fun K9 hK9 => ?_
      go_simp
      go_at_call 28
      refine ((unhide HC).log _ gc).mono ?_
      rintro e wl ⟨al, cl, rfl, gl⟩
      refine hK9 _ _ ?_
      clear hK9 K9
      (try simp only [Act.put, pq1, pq2, pq3])
      refine wpList_val (by rw [hO]; kernel_rfl) (.int .i64 (0)) (fun K9 hK9 => by go_simp; exact hK9) ?_
      (try simp only [Act.put, pq1, pq2, pq3])
      refine wpList_val (by rw [hO]; kernel_rfl) (.bool false) (fun K9 hK9 => by go_simp; exact hK9) ?_
      (try simp only [Act.put, pq1, pq2, pq3])
      refine wpList_val (by rw [hO]; kernel_rfl) (.bool false) (fun K9 hK9 => by go_simp; exact hK9) ?_
      (try simp only [Act.put, pq1, pq2, pq3])
      refine wpList_val (by rw [hO]; kernel_rfl) (.bool false) (fun K9 hK9 => by go_simp; exact hK9) ?_
      (try simp only [Act.put, pq1, pq2, pq3])
      refine wpList_val (by rw [hO]; kernel_rfl) (.pointer (some ⟨wr.heap.size, 0, none⟩)) (fun K9 hK9 => by go_simp; exact hK9) ?_
      (try simp only [Act.put, pq1, pq2, pq3])
      refine wpList_val (by rw [hO]; kernel_rfl) (.agg KB.toArray) (fun K9 hK9 => wp_load_mid 33 _ rfl w.heap.size 0 rfl KB _ (range_kept (unhide HR) gl (by simp)) Tryz.underlying33 rfl (unhide HIK) hK9) ?_
      (try simp only [Act.put, pq1, pq2, pq3])
      obtain ⟨wb, hwb, hEb, gba⟩ := box_new wl 33 KB
      have hbs9 := unhide HBS wl
      rw [← hwb] at hbs9
      have gb := tn gl gba
      clear hwb gba
      refine wpList_build1g (by rw [hO]; kernel_rfl) 29 _ rfl (.agg KB.toArray) _ rfl hbs9 ?_
      clear hbs9
      (try simp only [Act.put, pq1, pq2, pq3])
      refine wpList_want (by rw [hO]; kernel_rfl) fun K9 hK9 => ?_
      go_simp
      go_at_call 24
      refine ((unhide HC).beyond _ _ gb hEb).mono ?_
      rintro e wy ⟨ay, cy, rfl, gy⟩
      refine hK9 _ _ ?_
      clear hK9 K9
      (try simp only [Act.put, pq1, pq2, pq3])
      refine wpList_val (by rw [hO]; kernel_rfl) (.int .i64 (0)) (fun K9 hK9 => by go_simp; exact hK9) ?_
      (try simp only [Act.put, pq1, pq2, pq3])
      refine wpList_val (by rw [hO]; kernel_rfl) (.bool false) (fun K9 hK9 => by go_simp; exact hK9) ?_
      (try simp only [Act.put, pq1, pq2, pq3])
      refine wpList_val (by rw [hO]; kernel_rfl) (.bool false) (fun K9 hK9 => by go_simp; exact hK9) ?_
      (try simp only [Act.put, pq1, pq2, pq3])
      go_wp2
      go_roundw
      case rel => exact ⟨1, by go_num, by omega, tn (unhide HGX) gy⟩
      case measure => simp [intOf]
    · obtain ⟨X, hX, hBX, gX⟩ : ∃ X, X = wr.alloc (.cells #[.map none] 78) ∧ Blk X wr.heap.size 78 [.map none] ∧ wr.grownBy X none := box_new wr _ _
      have hC := unhide HNO X none (noSet_nil X)
      have hR := blk_all ((unhide HB0).kept (tn (unhide HS) gX) (by simp))
      have HX := hide hX
      have HC := hide hC
      have HR := hide hR
      have HGX := hide (tn (unhide HS) gX)
      clear hX hBX gX hC hR HS
      go_upto_region 7 with (rw [← unhide HX])
      go_wp2_with fail
      refine ((unhide HC).put _ (gb_refl _ _)).mono ?_
      rintro e w2 ⟨rfl, g2⟩
      obtain ⟨W3, hW3, hB3, g3⟩ := row_new w2 33 Z ZB
      have hBZ : Blk (w2.alloc (.cells Z 33)) w2.heap.size 33 Z.toList := by simpa using Blk.new w2 33 Z.toList
      have HG3 := hide (tn g2 g3)
      have hR3 := range_kept (unhide HR) (unhide HG3) (by simp)
      have HW3 := hide hW3
      have HBZ := hide hBZ
      clear hW3 hBZ hB3 g3 g2
      go_wp2_with (first
        | (have hB9 := unhide HBZ; refine wpList_store_row rfl 33 _ _ rfl w2.heap.size ZB.toArray rfl rfl _ _ hB9 (unhide HIZ2) (unhide HZZ) (unhide HZO) ?_; clear hB9; rw [← unhide HW3])
        | (refine wpList_load_mid rfl 33 _ rfl w.heap.size 0 rfl KB _ hR3 Tryz.underlying33 rfl (unhide HIK) ?_; clear hR3))
      refine ((unhide HC).get _ (unhide HG3)).mono ?_
      rintro e w4 ⟨rfl, g4⟩
      obtain ⟨W5, hW5, hB5, g5⟩ : ∃ W, W = (w4.alloc (.cells #[.int .i64 0, .slice none 0 0] 42)).setRow w4.heap.size #[.int .i64 0, .slice none 0 0] ∧ Blk W w4.heap.size 42 [.int .i64 0, .slice none 0 0] ∧ w4.grownBy W none := row_new w4 42 #[.int .i64 0, .slice none 0 0] [.int .i64 0, .slice none 0 0]
      have hBO : Blk (w4.alloc (.cells #[.int .i64 0, .slice none 0 0] 42)) w4.heap.size 42 [.int .i64 0, .slice none 0 0] := Blk.new w4 42 [.int .i64 0, .slice none 0 0]
      have HG5 := hide (tn g4 g5)
      obtain ⟨W6, hW6, hB6, g6⟩ := box_new W5 33 KB
      have HB5 : Hid ((Instr.buildSlice 29 1 #[(0, .agg KB.toArray)]).run Tryz.prog W5 = .ok (.slice (some ⟨W5.heap.size, 0, none⟩) 1 1) W6) := by rw [hW6]; exact unhide HBS W5
      have hR5 := range_kept (unhide HR) (unhide HG5) (by simp)
      have HG6 := hide (tn (unhide HG5) g6)
      have HB6 := hide hB6
      have HW5 := hide hW5
      have HBO := hide hBO
      clear hW5 hBO hB5 g5 g4 hW6 hB6 g6 HBZ HW3 HG3
      go_wp2_with (first
        | (have hB9 := unhide HBO; refine wpList_store_row rfl 42 _ _ rfl w4.heap.size #[.int .i64 0, .slice none 0 0] rfl rfl _ _ hB9 info_obj rfl (obj_one rfl) ?_; clear hB9; rw [← unhide HW5])
        | (refine wpList_load_mid rfl 33 _ rfl w.heap.size 0 rfl KB _ hR5 Tryz.underlying33 rfl (unhide HIK) ?_; clear hR5)
        | (refine wpList_build1 rfl 29 _ rfl (.agg KB.toArray) _ rfl (unhide HB5) ?_))
      refine ((unhide HC).reach _ _ (unhide HG6) (unhide HB6)).mono ?_
      rintro e w7 ⟨a1, c1, a2, c2, rfl, g7⟩
      have hR7 := range_kept (unhide HR) g7 (by simp)
      have HR7 := hide hR7
      have HG7 := hide g7
      clear hR7 g7 HB5 HG6 HB6 HW5 HBO HG5
      go_upto_region 10 with fail
      have g7 := unhide HG7
      refine region_named fun O hO => ?_
      refine wpList_val (by rw [hO]; kernel_rfl) (.int .i64 (1)) (fun K9 hK9 => by go_simp; exact hK9) ?_
      (try simp only [Act.put, pq1, pq2, pq3])
      refine wpList_val (by rw [hO]; kernel_rfl) (.bool false) (fun K9 hK9 => by go_simp; exact hK9) ?_
      (try simp only [Act.put, pq1, pq2, pq3])
      refine wpList_val (by rw [hO]; kernel_rfl) (.bool false) (fun K9 hK9 => by go_simp; exact hK9) ?_
      (try simp only [Act.put, pq1, pq2, pq3])
      refine wpList_val (by rw [hO]; kernel_rfl) (.int .i64 (1)) (fun K9 hK9 => by go_simp; exact hK9) ?_
      (try simp only [Act.put, pq1, pq2, pq3])
      refine wpList_val (by rw [hO]; kernel_rfl) (.bool false) (fun K9 hK9 => by go_simp; exact hK9) ?_
      (try simp only [Act.put, pq1, pq2, pq3])
      refine wpList_val (by rw [hO]; kernel_rfl) (.bool false) (fun K9 hK9 => by go_simp; exact hK9) ?_
      (try simp only [Act.put, pq1, pq2, pq3])
      refine wpList_val (by rw [hO]; kernel_rfl) (.bool false) (fun K9 hK9 => by go_simp; exact hK9) ?_
      (try simp only [Act.put, pq1, pq2, pq3])
      refine wpList_val (by rw [hO]; kernel_rfl) (.pointer none) (fun K9 hK9 => by go_simp; exact hK9) ?_
      (try simp only [Act.put, pq1, pq2, pq3])
      refine wpList_val (by rw [hO]; kernel_rfl) (.agg KB.toArray) (fun K9 hK9 => wp_load_mid 33 _ rfl w.heap.size 0 rfl KB _ (range_kept (unhide HR) g7 (by simp)) Tryz.underlying33 rfl (unhide HIK) hK9) ?_
      (try simp only [Act.put, pq1, pq2, pq3])
      refine wpList_want (by rw [hO]; kernel_rfl) fun K9 hK9 => ?_
      go_simp
      go_at_call 12
      refine ((unhide HC).drop _ g7).mono ?_
      rintro e wd ⟨rfl, gd⟩
      refine hK9 _ _ ?_
      clear hK9 K9
      (try simp only [Act.put, pq1, pq2, pq3])
      refine wpList_val (by rw [hO]; kernel_rfl) (.bool false) (fun K9 hK9 => by go_simp; exact hK9) ?_
      (try simp only [Act.put, pq1, pq2, pq3])
      refine wpList_val (by rw [hO]; kernel_rfl) (.bool false) (fun K9 hK9 => by go_simp; exact hK9) ?_
      (try simp only [Act.put, pq1, pq2, pq3])
      refine wpList_val (by rw [hO]; kernel_rfl) (.bool false) (fun K9 hK9 => by go_simp; exact hK9) ?_
      (try simp only [Act.put, pq1, pq2, pq3])
      refine wpList_val (by rw [hO]; kernel_rfl) (.pointer none) (fun K9 hK9 => by go_simp; exact hK9) ?_
      (try simp only [Act.put, pq1, pq2, pq3])
      refine wpList_val (by rw [hO]; kernel_rfl) (.agg KB.toArray) (fun K9 hK9 => wp_load_mid 33 _ rfl w.heap.size 0 rfl KB _ (range_kept (unhide HR) gd (by simp)) Tryz.underlying33 rfl (unhide HIK) hK9) ?_
      (try simp only [Act.put, pq1, pq2, pq3])
      refine wpList_want (by rw [hO]; kernel_rfl) fun K9 hK9 => ?_
      go_simp
      go_at_call 13
      refine ((unhide HC).has _ gd).mono ?_
      rintro e wh ⟨rfl, gh⟩
      refine hK9 _ _ ?_
      clear hK9 K9
      (try simp only [Act.put, pq1, pq2, pq3])
      refine wpList_val (by rw [hO]; kernel_rfl) (.bool false) (fun K9 hK9 => by go_simp; exact hK9) ?_
      (try simp only [Act.put, pq1, pq2, pq3])
      refine wpList_val (by rw [hO]; kernel_rfl) (.bool false) (fun K9 hK9 => by go_simp; exact hK9) ?_
      (try simp only [Act.put, pq1, pq2, pq3])
      refine wpList_val (by rw [hO]; kernel_rfl) (.pointer none) (fun K9 hK9 => by go_simp; exact hK9) ?_
      (try simp only [Act.put, pq1, pq2, pq3])
      refine wpList_want (by rw [hO]; kernel_rfl) fun K9 hK9 => ?_
      go_simp
      go_at_call 19
      refine ((unhide HC).ids _ gh).mono ?_
      rintro e wi ⟨ai, ci, rfl, gi⟩
      refine hK9 _ _ ?_
      clear hK9 K9
      (try simp only [Act.put, pq1, pq2, pq3])
      refine wpList_val (by rw [hO]; kernel_rfl) (.int .i64 (0)) (fun K9 hK9 => by go_simp; exact hK9) ?_
      (try simp only [Act.put, pq1, pq2, pq3])
      refine wpList_val (by rw [hO]; kernel_rfl) (.slice a1 0 c1) (fun K9 hK9 => by go_simp; exact hK9) ?_
      (try simp only [Act.put, pq1, pq2, pq3])
      refine wpList_val (by rw [hO]; kernel_rfl) (.int .i64 (0)) (fun K9 hK9 => by go_simp; exact hK9) ?_
      (try simp only [Act.put, pq1, pq2, pq3])
      refine wpList_val (by rw [hO]; kernel_rfl) (.int .i64 (0)) (fun K9 hK9 => by go_simp; exact hK9) ?_
      (try simp only [Act.put, pq1, pq2, pq3])
      refine wpList_val (by rw [hO]; kernel_rfl) (.bool false) (fun K9 hK9 => by go_simp; exact hK9) ?_
      (try simp only [Act.put, pq1, pq2, pq3])
      refine wpList_val (by rw [hO]; kernel_rfl) (.bool false) (fun K9 hK9 => by go_simp; exact hK9) ?_
      (try simp only [Act.put, pq1, pq2, pq3])
      refine wpList_val (by rw [hO]; kernel_rfl) (.bool false) (fun K9 hK9 => by go_simp; exact hK9) ?_
      (try simp only [Act.put, pq1, pq2, pq3])
      refine wpList_val (by rw [hO]; kernel_rfl) (.slice a2 1 c2) (fun K9 hK9 => by go_simp; exact hK9) ?_
      (try simp only [Act.put, pq1, pq2, pq3])
      refine wpList_val (by rw [hO]; kernel_rfl) (.int .i64 (1)) (fun K9 hK9 => by go_simp; exact hK9) ?_
      (try simp only [Act.put, pq1, pq2, pq3])
      refine wpList_val (by rw [hO]; kernel_rfl) (.bool false) (fun K9 hK9 => by go_simp; exact hK9) ?_
      (try simp only [Act.put, pq1, pq2, pq3])
      refine wpList_val (by rw [hO]; kernel_rfl) (.bool false) (fun K9 hK9 => by go_simp; exact hK9) ?_
      (try simp only [Act.put, pq1, pq2, pq3])
      refine wpList_val (by rw [hO]; kernel_rfl) (.bool false) (fun K9 hK9 => by go_simp; exact hK9) ?_
      (try simp only [Act.put, pq1, pq2, pq3])
      refine wpList_val (by rw [hO]; kernel_rfl) (.pointer none) (fun K9 hK9 => by go_simp; exact hK9) ?_
      (try simp only [Act.put, pq1, pq2, pq3])
      refine wpList_want (by rw [hO]; kernel_rfl) fun K9 hK9 => ?_
      go_simp
      go_at_call 10
      refine ((unhide HC).clone _ gi).mono ?_
      rintro e wc ⟨rfl, gc⟩
      refine hK9 _ _ ?_
      clear hK9 K9
      (try simp only [Act.put, pq1, pq2, pq3])
      refine wpList_val (by rw [hO]; kernel_rfl) (.bool false) (fun K9 hK9 => by go_simp; exact hK9) ?_
      (try simp only [Act.put, pq1, pq2, pq3])
      refine wpList_val (by rw [hO]; kernel_rfl) (.bool false) (fun K9 hK9 => by go_simp; exact hK9) ?_
      (try simp only [Act.put, pq1, pq2, pq3])
      refine wpList_val (by rw [hO]; kernel_rfl) (.bool false) (fun K9 hK9 => by go_simp; exact hK9) ?_
      (try simp only [Act.put, pq1, pq2, pq3])
      refine wpList_val (by rw [hO]; kernel_rfl) (.pointer none) (fun K9 hK9 => by go_simp; exact hK9) ?_
      (try simp only [Act.put, pq1, pq2, pq3])
      refine wpList_val (by rw [hO]; kernel_rfl) (.agg KB.toArray) (fun K9 hK9 => wp_load_mid 33 _ rfl w.heap.size 0 rfl KB _ (range_kept (unhide HR) gc (by simp)) Tryz.underlying33 rfl (unhide HIK) hK9) ?_
      (try simp only [Act.put, pq1, pq2, pq3])
      refine wpList_want (by rw [hO]; kernel_rfl) fun K9 hK9 => ?_
      go_simp
      go_at_call 28
      refine ((unhide HC).log _ gc).mono ?_
      rintro e wl ⟨al, cl, rfl, gl⟩
      refine hK9 _ _ ?_
      clear hK9 K9
      (try simp only [Act.put, pq1, pq2, pq3])
      refine wpList_val (by rw [hO]; kernel_rfl) (.int .i64 (0)) (fun K9 hK9 => by go_simp; exact hK9) ?_
      (try simp only [Act.put, pq1, pq2, pq3])
      refine wpList_val (by rw [hO]; kernel_rfl) (.bool false) (fun K9 hK9 => by go_simp; exact hK9) ?_
      (try simp only [Act.put, pq1, pq2, pq3])
      refine wpList_val (by rw [hO]; kernel_rfl) (.bool false) (fun K9 hK9 => by go_simp; exact hK9) ?_
      (try simp only [Act.put, pq1, pq2, pq3])
      refine wpList_val (by rw [hO]; kernel_rfl) (.bool false) (fun K9 hK9 => by go_simp; exact hK9) ?_
      (try simp only [Act.put, pq1, pq2, pq3])
      refine wpList_val (by rw [hO]; kernel_rfl) (.pointer none) (fun K9 hK9 => by go_simp; exact hK9) ?_
      (try simp only [Act.put, pq1, pq2, pq3])
      refine wpList_val (by rw [hO]; kernel_rfl) (.agg KB.toArray) (fun K9 hK9 => wp_load_mid 33 _ rfl w.heap.size 0 rfl KB _ (range_kept (unhide HR) gl (by simp)) Tryz.underlying33 rfl (unhide HIK) hK9) ?_
      (try simp only [Act.put, pq1, pq2, pq3])
      obtain ⟨wb, hwb, hEb, gba⟩ := box_new wl 33 KB
      have hbs9 := unhide HBS wl
      rw [← hwb] at hbs9
      have gb := tn gl gba
      clear hwb gba
      refine wpList_build1g (by rw [hO]; kernel_rfl) 29 _ rfl (.agg KB.toArray) _ rfl hbs9 ?_
      clear hbs9
      (try simp only [Act.put, pq1, pq2, pq3])
      refine wpList_want (by rw [hO]; kernel_rfl) fun K9 hK9 => ?_
      go_simp
      go_at_call 24
      refine ((unhide HC).beyond _ _ gb hEb).mono ?_
      rintro e wy ⟨ay, cy, rfl, gy⟩
      refine hK9 _ _ ?_
      clear hK9 K9
      (try simp only [Act.put, pq1, pq2, pq3])
      refine wpList_val (by rw [hO]; kernel_rfl) (.int .i64 (0)) (fun K9 hK9 => by go_simp; exact hK9) ?_
      (try simp only [Act.put, pq1, pq2, pq3])
      refine wpList_val (by rw [hO]; kernel_rfl) (.bool false) (fun K9 hK9 => by go_simp; exact hK9) ?_
      (try simp only [Act.put, pq1, pq2, pq3])
      refine wpList_val (by rw [hO]; kernel_rfl) (.bool false) (fun K9 hK9 => by go_simp; exact hK9) ?_
      (try simp only [Act.put, pq1, pq2, pq3])
      go_wp2
      go_roundw
      case rel => exact ⟨2, by go_num, by omega, tn (unhide HGX) gy⟩
      case measure => simp [intOf]
    · have c1 := gone_any wr ((unhide HTB).kept0 (tn (unhide HG0) (unhide HS)))
      go_wp2_with fail
      refine c1.mono ?_
      rintro e w9 ⟨rfl, g9⟩
      clear c1
      go_wp2
      go_ret
      exact ⟨rfl, tn (tn (unhide HG0) (unhide HS)) g9⟩

theorem walkR_nobody (w : World) (x : List UInt8) (hx : x.length = 32) (hT : Tabs w) : Calls Tryz.prog 8 #[.agg (x.map bv).toArray] w fun e w' => e = .returned (.bool true) ∧ w.grownBy w' none :=
  walk_nobody w hT x hx

end Go.Proofs.YtlifmipnoeioaaaGreatDoor
