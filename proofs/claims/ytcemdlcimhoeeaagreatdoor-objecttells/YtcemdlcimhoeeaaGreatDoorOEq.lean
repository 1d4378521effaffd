/- The law package's one answers true: a blob that is known. No condition. -/
import Derived.Test.YtcemdlcimhoeeaaGreatDoorOPut
import Derived.Lib.SlBytesConst
import Derived.Test.YtcemdlcimhoeeaaGreatDoorREq
import Derived.Test.YtcemdlcimhoeeaaGreatDoorMNeq
namespace Go.Proofs.YtcemdlcimhoeeaaGreatDoor
open Go.RowKit

theorem put_ab : putL 1 [97, 98] = [1, 0, 0, 0, 2, 97, 98] := by decide
theorem rd_ab : rdL [1, 0, 0, 0, 2, 97, 98] = (0, 1, [97, 98]) := by decide

set_option maxRecDepth 100000 in
set_option maxHeartbeats 2000000 in
theorem oone_any (w : World) : Calls Tryz.prog 5 #[] w fun e w' => e = .returned (.bool true) ∧ w.grownBy w' none := by
  have hW1 : ∃ W1, W1 = w.alloc (.cells #[.int .u8 97, .int .u8 98] 5 (2, 3)) ∧ Bts W1 (some ⟨w.heap.size, 0, none⟩) 2 [97, 98] ∧ w.grownBy W1 none := by
    refine ⟨_, rfl, ⟨(fun e => by cases e), by decide, by decide, (fun ad e _ => by cases e; rfl), (fun ad e i hi => ?_)⟩, gb_alloc (gb_refl _ _) _⟩
    cases e
    have hh := heap_alloc_new w (.cells #[.int .u8 97, .int .u8 98] 5 (2, 3))
    match i, hi with
    | 0, _ => unfold World.cell?; rw [hh]; rfl
    | 1, _ => unfold World.cell?; rw [hh]; rfl
  have kc := fun (w : World) (C : Array Value) (n c : Nat) => Lib.run_convert_bytes_const (P := Tryz.prog) w 22 5 C n c Tryz.underlying22 Tryz.underlying5
  obtain ⟨W1, hW1, hb1, g1⟩ := hW1
  have cp := oput_any W1 1 _ 2 [97, 98] hb1 (by decide)
  rw [put_ab] at cp
  have HW1 := hide hW1
  have kc1 := kc w #[.int .u8 97, .int .u8 98] 2 2
  clear hW1 hb1 kc
  go_enter Tryz.func5, Tryz.ntmps5
  go_wp2_with (rw [← unhide HW1])
  refine cp.mono ?_
  rintro e w2 ⟨v2, rfl, ⟨a2, c2, rfl, hb2, _⟩, g2⟩
  have cr := oread_any w2 a2 c2 _ hb2 (by decide)
  rw [rd_ab] at cr
  have cv2 := conv_str hb2
  have G2 := tn g1 g2
  clear cp kc1
  go_wp2_with fail
  refine cr.mono ?_
  rintro e w3 ⟨v3, y, kk, rfl, hy, hkk, ⟨a3, c3, rfl, hb3, _⟩, g3⟩
  have hy0 : y = 0 := hy
  have hk1 : kk = 1 := hkk
  clear hy hkk
  subst hy0 hk1
  have hb2' := hb2.kept g3 (fun _ e => by cases e)
  obtain ⟨W4, hW4, hB4, g4⟩ : ∃ W1, W1 = w3.alloc (.cells #[.int .i64 1, .slice a3 2 c3] 24) ∧ Blk W1 w3.heap.size 24 [.int .i64 1, .slice a3 2 c3] ∧ w3.grownBy W1 none := box_new w3 _ _
  have cv4 := conv_str (hb2'.kept g4 (fun _ e => by cases e))
  have cv5 := conv_str (hb3.kept g4 (fun _ e => by cases e))
  rw [show str [1, 0, 0, 0, 2, 97, 98] = ⟨#[1, 0, 0, 0, 2, 97, 98]⟩ from rfl] at cv4
  rw [show str [97, 98] = ⟨#[97, 98]⟩ from rfl] at cv5
  simp only [List.length_cons, List.length_nil, Nat.zero_add, Nat.reduceAdd] at cv4 cv5
  have c0 := hB4.cell 0
  have c1 := hB4.cell 1
  simp only [List.getElem?_cons_zero, List.getElem?_cons_succ] at c0 c1
  have G4 := tn (tn G2 g3) g4
  have HW4 := hide hW4
  clear cr cv2 hb2 hb2' hb3 hB4 hW4 g4 g3 g2 g1 G2
  go_wp2_with (rw [← unhide HW4])
  go_ret
  exact ⟨rfl, G4⟩

end Go.Proofs.YtcemdlcimhoeeaaGreatDoor

/- Two entries, or two notes, held against each other: the program's own. Of names of 32 bytes. -/
namespace Go.Proofs.YtcemdlcimhoeeaaGreatDoor
open Go.RowKit

theorem pn0 (w : World) (e : EntL) : (part 9 (enC e).toArray 0).run Tryz.prog w = .ok (.string (str e.name)) w := by kernel_rfl
theorem pn1 (w : World) (e : EntL) : (part 4 (enC e).toArray 1).run Tryz.prog w = .ok (.bool e.dir) w := by kernel_rfl
theorem pn2 (w : World) (e : EntL) (h : e.id.length = 32) : (part 38 (enC e).toArray 2).run Tryz.prog w = .ok (.agg (e.id.map bv).toArray) w := by
  obtain ⟨name, dir, id⟩ := e
  simp only at h
  obtain ⟨a0, a1, a2, a3, a4, a5, a6, a7, a8, a9, a10, a11, a12, a13, a14, a15, a16, a17, a18, a19, a20, a21, a22, a23, a24, a25, a26, a27, a28, a29, a30, a31, rfl⟩ := list32 id h
  kernel_rfl
theorem pm0 (w : World) (m : MrkL) (h : m.target.length = 32) : (part 38 (mkC m).toArray 0).run Tryz.prog w = .ok (.agg (m.target.map bv).toArray) w := by
  obtain ⟨target, name, text⟩ := m
  simp only at h
  obtain ⟨a0, a1, a2, a3, a4, a5, a6, a7, a8, a9, a10, a11, a12, a13, a14, a15, a16, a17, a18, a19, a20, a21, a22, a23, a24, a25, a26, a27, a28, a29, a30, a31, rfl⟩ := list32 target h
  kernel_rfl
theorem pm1 (w : World) (m : MrkL) (h : m.target.length = 32) : (part 9 (mkC m).toArray 32).run Tryz.prog w = .ok (.string (str m.name)) w := by
  obtain ⟨target, name, text⟩ := m
  simp only at h
  obtain ⟨a0, a1, a2, a3, a4, a5, a6, a7, a8, a9, a10, a11, a12, a13, a14, a15, a16, a17, a18, a19, a20, a21, a22, a23, a24, a25, a26, a27, a28, a29, a30, a31, rfl⟩ := list32 target h
  kernel_rfl
theorem pm2 (w : World) (m : MrkL) (h : m.target.length = 32) : (part 9 (mkC m).toArray 33).run Tryz.prog w = .ok (.string (str m.text)) w := by
  obtain ⟨target, name, text⟩ := m
  simp only at h
  obtain ⟨a0, a1, a2, a3, a4, a5, a6, a7, a8, a9, a10, a11, a12, a13, a14, a15, a16, a17, a18, a19, a20, a21, a22, a23, a24, a25, a26, a27, a28, a29, a30, a31, rfl⟩ := list32 target h
  kernel_rfl
theorem fields_ent : Tryz.prog.underlying 97 = some (.struct (Tryz.prog.fieldsOf 97)) := by kernel_rfl
theorem held_ent : Tryz.prog.stoodInHeld 97 = false := by kernel_rfl
theorem guard_ent : Tryz.prog.eqGuardType Tryz.prog.depth 97 = false := by kernel_rfl
theorem fields_mrk : Tryz.prog.underlying 51 = some (.struct (Tryz.prog.fieldsOf 51)) := by kernel_rfl
theorem held_mrk : Tryz.prog.stoodInHeld 51 = false := by kernel_rfl
theorem guard_mrk : Tryz.prog.eqGuardType Tryz.prog.depth 51 = false := by kernel_rfl
theorem ent_fields : ∃ f0 f1 f2 : Field, (Tryz.prog.fieldsOf 97).toList = [f0, f1, f2] ∧ ((f0.name == "_") = false ∧ f0.type = 9 ∧ f0.offset = 0) ∧ ((f1.name == "_") = false ∧ f1.type = 4 ∧ f1.offset = 1) ∧ ((f2.name == "_") = false ∧ f2.type = 38 ∧ f2.offset = 2) := by
  refine ⟨_, _, _, by rw [Program.fieldsOf, Tryz.underlying97], ⟨by decide, rfl, rfl⟩, ⟨by decide, rfl, rfl⟩, ⟨by decide, rfl, rfl⟩⟩
theorem mrk_fields : ∃ f0 f1 f2 : Field, (Tryz.prog.fieldsOf 51).toList = [f0, f1, f2] ∧ ((f0.name == "_") = false ∧ f0.type = 38 ∧ f0.offset = 0) ∧ ((f1.name == "_") = false ∧ f1.type = 9 ∧ f1.offset = 32) ∧ ((f2.name == "_") = false ∧ f2.type = 9 ∧ f2.offset = 33) := by
  refine ⟨_, _, _, by rw [Program.fieldsOf, Tryz.underlying51], ⟨by decide, rfl, rfl⟩, ⟨by decide, rfl, rfl⟩, ⟨by decide, rfl, rfl⟩⟩

theorem eq_id (w : World) (xs : List UInt8) (hx : xs.length = 32) : (Op.equalIn 9999 38 (.agg (xs.map bv).toArray) (.agg (xs.map bv).toArray)).run Tryz.prog w = .ok true w := by
  have h : (Op.equalIn 9999 38 (.agg (xs.map bv).toArray) (.agg (xs.map bv).toArray)).run Tryz.prog w = .ok (xs == xs) w := run_equalIn_bytes w 9997 38 5 32 Tryz.underlying38 Tryz.underlying5 size_byte xs xs hx hx
  rw [h]; simp
theorem eq_strg (w : World) (s : ByteArray) : (Op.equalIn 9999 9 (.string s) (.string s)).run Tryz.prog w = .ok true w := by
  rw [run_equalIn_string w 9998 _ _ _ Tryz.underlying9]; simp
theorem eq_booll (w : World) (b : Bool) : (Op.equalIn 9999 4 (.bool b) (.bool b)).run Tryz.prog w = .ok true w := by cases b <;> kernel_rfl

theorem neq_ent (w : World) (e : EntL) (h : e.id.length = 32) : (binOp .neq 97 (.agg (enC e).toArray) (.agg (enC e).toArray)).run Tryz.prog w = .ok (.bool false) w := by
  obtain ⟨f0, f1, f2, hf, ⟨n0, t0, o0⟩, ⟨n1, t1, o1⟩, ⟨n2, t2, o2⟩⟩ := ent_fields
  rw [run_neq_struct, run_equalIn_struct w 9999 _ _ _ fields_ent held_ent, hf,
    eq_one w 9999 _ _ f0 [f1, f2] _ _ _ n0 (by rw [t0, o0]; exact pn0 w e) (by rw [t0, o0]; exact pn0 w e) (by rw [t0]; exact eq_strg w _), if_pos rfl,
    eq_one w 9999 _ _ f1 [f2] _ _ _ n1 (by rw [t1, o1]; exact pn1 w e) (by rw [t1, o1]; exact pn1 w e) (by rw [t1]; exact eq_booll w _), if_pos rfl,
    eq_one w 9999 _ _ f2 [] _ _ _ n2 (by rw [t2, o2]; exact pn2 w e h) (by rw [t2, o2]; exact pn2 w e h) (by rw [t2]; exact eq_id w _ h), if_pos rfl]
  rfl
theorem neq_mrk (w : World) (m : MrkL) (h : m.target.length = 32) : (binOp .neq 51 (.agg (mkC m).toArray) (.agg (mkC m).toArray)).run Tryz.prog w = .ok (.bool false) w := by
  obtain ⟨f0, f1, f2, hf, ⟨n0, t0, o0⟩, ⟨n1, t1, o1⟩, ⟨n2, t2, o2⟩⟩ := mrk_fields
  rw [run_neq_struct, run_equalIn_struct w 9999 _ _ _ fields_mrk held_mrk, hf,
    eq_one w 9999 _ _ f0 [f1, f2] _ _ _ n0 (by rw [t0, o0]; exact pm0 w m h) (by rw [t0, o0]; exact pm0 w m h) (by rw [t0]; exact eq_id w _ h), if_pos rfl,
    eq_one w 9999 _ _ f1 [f2] _ _ _ n1 (by rw [t1, o1]; exact pm1 w m h) (by rw [t1, o1]; exact pm1 w m h) (by rw [t1]; exact eq_strg w _), if_pos rfl,
    eq_one w 9999 _ _ f2 [] _ _ _ n2 (by rw [t2, o2]; exact pm2 w m h) (by rw [t2, o2]; exact pm2 w m h) (by rw [t2]; exact eq_strg w _), if_pos rfl]
  rfl

end Go.Proofs.YtcemdlcimhoeeaaGreatDoor
