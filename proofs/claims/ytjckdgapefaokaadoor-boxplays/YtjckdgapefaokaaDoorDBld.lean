/- What the library's Builder answers: Write lays bytes behind those that it holds, String tells all of them (by the shelf's contracts of copyCheck and String, imported; Write is walked: the shelf has no contract of it for bytes that are nil). A builder in a block of the call's own; of at most 2 to the 46 bytes. -/
import Derived.Test.YtjckdgapefaokaaDoorKEqual
import Derived.Test.YtjckdgapefaokaaDoorMLst
import Derived.Test.YtjckdgapefaokaaDoorMStr
import Derived.Shelf.Strings.Builder1
namespace Go.Proofs.YtjckdgapefaokaaDoor
open Go.RowKit Go.Shelf

/-- This program's numbers, in the places of the shelf's. -/
def bldR : Ren :=
  ⟨fun n => if n = 240 then 39 else if n = 276 then 54 else if n = 169 then 25 else n,
   fun n => if n = 37 then 22 else if n = 70 then 66 else if n = 72 then 68 else if n = 127 then 95 else if n = 164 then 110 else n,
   fun n => n⟩

theorem bld240 : Lays.n240 Tryd.prog bldR := by constructor <;> (intros; kernel_rfl)
theorem bld169 : Lays.n169 Tryd.prog bldR := by constructor <;> (intros; kernel_rfl)
theorem bld72 : Builder.X72 Tryd.prog bldR := by constructor <;> (intros; kernel_rfl)
theorem bldE : Builder.Extra Tryd.prog bldR :=
  { toX72 := bld72, t5 := by kernel_rfl, a5 := fun _ => by kernel_rfl, z5 := fun _ => by kernel_rfl, v5 := fun _ => by kernel_rfl, infoByte := by kernel_rfl, cellsByte := by kernel_rfl, sizeByte := by kernel_rfl, neB5 := by decide }

theorem copyCheck_any (B b : Nat) (bs : List Value) (w : World) (h : Lib.IsBuilder 68 5 B b bs w) :
    Calls Tryd.prog 39 #[.pointer (some ⟨b, 0, none⟩)] w fun e w' => e = .returned (.tuple #[]) ∧ (Lib.BuilderAt 68 5 B b (.pointer (some ⟨b, 0, none⟩)) bs w' ∧ Below B w w') :=
  Any.Builder_copyCheck bld240 bld72 B b bs w h

theorem own_slice {V : World} {base n : Nat} {v : Value} {xs : List Value} (h : V.ownsRow base 5 1 v n xs) : ∃ ao m c, v = .slice ao m c := by
  rcases h.2 with ⟨e, _⟩ | ⟨_, _, _, e, _⟩ <;> exact ⟨_, _, _, e⟩

set_option maxRecDepth 100000 in
/-- Bytes, wherever they lie, or none, are laid behind those that a builder holds. -/
theorem bwrite_any (w : World) (B b : Nat) (l x : List UInt8) (ao : Option Addr) (c : Nat) (h : Lib.IsBuilder 68 5 B b (l.map bv) w) (hx : ∀ a, Below B w a → Bts a ao c x) (hlen : l.length + x.length ≤ 70368744177664) (hBw : B ≤ w.heap.size) :
    Calls Tryd.prog 24 #[.pointer (some ⟨b, 0, none⟩), .slice ao x.length c] w fun e w' => e = .returned (.tuple #[.int .i64 x.length, .nilIface]) ∧ (Lib.BuilderAt 68 5 B b (.pointer (some ⟨b, 0, none⟩)) ((l ++ x).map bv) w' ∧ Below B w w') := by
  have hcheck := copyCheck_any B b (l.map bv) w h
  clear h
  go_enter Tryd.func24, Tryd.ntmps24
  go_wp2_with (go_at_call 39; refine hcheck.mono ?_)
  rintro e w1 ⟨rfl, ⟨hB, v, hblk, hown, hne⟩, g1⟩
  clear hcheck
  have hb1 : Blk w1 b 68 [.pointer (some ⟨b, 0, none⟩), v] := hblk
  have hbuf : w1.cell? ⟨b, 1, none⟩ = some v := hb1.cell 1
  have hx1 := hx w1 g1
  have hs1 := Nat.le_trans hBw g1.size
  have hll : (l.map bv).length + x.length ≤ 140737488355328 := by rw [List.length_map]; omega
  have HLL := hide hll
  clear hll hblk
  go_wp2_with (at_builtin; refine wpList_append_bts rfl _ _ rfl B _ _ _ rfl hown ao c x hx1 rfl (unhide HLL) hs1 ?_)
  intro v' w2 hown2 g2
  have hb2 := hb1.kept g2 (fun e => hne e.symm)
  have hbuf2 : w2.cell? ⟨b, 1, none⟩ = some v := hb2.cell 1
  have hfz2 := hb2.fz 1
  have hw2 : Below B w w2 := g1.grown g2 hs1 (fun k hk => (hown.lt k hk).1)
  have hput : Lib.BuilderAt 68 5 B b (.pointer (some ⟨b, 0, none⟩)) ((l ++ x).map bv) (w2.setCell ⟨b, 1, none⟩ v') :=
    Lib.BuilderAt.put hB hb2 (by rw [List.map_append, List.length_append]; simpa using hown2) (by decide)
  have HPUT := hide hput
  obtain ⟨bo, bn, bc, rfl⟩ := own_slice hown2
  clear hput hb1 hb2 hown hown2
  go_wp2
  go_ret2
  exact ⟨rfl, unhide HPUT, hw2.setCell (p := ⟨b, 1, none⟩) hB _⟩

/-- What a builder holds, told. -/
theorem bstring_any (B b : Nat) (l : List UInt8) (w : World) (h : Lib.IsBuilder 68 5 B b (l.map bv) w) (hBw : B ≤ w.heap.size) :
    Calls Tryd.prog 25 #[.pointer (some ⟨b, 0, none⟩)] w fun e w' => e = .returned (.string (str l)) ∧ Below B w w' :=
  Any.Builder_String_any bld169 bldE B b l w h hBw

end Go.Proofs.YtjckdgapefaokaaDoor
