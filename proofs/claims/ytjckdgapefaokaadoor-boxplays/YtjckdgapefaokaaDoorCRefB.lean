/- What the document's answer for layer 4 (package coffretref04) reckons of four bytes of a string (word). Of a string that has them. -/
import Derived.Test.YtjckdgapefaokaaDoorCRef
import Derived.Test.YtjckdgapefaokaaDoorMStr
import Derived.Deep.RegionHeld3
import Derived.Deep.DrawnRows
import Derived.Test.YtjckdgapefaokaaDoorCKn
namespace Go.Proofs.YtjckdgapefaokaaDoor
open Go.RowKit

set_option maxRecDepth 100000 in
set_option maxHeartbeats 2000000 in
theorem rword_any (w : World) (l : List UInt8) (i : Nat) (hi : 4 * i + 3 < l.length) (hl : l.length ≤ 1000) :
    Calls Tryd.prog 83 #[.string (str l), .int .i64 (i : Int)] w fun e w' => e = .returned (.int .u32 (wz (leAt l i))) ∧ w.grownBy w' none := by
  have hn : ∀ j p, j < 4 → p = 4 * i + j → ∃ n : Nat, n < 256 ∧ n = (l.getD (4 * i + j) 0).toNat ∧ (0 : Int) ≤ (p : Int) ∧ (p : Int) < ((str l).size : Int) ∧ (∀ h, ((str l)[p]'h).toNat = n) := by
    intro j p hj hp
    subst hp
    have hq : 4 * i + j < l.length := by omega
    refine ⟨_, (l.getD (4 * i + j) 0).toNat_lt, rfl, by omega, by rw [str_size]; omega, fun h => ?_⟩
    have e : (str l)[4 * i + j]'h = l[4 * i + j] := rfl
    rw [e]
    first | (simp [List.getD, hq]; done) | (simp [List.getD, hq]; rfl)
  obtain ⟨p0, hp0⟩ : ∃ p : Nat, p = 4 * i := ⟨_, rfl⟩
  obtain ⟨p1, hp1⟩ : ∃ p : Nat, p = 4 * i + 1 := ⟨_, rfl⟩
  obtain ⟨p2, hp2⟩ : ∃ p : Nat, p = 4 * i + 2 := ⟨_, rfl⟩
  obtain ⟨p3, hp3⟩ : ∃ p : Nat, p = 4 * i + 3 := ⟨_, rfl⟩
  obtain ⟨n0, hn0, e0, la0, lb0, hi0⟩ := hn 0 p0 (by omega) (by omega)
  obtain ⟨n1, hn1, e1, la1, lb1, hi1⟩ := hn 1 p1 (by omega) (by omega)
  obtain ⟨n2, hn2, e2, la2, lb2, hi2⟩ := hn 2 p2 (by omega) (by omega)
  obtain ⟨n3, hn3, e3, la3, lb3, hi3⟩ := hn 3 p3 (by omega) (by omega)
  rw [Nat.add_zero] at e0
  clear hn
  have hw0 : IntKind.i64.wrap (p0 : Int) = (p0 : Int) := by rw [IntKind.wrap_i64]; omega
  have hm0 : 4 * (i : Int) = (p0 : Int) := by omega
  have hw1 : IntKind.i64.wrap ((p0 : Int) + 1) = (p1 : Int) := by rw [IntKind.wrap_i64]; omega
  have hw2 : IntKind.i64.wrap ((p0 : Int) + 2) = (p2 : Int) := by rw [IntKind.wrap_i64]; omega
  have hw3 : IntKind.i64.wrap ((p0 : Int) + 3) = (p3 : Int) := by rw [IntKind.wrap_i64]; omega
  have hx : (n0 : Int) + (n1 : Int) * 256 + (n2 : Int) * 65536 + (n3 : Int) * 16777216 = wz (leAt l i) := by
    unfold leAt
    rw [wz_leOf, ← e0, ← e1, ← e2, ← e3]
    omega
  have c0 : IntKind.u32.wrap (n0 : Int) = (n0 : Int) := by rw [IntKind.wrap_u32]; omega
  have c1 : IntKind.u32.wrap (n1 : Int) = (n1 : Int) := by rw [IntKind.wrap_u32]; omega
  have c2 : IntKind.u32.wrap (n2 : Int) = (n2 : Int) := by rw [IntKind.wrap_u32]; omega
  have c3 : IntKind.u32.wrap (n3 : Int) = (n3 : Int) := by rw [IntKind.wrap_u32]; omega
  have s1 : IntKind.u32.wrap ((n1 : Int) * 256) = (n1 : Int) * 256 := by rw [IntKind.wrap_u32]; omega
  have s2 : IntKind.u32.wrap ((n2 : Int) * 65536) = (n2 : Int) * 65536 := by rw [IntKind.wrap_u32]; omega
  have s3 : IntKind.u32.wrap ((n3 : Int) * 16777216) = (n3 : Int) * 16777216 := by rw [IntKind.wrap_u32]; omega
  have a1 : IntKind.u32.wrap ((n0 : Int) + (n1 : Int) * 256) = (n0 : Int) + (n1 : Int) * 256 := by rw [IntKind.wrap_u32]; omega
  have a2 : IntKind.u32.wrap ((n0 : Int) + (n1 : Int) * 256 + (n2 : Int) * 65536) = (n0 : Int) + (n1 : Int) * 256 + (n2 : Int) * 65536 := by rw [IntKind.wrap_u32]; omega
  have a3 : IntKind.u32.wrap ((n0 : Int) + (n1 : Int) * 256 + (n2 : Int) * 65536 + (n3 : Int) * 16777216) = (n0 : Int) + (n1 : Int) * 256 + (n2 : Int) * 65536 + (n3 : Int) * 16777216 := by rw [IntKind.wrap_u32]; omega
  have HX := hide hx
  clear hx e0 e1 e2 e3 hp0 hp1 hp2 hp3 hi hl
  go_enter Tryd.func83, Tryd.ntmps83
  go_wp2
  refine wp_region_held_drew (S := fun V => True) (by kernel_rfl) trivial (fun _ => ?_)
  refine wpAnyH_take (i := 0) (oi := { dst := some 5, op := Op.move (Operand.tmp 0), type := _, pos := _, after := _, guard := _ }) (v := .string (str l)) rfl (by kernel_rfl) (by kernel_rfl) (by kernel_rfl) (fun _ _ _ h => h) (Or.inl ⟨by rfl, fun V (hV : True) => by go_simp⟩) trivial ?_
  (try simp only [Act.put, List.setIfInBounds_toArray, List.set_cons_zero, List.set_cons_succ])
  refine wpAnyH_take (i := 1) (oi := { dst := some 6, op := Op.move (Operand.tmp 1), type := _, pos := _, after := _, guard := _ }) (v := .int .i64 (i : Int)) rfl (by kernel_rfl) (by kernel_rfl) (by kernel_rfl) (fun _ _ _ h => h) (Or.inl ⟨by rfl, fun V (hV : True) => by go_simp⟩) trivial ?_
  (try simp only [Act.put, List.setIfInBounds_toArray, List.set_cons_zero, List.set_cons_succ])
  refine wpAnyH_take (i := 2) (oi := { dst := some 7, op := Op.binOp BinOp.mul 3 (Operand.const (Value.int IntKind.i64 4)) (Operand.tmp 6) 3, type := _, pos := _, after := _, guard := _ }) (v := .int .i64 (p0 : Int)) rfl (by kernel_rfl) (by kernel_rfl) (by kernel_rfl) (fun _ _ _ h => h) (Or.inl ⟨by rfl, fun V (hV : True) => by go_simp⟩) trivial ?_
  (try simp only [Act.put, List.setIfInBounds_toArray, List.set_cons_zero, List.set_cons_succ])
  refine wpAnyH_take (i := 3) (oi := { dst := some 8, op := Op.index 9 (Operand.tmp 5) (Operand.tmp 7), type := _, pos := _, after := _, guard := _ }) (v := .int .u8 (n0 : Int)) rfl (by kernel_rfl) (by kernel_rfl) (by kernel_rfl) (fun _ _ _ h => h) (Or.inl ⟨by rfl, fun V (hV : True) => by go_simp⟩) trivial ?_
  (try simp only [Act.put, List.setIfInBounds_toArray, List.set_cons_zero, List.set_cons_succ])
  refine wpAnyH_take (i := 4) (oi := { dst := some 9, op := Op.convert 5 92 (Operand.tmp 8), type := _, pos := _, after := _, guard := _ }) (v := .int .u32 (n0 : Int)) rfl (by kernel_rfl) (by kernel_rfl) (by kernel_rfl) (fun _ _ _ h => h) (Or.inl ⟨by rfl, fun V (hV : True) => by go_simp⟩) trivial ?_
  (try simp only [Act.put, List.setIfInBounds_toArray, List.set_cons_zero, List.set_cons_succ])
  refine wpAnyH_take (i := 5) (oi := { dst := some 10, op := Op.move (Operand.tmp 0), type := _, pos := _, after := _, guard := _ }) (v := .string (str l)) rfl (by kernel_rfl) (by kernel_rfl) (by kernel_rfl) (fun _ _ _ h => h) (Or.inl ⟨by rfl, fun V (hV : True) => by go_simp⟩) trivial ?_
  (try simp only [Act.put, List.setIfInBounds_toArray, List.set_cons_zero, List.set_cons_succ])
  refine wpAnyH_take (i := 6) (oi := { dst := some 11, op := Op.move (Operand.tmp 1), type := _, pos := _, after := _, guard := _ }) (v := .int .i64 (i : Int)) rfl (by kernel_rfl) (by kernel_rfl) (by kernel_rfl) (fun _ _ _ h => h) (Or.inl ⟨by rfl, fun V (hV : True) => by go_simp⟩) trivial ?_
  (try simp only [Act.put, List.setIfInBounds_toArray, List.set_cons_zero, List.set_cons_succ])
  refine wpAnyH_take (i := 7) (oi := { dst := some 12, op := Op.binOp BinOp.mul 3 (Operand.const (Value.int IntKind.i64 4)) (Operand.tmp 11) 3, type := _, pos := _, after := _, guard := _ }) (v := .int .i64 (p0 : Int)) rfl (by kernel_rfl) (by kernel_rfl) (by kernel_rfl) (fun _ _ _ h => h) (Or.inl ⟨by rfl, fun V (hV : True) => by go_simp⟩) trivial ?_
  (try simp only [Act.put, List.setIfInBounds_toArray, List.set_cons_zero, List.set_cons_succ])
  refine wpAnyH_take (i := 8) (oi := { dst := some 13, op := Op.binOp BinOp.add 3 (Operand.tmp 12) (Operand.const (Value.int IntKind.i64 1)) 3, type := _, pos := _, after := _, guard := _ }) (v := .int .i64 (p1 : Int)) rfl (by kernel_rfl) (by kernel_rfl) (by kernel_rfl) (fun _ _ _ h => h) (Or.inl ⟨by rfl, fun V (hV : True) => by go_simp⟩) trivial ?_
  (try simp only [Act.put, List.setIfInBounds_toArray, List.set_cons_zero, List.set_cons_succ])
  refine wpAnyH_take (i := 9) (oi := { dst := some 14, op := Op.index 9 (Operand.tmp 10) (Operand.tmp 13), type := _, pos := _, after := _, guard := _ }) (v := .int .u8 (n1 : Int)) rfl (by kernel_rfl) (by kernel_rfl) (by kernel_rfl) (fun _ _ _ h => h) (Or.inl ⟨by rfl, fun V (hV : True) => by go_simp⟩) trivial ?_
  (try simp only [Act.put, List.setIfInBounds_toArray, List.set_cons_zero, List.set_cons_succ])
  refine wpAnyH_take (i := 10) (oi := { dst := some 15, op := Op.convert 5 92 (Operand.tmp 14), type := _, pos := _, after := _, guard := _ }) (v := .int .u32 (n1 : Int)) rfl (by kernel_rfl) (by kernel_rfl) (by kernel_rfl) (fun _ _ _ h => h) (Or.inl ⟨by rfl, fun V (hV : True) => by go_simp⟩) trivial ?_
  (try simp only [Act.put, List.setIfInBounds_toArray, List.set_cons_zero, List.set_cons_succ])
  refine wpAnyH_take (i := 11) (oi := { dst := some 16, op := Op.binOp BinOp.shl 92 (Operand.tmp 15) (Operand.const (Value.int IntKind.u64 8)) 146, type := _, pos := _, after := _, guard := _ }) (v := .int .u32 ((n1 : Int) * 256)) rfl (by kernel_rfl) (by kernel_rfl) (by kernel_rfl) (fun _ _ _ h => h) (Or.inl ⟨by rfl, fun V (hV : True) => by go_simp⟩) trivial ?_
  (try simp only [Act.put, List.setIfInBounds_toArray, List.set_cons_zero, List.set_cons_succ])
  refine wpAnyH_take (i := 12) (oi := { dst := some 17, op := Op.binOp BinOp.add 92 (Operand.tmp 9) (Operand.tmp 16) 92, type := _, pos := _, after := _, guard := _ }) (v := .int .u32 ((n0 : Int) + (n1 : Int) * 256)) rfl (by kernel_rfl) (by kernel_rfl) (by kernel_rfl) (fun _ _ _ h => h) (Or.inl ⟨by rfl, fun V (hV : True) => by go_simp⟩) trivial ?_
  (try simp only [Act.put, List.setIfInBounds_toArray, List.set_cons_zero, List.set_cons_succ])
  refine wpAnyH_take (i := 13) (oi := { dst := some 18, op := Op.move (Operand.tmp 0), type := _, pos := _, after := _, guard := _ }) (v := .string (str l)) rfl (by kernel_rfl) (by kernel_rfl) (by kernel_rfl) (fun _ _ _ h => h) (Or.inl ⟨by rfl, fun V (hV : True) => by go_simp⟩) trivial ?_
  (try simp only [Act.put, List.setIfInBounds_toArray, List.set_cons_zero, List.set_cons_succ])
  refine wpAnyH_take (i := 14) (oi := { dst := some 19, op := Op.move (Operand.tmp 1), type := _, pos := _, after := _, guard := _ }) (v := .int .i64 (i : Int)) rfl (by kernel_rfl) (by kernel_rfl) (by kernel_rfl) (fun _ _ _ h => h) (Or.inl ⟨by rfl, fun V (hV : True) => by go_simp⟩) trivial ?_
  (try simp only [Act.put, List.setIfInBounds_toArray, List.set_cons_zero, List.set_cons_succ])
  refine wpAnyH_take (i := 15) (oi := { dst := some 20, op := Op.binOp BinOp.mul 3 (Operand.const (Value.int IntKind.i64 4)) (Operand.tmp 19) 3, type := _, pos := _, after := _, guard := _ }) (v := .int .i64 (p0 : Int)) rfl (by kernel_rfl) (by kernel_rfl) (by kernel_rfl) (fun _ _ _ h => h) (Or.inl ⟨by rfl, fun V (hV : True) => by go_simp⟩) trivial ?_
  (try simp only [Act.put, List.setIfInBounds_toArray, List.set_cons_zero, List.set_cons_succ])
  refine wpAnyH_take (i := 16) (oi := { dst := some 21, op := Op.binOp BinOp.add 3 (Operand.tmp 20) (Operand.const (Value.int IntKind.i64 2)) 3, type := _, pos := _, after := _, guard := _ }) (v := .int .i64 (p2 : Int)) rfl (by kernel_rfl) (by kernel_rfl) (by kernel_rfl) (fun _ _ _ h => h) (Or.inl ⟨by rfl, fun V (hV : True) => by go_simp⟩) trivial ?_
  (try simp only [Act.put, List.setIfInBounds_toArray, List.set_cons_zero, List.set_cons_succ])
  refine wpAnyH_take (i := 17) (oi := { dst := some 22, op := Op.index 9 (Operand.tmp 18) (Operand.tmp 21), type := _, pos := _, after := _, guard := _ }) (v := .int .u8 (n2 : Int)) rfl (by kernel_rfl) (by kernel_rfl) (by kernel_rfl) (fun _ _ _ h => h) (Or.inl ⟨by rfl, fun V (hV : True) => by go_simp⟩) trivial ?_
  (try simp only [Act.put, List.setIfInBounds_toArray, List.set_cons_zero, List.set_cons_succ])
  refine wpAnyH_take (i := 18) (oi := { dst := some 23, op := Op.convert 5 92 (Operand.tmp 22), type := _, pos := _, after := _, guard := _ }) (v := .int .u32 (n2 : Int)) rfl (by kernel_rfl) (by kernel_rfl) (by kernel_rfl) (fun _ _ _ h => h) (Or.inl ⟨by rfl, fun V (hV : True) => by go_simp⟩) trivial ?_
  (try simp only [Act.put, List.setIfInBounds_toArray, List.set_cons_zero, List.set_cons_succ])
  refine wpAnyH_take (i := 19) (oi := { dst := some 24, op := Op.binOp BinOp.shl 92 (Operand.tmp 23) (Operand.const (Value.int IntKind.u64 16)) 146, type := _, pos := _, after := _, guard := _ }) (v := .int .u32 ((n2 : Int) * 65536)) rfl (by kernel_rfl) (by kernel_rfl) (by kernel_rfl) (fun _ _ _ h => h) (Or.inl ⟨by rfl, fun V (hV : True) => by go_simp⟩) trivial ?_
  (try simp only [Act.put, List.setIfInBounds_toArray, List.set_cons_zero, List.set_cons_succ])
  refine wpAnyH_take (i := 20) (oi := { dst := some 25, op := Op.binOp BinOp.add 92 (Operand.tmp 17) (Operand.tmp 24) 92, type := _, pos := _, after := _, guard := _ }) (v := .int .u32 ((n0 : Int) + (n1 : Int) * 256 + (n2 : Int) * 65536)) rfl (by kernel_rfl) (by kernel_rfl) (by kernel_rfl) (fun _ _ _ h => h) (Or.inl ⟨by rfl, fun V (hV : True) => by go_simp⟩) trivial ?_
  (try simp only [Act.put, List.setIfInBounds_toArray, List.set_cons_zero, List.set_cons_succ])
  refine wpAnyH_take (i := 21) (oi := { dst := some 26, op := Op.move (Operand.tmp 0), type := _, pos := _, after := _, guard := _ }) (v := .string (str l)) rfl (by kernel_rfl) (by kernel_rfl) (by kernel_rfl) (fun _ _ _ h => h) (Or.inl ⟨by rfl, fun V (hV : True) => by go_simp⟩) trivial ?_
  (try simp only [Act.put, List.setIfInBounds_toArray, List.set_cons_zero, List.set_cons_succ])
  refine wpAnyH_take (i := 22) (oi := { dst := some 27, op := Op.move (Operand.tmp 1), type := _, pos := _, after := _, guard := _ }) (v := .int .i64 (i : Int)) rfl (by kernel_rfl) (by kernel_rfl) (by kernel_rfl) (fun _ _ _ h => h) (Or.inl ⟨by rfl, fun V (hV : True) => by go_simp⟩) trivial ?_
  (try simp only [Act.put, List.setIfInBounds_toArray, List.set_cons_zero, List.set_cons_succ])
  refine wpAnyH_take (i := 23) (oi := { dst := some 28, op := Op.binOp BinOp.mul 3 (Operand.const (Value.int IntKind.i64 4)) (Operand.tmp 27) 3, type := _, pos := _, after := _, guard := _ }) (v := .int .i64 (p0 : Int)) rfl (by kernel_rfl) (by kernel_rfl) (by kernel_rfl) (fun _ _ _ h => h) (Or.inl ⟨by rfl, fun V (hV : True) => by go_simp⟩) trivial ?_
  (try simp only [Act.put, List.setIfInBounds_toArray, List.set_cons_zero, List.set_cons_succ])
  refine wpAnyH_take (i := 24) (oi := { dst := some 29, op := Op.binOp BinOp.add 3 (Operand.tmp 28) (Operand.const (Value.int IntKind.i64 3)) 3, type := _, pos := _, after := _, guard := _ }) (v := .int .i64 (p3 : Int)) rfl (by kernel_rfl) (by kernel_rfl) (by kernel_rfl) (fun _ _ _ h => h) (Or.inl ⟨by rfl, fun V (hV : True) => by go_simp⟩) trivial ?_
  (try simp only [Act.put, List.setIfInBounds_toArray, List.set_cons_zero, List.set_cons_succ])
  refine wpAnyH_take (i := 25) (oi := { dst := some 30, op := Op.index 9 (Operand.tmp 26) (Operand.tmp 29), type := _, pos := _, after := _, guard := _ }) (v := .int .u8 (n3 : Int)) rfl (by kernel_rfl) (by kernel_rfl) (by kernel_rfl) (fun _ _ _ h => h) (Or.inl ⟨by rfl, fun V (hV : True) => by go_simp⟩) trivial ?_
  (try simp only [Act.put, List.setIfInBounds_toArray, List.set_cons_zero, List.set_cons_succ])
  refine wpAnyH_take (i := 26) (oi := { dst := some 31, op := Op.convert 5 92 (Operand.tmp 30), type := _, pos := _, after := _, guard := _ }) (v := .int .u32 (n3 : Int)) rfl (by kernel_rfl) (by kernel_rfl) (by kernel_rfl) (fun _ _ _ h => h) (Or.inl ⟨by rfl, fun V (hV : True) => by go_simp⟩) trivial ?_
  (try simp only [Act.put, List.setIfInBounds_toArray, List.set_cons_zero, List.set_cons_succ])
  refine wpAnyH_take (i := 27) (oi := { dst := some 32, op := Op.binOp BinOp.shl 92 (Operand.tmp 31) (Operand.const (Value.int IntKind.u64 24)) 146, type := _, pos := _, after := _, guard := _ }) (v := .int .u32 ((n3 : Int) * 16777216)) rfl (by kernel_rfl) (by kernel_rfl) (by kernel_rfl) (fun _ _ _ h => h) (Or.inl ⟨by rfl, fun V (hV : True) => by go_simp⟩) trivial ?_
  (try simp only [Act.put, List.setIfInBounds_toArray, List.set_cons_zero, List.set_cons_succ])
  refine wpAnyH_take (i := 28) (oi := { dst := some 33, op := Op.binOp BinOp.add 92 (Operand.tmp 25) (Operand.tmp 32) 92, type := _, pos := _, after := _, guard := _ }) (v := .int .u32 ((n0 : Int) + (n1 : Int) * 256 + (n2 : Int) * 65536 + (n3 : Int) * 16777216)) rfl (by kernel_rfl) (by kernel_rfl) (by kernel_rfl) (fun _ _ _ h => h) (Or.inl ⟨by rfl, fun V (hV : True) => by go_simp⟩) trivial ?_
  (try simp only [Act.put, List.setIfInBounds_toArray, List.set_cons_zero, List.set_cons_succ])
  refine wpAnyH_take (i := 29) (oi := { dst := some 4, op := Op.assign (Operand.tmp 33), type := _, pos := _, after := _, guard := _ }) (v := .int .u32 ((n0 : Int) + (n1 : Int) * 256 + (n2 : Int) * 65536 + (n3 : Int) * 16777216)) rfl (by kernel_rfl) (by kernel_rfl) (by kernel_rfl) (fun _ _ _ h => h) (Or.inl ⟨by rfl, fun V (hV : True) => by go_simp⟩) trivial ?_
  (try simp only [Act.put, List.setIfInBounds_toArray, List.set_cons_zero, List.set_cons_succ])
  refine wpAnyH_done (by kernel_rfl) ?_ _
  go_wp2
  go_ret
  rw [unhide HX]
  exact ⟨rfl, gb_drew (gb_refl _ _)⟩

end Go.Proofs.YtjckdgapefaokaaDoor

/- What the document's answer for layer 4 (package coffretref04) gives as a block (Block): THE BLOCK. Of a key of 32 bytes and a nonce of 12. -/
namespace Go.Proofs.YtjckdgapefaokaaDoor
open Go.RowKit
attribute [local go_sem ↓] Go.wp_at_zero Go.wp_at_succ

set_option maxRecDepth 100000 in
set_option maxHeartbeats 8000000 in
theorem rblock4_any (w : World) (k n : List UInt8) (c : W) (hk : k.length = 32) (hn : n.length = 12) :
    Calls Tryd.prog 61 #[.string (str k), .string (str n), .int .u32 (wz c)] w fun e w' => e = .returned (.agg ((blockL k n c).map bv).toArray) ∧ w.grownBy w' none := by
  have hi16 : (Tryd.prog.info? 126).map (·.size) = some 16 := by kernel_rfl
  have hi64 : (Tryd.prog.info? 97).map (·.size) = some 64 := by kernel_rfl
  obtain ⟨Y64, hY64⟩ : ∃ A : Array Value, A = ((List.replicate 64 (0 : UInt8)).map bv).toArray := ⟨_, rfl⟩
  have hy := zero64b
  rw [← hY64] at hy
  obtain ⟨Y16, hY16⟩ : ∃ A : Array Value, A = ((List.replicate 16 (0 : W)).map wv).toArray := ⟨_, rfl⟩
  obtain ⟨F, hF⟩ : ∃ F, F = firstL k n c := ⟨_, rfl⟩
  have hFl : F.length = 16 := by rw [hF]; exact firstL_length _ _ _
  obtain ⟨W1, hW1⟩ : ∃ W1, W1 = (w.alloc (.cells Y64 97)).alloc (.cells #[.int .u32 1634760805, .int .u32 857760878, .int .u32 2036477234, .int .u32 1797285236, .int .u32 0, .int .u32 0, .int .u32 0, .int .u32 0, .int .u32 0, .int .u32 0, .int .u32 0, .int .u32 0, .int .u32 0, .int .u32 0, .int .u32 0, .int .u32 0] 126) := ⟨_, rfl⟩
  have hg : w.grownBy W1 none := by rw [hW1]; exact gb_alloc (gb_alloc (gb_refl _ _) _) _
  have hB1 : Blk W1 (w.heap.size + 1) 126 ((F.take (4 + 0) ++ List.replicate (16 - (4 + 0)) 0).map wv) := by
    have := Blk.new (w.alloc (.cells Y64 97)) 126 ((Fw ++ List.replicate 12 0).map wv)
    rw [World.size_alloc] at this
    rw [hF, show (firstL k n c).take (4 + 0) = Fw from rfl, hW1]
    exact this
  have hR1 : Blk W1 w.heap.size 97 ((List.replicate 64 (0 : UInt8)).map bv) := by rw [hW1, hY64]; exact (Blk.new w 97 _).alloc _
  have HB := hide hB1
  have HR := hide hR1
  have HK := hide hk
  have HN := hide hn
  have HF := hide hF
  have HFL := hide hFl
  have HY64 := hide hY64
  have HY16 := hide hY16
  have HW1 := hide hW1
  clear hB1 hR1 hk hn hF hFl hY64 hY16 hW1
  go_enter Tryd.func61, Tryd.ntmps61
  go_wp2
  rw [← unhide HW1]
  go_loopw [8] (fun i wr => ∃ r : Nat, r ≤ 8 ∧ i = .int .i64 r ∧ Blk wr (w.heap.size + 1) 126 ((F.take (4 + r) ++ List.replicate (16 - (4 + r)) 0).map wv) ∧ Blk wr w.heap.size 97 ((List.replicate 64 (0 : UInt8)).map bv) ∧ w.grownBy wr none) (fun i _ => 8 - (intOf i).toNat)
  case atStart => exact ⟨0, Nat.zero_le _, rfl, unhide HB, unhide HR, hg⟩
  case round =>
    clear HB HR hg
    obtain ⟨r, hr, rfl, hB, hR, hg⟩ := hrel
    by_cases hlt : r < 8
    · have hwo := rword_any wr k r (by rw [unhide HK]; omega) (by rw [unhide HK]; omega)
      obtain ⟨x, hx⟩ : ∃ x, x = leAt k r := ⟨_, rfl⟩
      rw [← hx] at hwo
      obtain ⟨q, hq⟩ : ∃ q : Nat, q = 4 + r := ⟨_, rfl⟩
      rw [← hq] at hB
      have hq1 : (r : Int) < 8 := by omega
      have hw4 : IntKind.i64.wrap (4 + (r : Int)) = (q : Int) := by rw [IntKind.wrap_i64]; omega
      have b0 : (0 : Int) ≤ (q : Int) := by omega
      have b1 : (q : Int) < 16 := by omega
      have HX := hide hx
      have HQQ := hide hq
      have HB := hide hB
      have HR := hide hR
      clear hx hB hR hq
      go_wp2_with fail
      refine hwo.mono ?_
      rintro e w2 ⟨rfl, g2⟩
      have hB := (unhide HB).kept g2 (by simp)
      have hg2 := gb_trans hg g2 (fun _ e => by cases e)
      have hqq := unhide HQQ
      have hcs : (w2.cell? ⟨w.heap.size + 1, q, none⟩).isSome = true ∧ w2.frozen? ⟨w.heap.size + 1, q, none⟩ = false := by
        have := hB.there q 1 (by simp [unhide HFL]; omega) 0 (by omega)
        simpa using this
      obtain ⟨hcs, hcf⟩ := hcs
      obtain ⟨ov, hcs⟩ := Option.isSome_iff_exists.1 hcs
      have HB2 := hide hB
      have HQ3 := hide hqq
      clear hB hqq
      go_wp2
      go_roundw
      case rel =>
        have hS := (unhide HB2).set q (wv x)
        rw [unhide HF, first_step k n c q (by have := unhide HQ3; omega) x (by rw [unhide HQ3, firstL_key k n c r hlt, unhide HX]), ← unhide HF] at hS
        rw [unhide HQ3, show 4 + r + 1 = 4 + (r + 1) by omega] at hS
        rw [unhide HQ3]
        exact ⟨r + 1, by omega, by go_num, hS, ((unhide HR).kept g2 (by simp)).other _ _ (by simp <;> omega), gb_setCell hg2 _ _ (Or.inl (by simp <;> omega))⟩
      case measure => simp [intOf]; omega
    · obtain rfl : r = 8 := by omega
      rw [show ((8 : Nat) : Int) = 8 from rfl]
      rw [show 4 + 8 = 12 from rfl] at hB
      have hcs : (wr.cell? ⟨w.heap.size + 1, 12, none⟩).isSome = true ∧ wr.frozen? ⟨w.heap.size + 1, 12, none⟩ = false := by
        have := hB.there 12 1 (by simp [unhide HFL]) 0 (by omega)
        simpa using this
      obtain ⟨hcs, hcf⟩ := hcs
      obtain ⟨ov, hcs⟩ := Option.isSome_iff_exists.1 hcs
      have hS := hB.set 12 (wv c)
      rw [unhide HF, first_step k n c 12 (by omega) c (firstL_count k n c), ← unhide HF] at hS
      have hR2 := hR.other ⟨w.heap.size + 1, 12, none⟩ (wv c) (by simp)
      have hg2 : w.grownBy (wr.setCell ⟨w.heap.size + 1, 12, none⟩ (wv c)) none := gb_setCell hg _ _ (Or.inl (by simp))
      have HB := hide hS
      have HR := hide hR2
      clear hB hR hS hR2 hg
      have hg := hg2
      clear hg2
      go_wp2
      clear hcs hcf
      go_loopw [9] (fun i wr => ∃ r : Nat, r ≤ 3 ∧ i = .int .i64 r ∧ Blk wr (w.heap.size + 1) 126 ((F.take (13 + r) ++ List.replicate (16 - (13 + r)) 0).map wv) ∧ Blk wr w.heap.size 97 ((List.replicate 64 (0 : UInt8)).map bv) ∧ w.grownBy wr none) (fun i _ => 3 - (intOf i).toNat)
      case atStart => exact ⟨0, Nat.zero_le _, rfl, unhide HB, unhide HR, hg⟩
      case round =>
        clear HB HR hg
        obtain ⟨r, hr, rfl, hB, hR, hg⟩ := hrel
        by_cases hlt : r < 3
        · have hwo := rword_any wr n r (by rw [unhide HN]; omega) (by rw [unhide HN]; omega)
          obtain ⟨x, hx⟩ : ∃ x, x = leAt n r := ⟨_, rfl⟩
          rw [← hx] at hwo
          obtain ⟨q, hq⟩ : ∃ q : Nat, q = 13 + r := ⟨_, rfl⟩
          rw [← hq] at hB
          have hq1 : (r : Int) < 3 := by omega
          have hw4 : IntKind.i64.wrap (13 + (r : Int)) = (q : Int) := by rw [IntKind.wrap_i64]; omega
          have b0 : (0 : Int) ≤ (q : Int) := by omega
          have b1 : (q : Int) < 16 := by omega
          have HX := hide hx
          have HQQ := hide hq
          have HB := hide hB
          have HR := hide hR
          clear hx hB hR hq
          go_wp2_with fail
          refine hwo.mono ?_
          rintro e w2 ⟨rfl, g2⟩
          have hB := (unhide HB).kept g2 (by simp)
          have hg2 := gb_trans hg g2 (fun _ e => by cases e)
          have hqq := unhide HQQ
          have hcs : (w2.cell? ⟨w.heap.size + 1, q, none⟩).isSome = true ∧ w2.frozen? ⟨w.heap.size + 1, q, none⟩ = false := by
            have := hB.there q 1 (by simp [unhide HFL]; omega) 0 (by omega)
            simpa using this
          obtain ⟨hcs, hcf⟩ := hcs
          obtain ⟨ov, hcs⟩ := Option.isSome_iff_exists.1 hcs
          have HB2 := hide hB
          have HQ3 := hide hqq
          clear hB hqq
          go_wp2
          go_roundw
          case rel =>
            have hS := (unhide HB2).set q (wv x)
            rw [unhide HF, first_step k n c q (by have := unhide HQ3; omega) x (by rw [unhide HQ3, firstL_nonce k n c r hlt, unhide HX]), ← unhide HF] at hS
            rw [unhide HQ3, show 13 + r + 1 = 13 + (r + 1) by omega] at hS
            rw [unhide HQ3]
            exact ⟨r + 1, by omega, by go_num, hS, ((unhide HR).kept g2 (by simp)).other _ _ (by simp <;> omega), gb_setCell hg2 _ _ (Or.inl (by simp <;> omega))⟩
          case measure => simp [intOf]; omega
        · obtain rfl : r = 3 := by omega
          rw [show ((3 : Nat) : Int) = 3 from rfl]
          have hF16 : (F.take (13 + 3) ++ List.replicate (16 - (13 + 3)) 0) = F := by
            rw [show 13 + 3 = 16 from rfl, Nat.sub_self, List.replicate_zero, List.append_nil, List.take_of_length_le (by rw [unhide HFL]; exact Nat.le_refl _)]
          rw [hF16] at hB
          have hsz : ((F.map wv).toArray).size = 16 := by simp [unhide HFL]
          obtain ⟨W5, hW5⟩ : ∃ W5, W5 = (wr.alloc (.cells Y16 126)).setRow wr.heap.size (F.map wv).toArray := ⟨_, rfl⟩
          have hN4 : Blk (wr.alloc (.cells Y16 126)) wr.heap.size 126 ((List.replicate 16 (0 : W)).map wv) := by
            rw [unhide HY16]; exact Blk.new wr 126 _
          have hQ5 : Blk W5 wr.heap.size 126 (F.map wv) := by rw [hW5]; exact hN4.row _
          have hlt5 := hB.lt
          have hT5 : Blk W5 (w.heap.size + 1) 126 (F.map wv) := by rw [hW5]; exact (hB.alloc _).row_other _ _ (by omega)
          have hO5 : Blk W5 w.heap.size 97 ((List.replicate 64 (0 : UInt8)).map bv) := by rw [hW5]; exact (hR.alloc _).row_other _ _ (by omega)
          have hG5 : w.grownBy W5 none := by rw [hW5]; exact gb_row (gb_alloc hg _) _ (Or.inl (by omega))
          have hy16 := zero16w
          rw [← unhide HY16] at hy16
          have HSZ := hide hsz
          have HB5 := hide hB
          have HN4 := hide hN4
          have HW5 := hide hW5
          have HQ5 := hide hQ5
          have HT5 := hide hT5
          have HO5 := hide hO5
          clear hsz hB hR hN4 hW5 hQ5 hT5 hO5 hF16
          go_wp2_with (first
            | (refine wpList_load_row rfl 126 _ rfl (w.heap.size + 1) rfl _ _ _ _ (unhide HB5) Tryd.underlying126 rfl ?_ ?_; (rw [unhide HSZ]; exact hi16))
            | (refine wpList_store_row rfl 126 _ _ rfl wr.heap.size _ rfl rfl _ _ (unhide HN4) ?_ ?_ ?_ ?_; (rw [unhide HSZ]; exact hi16); (rw [unhide HSZ]; rfl); (exact all_oneCell_toArray (wv_one _)); rw [← unhide HW5]))
          obtain ⟨NV, hNV⟩ : ∃ N, N = wr.heap.size := ⟨_, rfl⟩
          have hQ5 := unhide HQ5
          rw [← hNV] at hQ5 hlt5 ⊢
          clear hNV HN4 HW5 HQ5 HB5 hg
          go_loopw [11] (fun i wr => ∃ r : Nat, r ≤ 10 ∧ i = .int .i64 r ∧ Blk wr NV 126 ((turnsL r F).map wv) ∧ Blk wr (w.heap.size + 1) 126 (F.map wv) ∧ Blk wr w.heap.size 97 ((List.replicate 64 (0 : UInt8)).map bv) ∧ w.grownBy wr none) (fun i _ => 10 - (intOf i).toNat)
          case atStart => exact ⟨0, Nat.zero_le _, rfl, hQ5, unhide HT5, unhide HO5, hG5⟩
          case round =>
            clear hQ5 HT5 HO5 hG5
            obtain ⟨r, hr, rfl, hQ, hT, hO, hG⟩ := hrel
            by_cases hlt : r < 10
            · have hq1 : (r : Int) < 10 := by omega
              obtain ⟨s0, hse0⟩ : ∃ s, s = turnsL r F := ⟨_, rfl⟩
              rw [← hse0] at hQ
              have hs0 : s0.length = 16 := by rw [hse0, turnsL_length]; exact unhide HFL
              have HE0 := hide hse0
              clear hse0
              obtain ⟨U0, hU0⟩ : ∃ U, U = wr := ⟨_, rfl⟩
              rw [← hU0] at hQ hT hO hG ⊢
              have hQ0 := hQ
              have hT0 := hT
              have hO0 := hO
              have hG0 := hG
              clear hQ hT hO hG hU0
              have rq0 := rquarter_any U0 s0 hs0 0 4 8 12 (by omega) (by omega) (by omega) (by omega) (by omega) (by omega) (by omega) (by omega) (by omega) (by omega)
              obtain ⟨s1, hse1⟩ : ∃ s, s = quartL s0 0 4 8 12 := ⟨_, rfl⟩
              rw [← hse1] at rq0
              have hs1 : s1.length = 16 := by rw [hse1, quartL_length]; exact hs0
              have hsz0 : ((s0.map wv).toArray).size = 16 := by simp [hs0]
              have hsz1 : ((s1.map wv).toArray).size = 16 := by simp [hs1]
              have HZ0 := hide hsz0
              have HY1 := hide hsz1
              have HE1 := hide hse1
              have HQB0 := hide hQ0
              clear hsz0 hsz1 hse1 hQ0
              go_wp2_with (refine wpList_load_row rfl 126 _ rfl NV rfl _ _ _ _ (unhide HQB0) Tryd.underlying126 rfl ?_ ?_; (rw [unhide HZ0]; exact hi16))
              refine rq0.mono ?_
              rintro e w9 ⟨rfl, g9⟩
              have hQk := (unhide HQB0).kept g9 (by simp)
              obtain ⟨U1, hU1⟩ : ∃ U, U = w9.setRow NV (s1.map wv).toArray := ⟨_, rfl⟩
              have hQ1 : Blk U1 NV 126 (s1.map wv) := by rw [hU1]; exact hQk.row _
              have hT1 : Blk U1 (w.heap.size + 1) 126 (F.map wv) := by rw [hU1]; exact (hT0.kept g9 (by simp)).row_other _ _ (by omega)
              have hO1 : Blk U1 w.heap.size 97 ((List.replicate 64 (0 : UInt8)).map bv) := by rw [hU1]; exact (hO0.kept g9 (by simp)).row_other _ _ (by omega)
              have hG1 : w.grownBy U1 none := by rw [hU1]; exact gb_row (gb_trans hG0 g9 (fun _ e => by cases e)) _ (Or.inl (by omega))
              have HQK0 := hide hQk
              have HU1 := hide hU1
              clear hQk hU1 rq0 hT0 hO0 hG0
              have rq1 := rquarter_any U1 s1 hs1 1 5 9 13 (by omega) (by omega) (by omega) (by omega) (by omega) (by omega) (by omega) (by omega) (by omega) (by omega)
              obtain ⟨s2, hse2⟩ : ∃ s, s = quartL s1 1 5 9 13 := ⟨_, rfl⟩
              rw [← hse2] at rq1
              have hs2 : s2.length = 16 := by rw [hse2, quartL_length]; exact hs1
              have hsz1 : ((s1.map wv).toArray).size = 16 := by simp [hs1]
              have hsz2 : ((s2.map wv).toArray).size = 16 := by simp [hs2]
              have HZ1 := hide hsz1
              have HY2 := hide hsz2
              have HE2 := hide hse2
              have HQB1 := hide hQ1
              clear hsz1 hsz2 hse2 hQ1
              go_wp2_with (first | (refine wpList_store_row rfl 126 _ _ rfl NV _ rfl rfl _ _ (unhide HQK0) ?_ ?_ ?_ ?_; (rw [unhide HY1]; exact hi16); (rw [unhide HY1, unhide HZ0]); (exact all_oneCell_toArray (wv_one _)); rw [← unhide HU1]) | (refine wpList_load_row rfl 126 _ rfl NV rfl _ _ _ _ (unhide HQB1) Tryd.underlying126 rfl ?_ ?_; (rw [unhide HZ1]; exact hi16)))
              refine rq1.mono ?_
              rintro e w9 ⟨rfl, g9⟩
              have hQk := (unhide HQB1).kept g9 (by simp)
              obtain ⟨U2, hU2⟩ : ∃ U, U = w9.setRow NV (s2.map wv).toArray := ⟨_, rfl⟩
              have hQ2 : Blk U2 NV 126 (s2.map wv) := by rw [hU2]; exact hQk.row _
              have hT2 : Blk U2 (w.heap.size + 1) 126 (F.map wv) := by rw [hU2]; exact (hT1.kept g9 (by simp)).row_other _ _ (by omega)
              have hO2 : Blk U2 w.heap.size 97 ((List.replicate 64 (0 : UInt8)).map bv) := by rw [hU2]; exact (hO1.kept g9 (by simp)).row_other _ _ (by omega)
              have hG2 : w.grownBy U2 none := by rw [hU2]; exact gb_row (gb_trans hG1 g9 (fun _ e => by cases e)) _ (Or.inl (by omega))
              have HQK1 := hide hQk
              have HU2 := hide hU2
              clear hQk hU2 rq1 hT1 hO1 hG1
              have rq2 := rquarter_any U2 s2 hs2 2 6 10 14 (by omega) (by omega) (by omega) (by omega) (by omega) (by omega) (by omega) (by omega) (by omega) (by omega)
              obtain ⟨s3, hse3⟩ : ∃ s, s = quartL s2 2 6 10 14 := ⟨_, rfl⟩
              rw [← hse3] at rq2
              have hs3 : s3.length = 16 := by rw [hse3, quartL_length]; exact hs2
              have hsz2 : ((s2.map wv).toArray).size = 16 := by simp [hs2]
              have hsz3 : ((s3.map wv).toArray).size = 16 := by simp [hs3]
              have HZ2 := hide hsz2
              have HY3 := hide hsz3
              have HE3 := hide hse3
              have HQB2 := hide hQ2
              clear hsz2 hsz3 hse3 hQ2
              go_wp2_with (first | (refine wpList_store_row rfl 126 _ _ rfl NV _ rfl rfl _ _ (unhide HQK1) ?_ ?_ ?_ ?_; (rw [unhide HY2]; exact hi16); (rw [unhide HY2, unhide HZ1]); (exact all_oneCell_toArray (wv_one _)); rw [← unhide HU2]) | (refine wpList_load_row rfl 126 _ rfl NV rfl _ _ _ _ (unhide HQB2) Tryd.underlying126 rfl ?_ ?_; (rw [unhide HZ2]; exact hi16)))
              refine rq2.mono ?_
              rintro e w9 ⟨rfl, g9⟩
              have hQk := (unhide HQB2).kept g9 (by simp)
              obtain ⟨U3, hU3⟩ : ∃ U, U = w9.setRow NV (s3.map wv).toArray := ⟨_, rfl⟩
              have hQ3 : Blk U3 NV 126 (s3.map wv) := by rw [hU3]; exact hQk.row _
              have hT3 : Blk U3 (w.heap.size + 1) 126 (F.map wv) := by rw [hU3]; exact (hT2.kept g9 (by simp)).row_other _ _ (by omega)
              have hO3 : Blk U3 w.heap.size 97 ((List.replicate 64 (0 : UInt8)).map bv) := by rw [hU3]; exact (hO2.kept g9 (by simp)).row_other _ _ (by omega)
              have hG3 : w.grownBy U3 none := by rw [hU3]; exact gb_row (gb_trans hG2 g9 (fun _ e => by cases e)) _ (Or.inl (by omega))
              have HQK2 := hide hQk
              have HU3 := hide hU3
              clear hQk hU3 rq2 hT2 hO2 hG2
              have rq3 := rquarter_any U3 s3 hs3 3 7 11 15 (by omega) (by omega) (by omega) (by omega) (by omega) (by omega) (by omega) (by omega) (by omega) (by omega)
              obtain ⟨s4, hse4⟩ : ∃ s, s = quartL s3 3 7 11 15 := ⟨_, rfl⟩
              rw [← hse4] at rq3
              have hs4 : s4.length = 16 := by rw [hse4, quartL_length]; exact hs3
              have hsz3 : ((s3.map wv).toArray).size = 16 := by simp [hs3]
              have hsz4 : ((s4.map wv).toArray).size = 16 := by simp [hs4]
              have HZ3 := hide hsz3
              have HY4 := hide hsz4
              have HE4 := hide hse4
              have HQB3 := hide hQ3
              clear hsz3 hsz4 hse4 hQ3
              go_wp2_with (first | (refine wpList_store_row rfl 126 _ _ rfl NV _ rfl rfl _ _ (unhide HQK2) ?_ ?_ ?_ ?_; (rw [unhide HY3]; exact hi16); (rw [unhide HY3, unhide HZ2]); (exact all_oneCell_toArray (wv_one _)); rw [← unhide HU3]) | (refine wpList_load_row rfl 126 _ rfl NV rfl _ _ _ _ (unhide HQB3) Tryd.underlying126 rfl ?_ ?_; (rw [unhide HZ3]; exact hi16)))
              refine rq3.mono ?_
              rintro e w9 ⟨rfl, g9⟩
              have hQk := (unhide HQB3).kept g9 (by simp)
              obtain ⟨U4, hU4⟩ : ∃ U, U = w9.setRow NV (s4.map wv).toArray := ⟨_, rfl⟩
              have hQ4 : Blk U4 NV 126 (s4.map wv) := by rw [hU4]; exact hQk.row _
              have hT4 : Blk U4 (w.heap.size + 1) 126 (F.map wv) := by rw [hU4]; exact (hT3.kept g9 (by simp)).row_other _ _ (by omega)
              have hO4 : Blk U4 w.heap.size 97 ((List.replicate 64 (0 : UInt8)).map bv) := by rw [hU4]; exact (hO3.kept g9 (by simp)).row_other _ _ (by omega)
              have hG4 : w.grownBy U4 none := by rw [hU4]; exact gb_row (gb_trans hG3 g9 (fun _ e => by cases e)) _ (Or.inl (by omega))
              have HQK3 := hide hQk
              have HU4 := hide hU4
              clear hQk hU4 rq3 hT3 hO3 hG3
              have rq4 := rquarter_any U4 s4 hs4 0 5 10 15 (by omega) (by omega) (by omega) (by omega) (by omega) (by omega) (by omega) (by omega) (by omega) (by omega)
              obtain ⟨s5, hse5⟩ : ∃ s, s = quartL s4 0 5 10 15 := ⟨_, rfl⟩
              rw [← hse5] at rq4
              have hs5 : s5.length = 16 := by rw [hse5, quartL_length]; exact hs4
              have hsz4 : ((s4.map wv).toArray).size = 16 := by simp [hs4]
              have hsz5 : ((s5.map wv).toArray).size = 16 := by simp [hs5]
              have HZ4 := hide hsz4
              have HY5 := hide hsz5
              have HE5 := hide hse5
              have HQB4 := hide hQ4
              clear hsz4 hsz5 hse5 hQ4
              go_wp2_with (first | (refine wpList_store_row rfl 126 _ _ rfl NV _ rfl rfl _ _ (unhide HQK3) ?_ ?_ ?_ ?_; (rw [unhide HY4]; exact hi16); (rw [unhide HY4, unhide HZ3]); (exact all_oneCell_toArray (wv_one _)); rw [← unhide HU4]) | (refine wpList_load_row rfl 126 _ rfl NV rfl _ _ _ _ (unhide HQB4) Tryd.underlying126 rfl ?_ ?_; (rw [unhide HZ4]; exact hi16)))
              refine rq4.mono ?_
              rintro e w9 ⟨rfl, g9⟩
              have hQk := (unhide HQB4).kept g9 (by simp)
              obtain ⟨U5, hU5⟩ : ∃ U, U = w9.setRow NV (s5.map wv).toArray := ⟨_, rfl⟩
              have hQ5 : Blk U5 NV 126 (s5.map wv) := by rw [hU5]; exact hQk.row _
              have hT5 : Blk U5 (w.heap.size + 1) 126 (F.map wv) := by rw [hU5]; exact (hT4.kept g9 (by simp)).row_other _ _ (by omega)
              have hO5 : Blk U5 w.heap.size 97 ((List.replicate 64 (0 : UInt8)).map bv) := by rw [hU5]; exact (hO4.kept g9 (by simp)).row_other _ _ (by omega)
              have hG5 : w.grownBy U5 none := by rw [hU5]; exact gb_row (gb_trans hG4 g9 (fun _ e => by cases e)) _ (Or.inl (by omega))
              have HQK4 := hide hQk
              have HU5 := hide hU5
              clear hQk hU5 rq4 hT4 hO4 hG4
              have rq5 := rquarter_any U5 s5 hs5 1 6 11 12 (by omega) (by omega) (by omega) (by omega) (by omega) (by omega) (by omega) (by omega) (by omega) (by omega)
              obtain ⟨s6, hse6⟩ : ∃ s, s = quartL s5 1 6 11 12 := ⟨_, rfl⟩
              rw [← hse6] at rq5
              have hs6 : s6.length = 16 := by rw [hse6, quartL_length]; exact hs5
              have hsz5 : ((s5.map wv).toArray).size = 16 := by simp [hs5]
              have hsz6 : ((s6.map wv).toArray).size = 16 := by simp [hs6]
              have HZ5 := hide hsz5
              have HY6 := hide hsz6
              have HE6 := hide hse6
              have HQB5 := hide hQ5
              clear hsz5 hsz6 hse6 hQ5
              go_wp2_with (first | (refine wpList_store_row rfl 126 _ _ rfl NV _ rfl rfl _ _ (unhide HQK4) ?_ ?_ ?_ ?_; (rw [unhide HY5]; exact hi16); (rw [unhide HY5, unhide HZ4]); (exact all_oneCell_toArray (wv_one _)); rw [← unhide HU5]) | (refine wpList_load_row rfl 126 _ rfl NV rfl _ _ _ _ (unhide HQB5) Tryd.underlying126 rfl ?_ ?_; (rw [unhide HZ5]; exact hi16)))
              refine rq5.mono ?_
              rintro e w9 ⟨rfl, g9⟩
              have hQk := (unhide HQB5).kept g9 (by simp)
              obtain ⟨U6, hU6⟩ : ∃ U, U = w9.setRow NV (s6.map wv).toArray := ⟨_, rfl⟩
              have hQ6 : Blk U6 NV 126 (s6.map wv) := by rw [hU6]; exact hQk.row _
              have hT6 : Blk U6 (w.heap.size + 1) 126 (F.map wv) := by rw [hU6]; exact (hT5.kept g9 (by simp)).row_other _ _ (by omega)
              have hO6 : Blk U6 w.heap.size 97 ((List.replicate 64 (0 : UInt8)).map bv) := by rw [hU6]; exact (hO5.kept g9 (by simp)).row_other _ _ (by omega)
              have hG6 : w.grownBy U6 none := by rw [hU6]; exact gb_row (gb_trans hG5 g9 (fun _ e => by cases e)) _ (Or.inl (by omega))
              have HQK5 := hide hQk
              have HU6 := hide hU6
              clear hQk hU6 rq5 hT5 hO5 hG5
              have rq6 := rquarter_any U6 s6 hs6 2 7 8 13 (by omega) (by omega) (by omega) (by omega) (by omega) (by omega) (by omega) (by omega) (by omega) (by omega)
              obtain ⟨s7, hse7⟩ : ∃ s, s = quartL s6 2 7 8 13 := ⟨_, rfl⟩
              rw [← hse7] at rq6
              have hs7 : s7.length = 16 := by rw [hse7, quartL_length]; exact hs6
              have hsz6 : ((s6.map wv).toArray).size = 16 := by simp [hs6]
              have hsz7 : ((s7.map wv).toArray).size = 16 := by simp [hs7]
              have HZ6 := hide hsz6
              have HY7 := hide hsz7
              have HE7 := hide hse7
              have HQB6 := hide hQ6
              clear hsz6 hsz7 hse7 hQ6
              go_wp2_with (first | (refine wpList_store_row rfl 126 _ _ rfl NV _ rfl rfl _ _ (unhide HQK5) ?_ ?_ ?_ ?_; (rw [unhide HY6]; exact hi16); (rw [unhide HY6, unhide HZ5]); (exact all_oneCell_toArray (wv_one _)); rw [← unhide HU6]) | (refine wpList_load_row rfl 126 _ rfl NV rfl _ _ _ _ (unhide HQB6) Tryd.underlying126 rfl ?_ ?_; (rw [unhide HZ6]; exact hi16)))
              refine rq6.mono ?_
              rintro e w9 ⟨rfl, g9⟩
              have hQk := (unhide HQB6).kept g9 (by simp)
              obtain ⟨U7, hU7⟩ : ∃ U, U = w9.setRow NV (s7.map wv).toArray := ⟨_, rfl⟩
              have hQ7 : Blk U7 NV 126 (s7.map wv) := by rw [hU7]; exact hQk.row _
              have hT7 : Blk U7 (w.heap.size + 1) 126 (F.map wv) := by rw [hU7]; exact (hT6.kept g9 (by simp)).row_other _ _ (by omega)
              have hO7 : Blk U7 w.heap.size 97 ((List.replicate 64 (0 : UInt8)).map bv) := by rw [hU7]; exact (hO6.kept g9 (by simp)).row_other _ _ (by omega)
              have hG7 : w.grownBy U7 none := by rw [hU7]; exact gb_row (gb_trans hG6 g9 (fun _ e => by cases e)) _ (Or.inl (by omega))
              have HQK6 := hide hQk
              have HU7 := hide hU7
              clear hQk hU7 rq6 hT6 hO6 hG6
              have rq7 := rquarter_any U7 s7 hs7 3 4 9 14 (by omega) (by omega) (by omega) (by omega) (by omega) (by omega) (by omega) (by omega) (by omega) (by omega)
              obtain ⟨s8, hse8⟩ : ∃ s, s = quartL s7 3 4 9 14 := ⟨_, rfl⟩
              rw [← hse8] at rq7
              have hs8 : s8.length = 16 := by rw [hse8, quartL_length]; exact hs7
              have hsz7 : ((s7.map wv).toArray).size = 16 := by simp [hs7]
              have hsz8 : ((s8.map wv).toArray).size = 16 := by simp [hs8]
              have HZ7 := hide hsz7
              have HY8 := hide hsz8
              have HE8 := hide hse8
              have HQB7 := hide hQ7
              clear hsz7 hsz8 hse8 hQ7
              go_wp2_with (first | (refine wpList_store_row rfl 126 _ _ rfl NV _ rfl rfl _ _ (unhide HQK6) ?_ ?_ ?_ ?_; (rw [unhide HY7]; exact hi16); (rw [unhide HY7, unhide HZ6]); (exact all_oneCell_toArray (wv_one _)); rw [← unhide HU7]) | (refine wpList_load_row rfl 126 _ rfl NV rfl _ _ _ _ (unhide HQB7) Tryd.underlying126 rfl ?_ ?_; (rw [unhide HZ7]; exact hi16)))
              refine rq7.mono ?_
              rintro e w9 ⟨rfl, g9⟩
              have hQk := (unhide HQB7).kept g9 (by simp)
              obtain ⟨U8, hU8⟩ : ∃ U, U = w9.setRow NV (s8.map wv).toArray := ⟨_, rfl⟩
              have hQ8 : Blk U8 NV 126 (s8.map wv) := by rw [hU8]; exact hQk.row _
              have hT8 : Blk U8 (w.heap.size + 1) 126 (F.map wv) := by rw [hU8]; exact (hT7.kept g9 (by simp)).row_other _ _ (by omega)
              have hO8 : Blk U8 w.heap.size 97 ((List.replicate 64 (0 : UInt8)).map bv) := by rw [hU8]; exact (hO7.kept g9 (by simp)).row_other _ _ (by omega)
              have hG8 : w.grownBy U8 none := by rw [hU8]; exact gb_row (gb_trans hG7 g9 (fun _ e => by cases e)) _ (Or.inl (by omega))
              have HQK7 := hide hQk
              have HU8 := hide hU8
              clear hQk hU8 rq7 hT7 hO7 hG7
              go_wp2_with (refine wpList_store_row rfl 126 _ _ rfl NV _ rfl rfl _ _ (unhide HQK7) ?_ ?_ ?_ ?_; (rw [unhide HY8]; exact hi16); (rw [unhide HY8, unhide HZ7]); (exact all_oneCell_toArray (wv_one _)); rw [← unhide HU8])
              go_roundw
              case rel =>
                have e : turnsL (r + 1) F = s8 := by
                  show turnL (turnsL r F) = s8
                  unfold turnL
                  rw [← unhide HE0, ← unhide HE1, ← unhide HE2, ← unhide HE3, ← unhide HE4, ← unhide HE5, ← unhide HE6, ← unhide HE7, ← unhide HE8]
                exact ⟨r + 1, by omega, by go_num, by rw [e]; exact hQ8, hT8, hO8, hG8⟩
              case measure => simp [intOf]; omega
            · obtain rfl : r = 10 := by omega
              rw [show ((10 : Nat) : Int) = 10 from rfl]
              obtain ⟨T, hTe⟩ : ∃ T, T = turnsL 10 F := ⟨_, rfl⟩
              rw [← hTe] at hQ
              have hTl : T.length = 16 := by rw [hTe, turnsL_length]; exact unhide HFL
              obtain ⟨bw, hbw⟩ : ∃ bw, bw = List.zipWith (· + ·) T F := ⟨_, rfl⟩
              have hbl : bw.length = 16 := by rw [hbw]; simp [hTl, unhide HFL]
              obtain ⟨xs, hxs⟩ : ∃ xs, xs = leBytes bw := ⟨_, rfl⟩
              have hxl : xs.length = 64 := by rw [hxs, leBytes_length, hbl]
              have hfin : xs = blockL k n c := by rw [hxs, hbw, hTe, unhide HF]; rfl
              have hgs := hG.size
              obtain ⟨W6, hW6⟩ : ∃ W6, W6 = wr.alloc (.cells Y64 97) := ⟨_, rfl⟩
              have hQ6 : Blk W6 NV 126 (T.map wv) := by rw [hW6]; exact hQ.alloc _
              have hT6 : Blk W6 (w.heap.size + 1) 126 (F.map wv) := by rw [hW6]; exact hT.alloc _
              have hO6 : Blk W6 w.heap.size 97 ((List.replicate 64 (0 : UInt8)).map bv) := by rw [hW6]; exact hO.alloc _
              have hX6 : Blk W6 wr.heap.size 97 ((xs.take 0 ++ List.replicate (64 - 0) 0).map bv) := by
                rw [hW6, unhide HY64]; exact Blk.new wr 97 _
              have hg6 : w.grownBy W6 none := by rw [hW6]; exact gb_alloc hG _
              have hnv := hQ.lt
              have HQ6 := hide hQ6
              have HT6 := hide hT6
              have HO6 := hide hO6
              have HX6 := hide hX6
              have HTL := hide hTl
              have HBW := hide hbw
              have HBL := hide hbl
              have HXS := hide hxs
              have HXL := hide hxl
              have HFIN := hide hfin
              have HW6 := hide hW6
              clear hQ hT hO hQ6 hT6 hO6 hX6 hTe hTl hbw hbl hxs hxl hfin hgs hW6 hG
              go_wp2
              rw [← unhide HW6]
              obtain ⟨N12, hN12⟩ : ∃ N, N = wr.heap.size := ⟨_, rfl⟩
              have hX6 := unhide HX6
              rw [← hN12] at hX6 hnv ⊢
              clear HW6 hN12 HX6
              go_loopw [13] (fun i wr => ∃ r : Nat, r ≤ 64 ∧ i = .int .i64 r ∧ Blk wr N12 97 ((xs.take r ++ List.replicate (64 - r) 0).map bv) ∧ Blk wr NV 126 (T.map wv) ∧ Blk wr (w.heap.size + 1) 126 (F.map wv) ∧ Blk wr w.heap.size 97 ((List.replicate 64 (0 : UInt8)).map bv) ∧ w.grownBy wr none) (fun i _ => 64 - (intOf i).toNat)
              case atStart => exact ⟨0, Nat.zero_le _, rfl, hX6, unhide HQ6, unhide HT6, unhide HO6, hg6⟩
              case round =>
                clear hX6 HQ6 HT6 HO6 hg6 hlt hr
                obtain ⟨r, hr, rfl, hX, hQ, hT, hO, hG⟩ := hrel
                by_cases hlt : r < 64
                · obtain ⟨q, hq⟩ : ∃ q : Nat, q = r / 4 := ⟨_, rfl⟩
                  obtain ⟨m, hm⟩ : ∃ m : Nat, m = r % 4 := ⟨_, rfl⟩
                  obtain ⟨e8, he8⟩ : ∃ e : Nat, e = 8 * m := ⟨_, rfl⟩
                  obtain ⟨x, hx⟩ : ∃ x, x = T.getD q 0 := ⟨_, rfl⟩
                  obtain ⟨f, hf⟩ : ∃ f, f = F.getD q 0 := ⟨_, rfl⟩
                  obtain ⟨z, hz⟩ : ∃ z, z = x + f := ⟨_, rfl⟩
                  have cx := hQ.word q (by rw [unhide HTL]; omega)
                  have cf := hT.word q (by rw [unhide HFL]; omega)
                  rw [← hx] at cx
                  rw [← hf] at cf
                  have hzb : z = bw.getD q 0 := by
                    have h1 : q < T.length := by rw [unhide HTL]; omega
                    have h2 : q < F.length := by rw [unhide HFL]; omega
                    have h3 : q < (List.zipWith (· + ·) T F).length := by simp; omega
                    rw [hz, hx, hf, unhide HBW, List.getD, List.getElem?_eq_getElem h1, List.getD, List.getElem?_eq_getElem h2, List.getD, List.getElem?_eq_getElem h3, Option.getD_some, Option.getD_some, Option.getD_some, List.getElem_zipWith]
                  have hbyte : Value.int .u8 (wz z / 2 ^ e8 % 256) = bv (xs.getD r 0) := by
                    rw [unhide HXS, leBytes_get bw r (by rw [unhide HBL]; omega), ← hq, ← hzb, ← hm, ← he8]
                    unfold bv wz
                    rw [UInt8.toNat_ofNat']
                    congr 1
                  have hcs : (wr.cell? ⟨N12, r, none⟩).isSome = true ∧ wr.frozen? ⟨N12, r, none⟩ = false := by
                    have := hX.there r 1 (by simp [unhide HXL]; omega) 0 (by omega)
                    simpa using this
                  obtain ⟨hcs, hcf⟩ := hcs
                  obtain ⟨ov, hcs⟩ := Option.isSome_iff_exists.1 hcs
                  have hcs : wr.drew.cell? ⟨N12, r, none⟩ = some ov := hcs
                  have hcf : wr.drew.frozen? ⟨N12, r, none⟩ = false := hcf
                  have hS0 : wr.drew.cell? ⟨NV, q, none⟩ = some (.int .u32 (wz x)) ∧ wr.drew.cell? ⟨w.heap.size + 1, q, none⟩ = some (.int .u32 (wz f)) := ⟨cx, cf⟩
                  have hS1 : (wr.setCell ⟨N12, r, none⟩ (.int .u8 (wz z / 2 ^ e8 % 256))).drew.cell? ⟨NV, q, none⟩ = some (.int .u32 (wz x)) ∧ (wr.setCell ⟨N12, r, none⟩ (.int .u8 (wz z / 2 ^ e8 % 256))).drew.cell? ⟨w.heap.size + 1, q, none⟩ = some (.int .u32 (wz f)) := by
                    constructor
                    · rw [World.cell?_drew, World.cell?_setCell_other _ _ _ _ (by simp <;> omega)]; exact cx
                    · rw [World.cell?_drew, World.cell?_setCell_other _ _ _ _ (by simp <;> omega)]; exact cf
                  have hX2 : Blk (wr.setCell ⟨N12, r, none⟩ (.int .u8 (wz z / 2 ^ e8 % 256))).drew N12 97 ((xs.take (r + 1) ++ List.replicate (64 - (r + 1)) 0).map bv) := by
                    have := hX.set r (bv (xs.getD r 0))
                    rw [fill_bv xs 64 r (by rw [unhide HXL]; exact hlt) hlt] at this
                    rw [hbyte]
                    exact this.drew
                  have hQ2 : Blk (wr.setCell ⟨N12, r, none⟩ (.int .u8 (wz z / 2 ^ e8 % 256))).drew NV 126 (T.map wv) := (hQ.other _ _ (by simp <;> omega)).drew
                  have hT2 : Blk (wr.setCell ⟨N12, r, none⟩ (.int .u8 (wz z / 2 ^ e8 % 256))).drew (w.heap.size + 1) 126 (F.map wv) := (hT.other _ _ (by simp <;> omega)).drew
                  have hO2 : Blk (wr.setCell ⟨N12, r, none⟩ (.int .u8 (wz z / 2 ^ e8 % 256))).drew w.heap.size 97 ((List.replicate 64 (0 : UInt8)).map bv) := (hO.other _ _ (by simp <;> omega)).drew
                  have hG2 : w.grownBy (wr.setCell ⟨N12, r, none⟩ (.int .u8 (wz z / 2 ^ e8 % 256))).drew none := gb_drew (gb_setCell hG _ _ (Or.inl (by simp <;> omega)))
                  have d1 : (r : Int) / 4 = (q : Int) := by omega
                  have d2 : Int.tdiv (r : Int) 4 = (q : Int) := by rw [Int.tdiv_eq_ediv_of_nonneg (by omega)]; omega
                  have d3 : IntKind.i64.wrap (q : Int) = (q : Int) := by rw [IntKind.wrap_i64]; omega
                  have d4 : (r : Int) % 4 = (m : Int) := by omega
                  have d5 : Int.tmod (r : Int) 4 = (m : Int) := by rw [Int.tmod_eq_emod_of_nonneg (by omega)]; omega
                  have d6 : 8 * (m : Int) = (e8 : Int) := by omega
                  have d7 : IntKind.i64.wrap (e8 : Int) = (e8 : Int) := by rw [IntKind.wrap_i64]; omega
                  have d8 : IntKind.u64.wrap (e8 : Int) = (e8 : Int) := by rw [IntKind.wrap_u64]; omega
                  have d9 : (e8 : Int) < 32 := by omega
                  have d10 : IntKind.u8.wrap (wz z / 2 ^ e8) = wz z / 2 ^ e8 % 256 := by rw [IntKind.wrap_u8]
                  have q0 : (0 : Int) ≤ (q : Int) := by omega
                  have q1 : (q : Int) < 16 := by omega
                  have r0 : (0 : Int) ≤ (r : Int) := by omega
                  have r1 : (r : Int) < 64 := by omega
                  have ha : IntKind.u32.wrap (wz x + wz f) = wz z := by rw [hz]; exact w_add x f
                  have ham : (wz x + wz f) % 4294967296 = wz z := by rw [hz]; exact w_addm x f
                  have HX2 := hide hX2
                  have HQ2 := hide hQ2
                  have HT2 := hide hT2
                  have HO2 := hide hO2
                  have HG2 := hide hG2
                  clear hX hQ hT hO hG hq hm he8 hx hf hz hzb hbyte hX2 hQ2 hT2 hO2 hG2 cx cf
                  go_wp2
          
                  refine wp_region_noPanic ?_
                  refine wp_region_held_drew (S := fun V => V.cell? ⟨NV, q, none⟩ = some (.int .u32 (wz x)) ∧ V.cell? ⟨w.heap.size + 1, q, none⟩ = some (.int .u32 (wz f))) (by kernel_rfl) hS0 (fun _ => ?_)
                  refine wpAnyH_take (i := 0) (oi := { dst := some 62, op := Op.move (Operand.tmp 13), type := _, pos := _, after := _, guard := _ }) (v := .int .i64 (r : Int)) rfl (by kernel_rfl) (by kernel_rfl) (by kernel_rfl) (fun _ _ _ h => h) (Or.inl ⟨by rfl, fun V (hV : V.cell? ⟨NV, q, none⟩ = some (.int .u32 (wz x)) ∧ V.cell? ⟨w.heap.size + 1, q, none⟩ = some (.int .u32 (wz f))) => by go_simp⟩) hS0 ?_
                  (try simp only [Act.put, List.setIfInBounds_toArray, List.set_cons_zero, List.set_cons_succ])
                  refine wpAnyH_take (i := 1) (oi := { dst := some 63, op := Op.move (Operand.tmp 13), type := _, pos := _, after := _, guard := _ }) (v := .int .i64 (r : Int)) rfl (by kernel_rfl) (by kernel_rfl) (by kernel_rfl) (fun _ _ _ h => h) (Or.inl ⟨by rfl, fun V (hV : V.cell? ⟨NV, q, none⟩ = some (.int .u32 (wz x)) ∧ V.cell? ⟨w.heap.size + 1, q, none⟩ = some (.int .u32 (wz f))) => by go_simp⟩) hS0 ?_
                  (try simp only [Act.put, List.setIfInBounds_toArray, List.set_cons_zero, List.set_cons_succ])
                  refine wpAnyH_take (i := 2) (oi := { dst := some 64, op := Op.binOp BinOp.quo 3 (Operand.tmp 63) (Operand.const (Value.int IntKind.i64 4)) 3, type := _, pos := _, after := _, guard := _ }) (v := .int .i64 (q : Int)) rfl (by kernel_rfl) (by kernel_rfl) (by kernel_rfl) (fun _ _ _ h => h) (Or.inl ⟨by rfl, fun V (hV : V.cell? ⟨NV, q, none⟩ = some (.int .u32 (wz x)) ∧ V.cell? ⟨w.heap.size + 1, q, none⟩ = some (.int .u32 (wz f))) => by go_simp⟩) hS0 ?_
                  (try simp only [Act.put, List.setIfInBounds_toArray, List.set_cons_zero, List.set_cons_succ])
                  refine wpAnyH_take (i := 3) (oi := { dst := some 65, op := Op.indexAddr 126 (Operand.tmp 10) (Operand.tmp 64), type := _, pos := _, after := _, guard := _ }) (v := .pointer (some ⟨NV, q, none⟩)) rfl (by kernel_rfl) (by kernel_rfl) (by kernel_rfl) (fun _ _ _ h => h) (Or.inl ⟨by rfl, fun V (hV : V.cell? ⟨NV, q, none⟩ = some (.int .u32 (wz x)) ∧ V.cell? ⟨w.heap.size + 1, q, none⟩ = some (.int .u32 (wz f))) => by go_simp⟩) hS0 ?_
                  (try simp only [Act.put, List.setIfInBounds_toArray, List.set_cons_zero, List.set_cons_succ])
                  refine wpAnyH_take (i := 4) (oi := { dst := some 66, op := Op.load 92 (Operand.tmp 65), type := _, pos := _, after := _, guard := _ }) (v := .int .u32 (wz x)) rfl (by kernel_rfl) (by kernel_rfl) (by kernel_rfl) (fun _ _ _ h => h) (Or.inl ⟨by rfl, fun V (hV : V.cell? ⟨NV, q, none⟩ = some (.int .u32 (wz x)) ∧ V.cell? ⟨w.heap.size + 1, q, none⟩ = some (.int .u32 (wz f))) => by (have hv1 := hV.1; have hv2 := hV.2; go_simp)⟩) hS0 ?_
                  (try simp only [Act.put, List.setIfInBounds_toArray, List.set_cons_zero, List.set_cons_succ])
                  refine wpAnyH_take (i := 5) (oi := { dst := some 67, op := Op.move (Operand.tmp 13), type := _, pos := _, after := _, guard := _ }) (v := .int .i64 (r : Int)) rfl (by kernel_rfl) (by kernel_rfl) (by kernel_rfl) (fun _ _ _ h => h) (Or.inl ⟨by rfl, fun V (hV : V.cell? ⟨NV, q, none⟩ = some (.int .u32 (wz x)) ∧ V.cell? ⟨w.heap.size + 1, q, none⟩ = some (.int .u32 (wz f))) => by go_simp⟩) hS0 ?_
                  (try simp only [Act.put, List.setIfInBounds_toArray, List.set_cons_zero, List.set_cons_succ])
                  refine wpAnyH_take (i := 6) (oi := { dst := some 68, op := Op.binOp BinOp.quo 3 (Operand.tmp 67) (Operand.const (Value.int IntKind.i64 4)) 3, type := _, pos := _, after := _, guard := _ }) (v := .int .i64 (q : Int)) rfl (by kernel_rfl) (by kernel_rfl) (by kernel_rfl) (fun _ _ _ h => h) (Or.inl ⟨by rfl, fun V (hV : V.cell? ⟨NV, q, none⟩ = some (.int .u32 (wz x)) ∧ V.cell? ⟨w.heap.size + 1, q, none⟩ = some (.int .u32 (wz f))) => by go_simp⟩) hS0 ?_
                  (try simp only [Act.put, List.setIfInBounds_toArray, List.set_cons_zero, List.set_cons_succ])
                  refine wpAnyH_take (i := 7) (oi := { dst := some 69, op := Op.indexAddr 126 (Operand.tmp 7) (Operand.tmp 68), type := _, pos := _, after := _, guard := _ }) (v := .pointer (some ⟨w.heap.size + 1, q, none⟩)) rfl (by kernel_rfl) (by kernel_rfl) (by kernel_rfl) (fun _ _ _ h => h) (Or.inl ⟨by rfl, fun V (hV : V.cell? ⟨NV, q, none⟩ = some (.int .u32 (wz x)) ∧ V.cell? ⟨w.heap.size + 1, q, none⟩ = some (.int .u32 (wz f))) => by go_simp⟩) hS0 ?_
                  (try simp only [Act.put, List.setIfInBounds_toArray, List.set_cons_zero, List.set_cons_succ])
                  refine wpAnyH_take (i := 8) (oi := { dst := some 70, op := Op.load 92 (Operand.tmp 69), type := _, pos := _, after := _, guard := _ }) (v := .int .u32 (wz f)) rfl (by kernel_rfl) (by kernel_rfl) (by kernel_rfl) (fun _ _ _ h => h) (Or.inl ⟨by rfl, fun V (hV : V.cell? ⟨NV, q, none⟩ = some (.int .u32 (wz x)) ∧ V.cell? ⟨w.heap.size + 1, q, none⟩ = some (.int .u32 (wz f))) => by (have hv1 := hV.1; have hv2 := hV.2; go_simp)⟩) hS0 ?_
                  (try simp only [Act.put, List.setIfInBounds_toArray, List.set_cons_zero, List.set_cons_succ])
                  refine wpAnyH_take (i := 9) (oi := { dst := some 71, op := Op.binOp BinOp.add 92 (Operand.tmp 66) (Operand.tmp 70) 92, type := _, pos := _, after := _, guard := _ }) (v := .int .u32 (wz z)) rfl (by kernel_rfl) (by kernel_rfl) (by kernel_rfl) (fun _ _ _ h => h) (Or.inl ⟨by rfl, fun V (hV : V.cell? ⟨NV, q, none⟩ = some (.int .u32 (wz x)) ∧ V.cell? ⟨w.heap.size + 1, q, none⟩ = some (.int .u32 (wz f))) => by go_simp⟩) hS0 ?_
                  (try simp only [Act.put, List.setIfInBounds_toArray, List.set_cons_zero, List.set_cons_succ])
                  refine wpAnyH_take (i := 10) (oi := { dst := some 72, op := Op.move (Operand.tmp 13), type := _, pos := _, after := _, guard := _ }) (v := .int .i64 (r : Int)) rfl (by kernel_rfl) (by kernel_rfl) (by kernel_rfl) (fun _ _ _ h => h) (Or.inl ⟨by rfl, fun V (hV : V.cell? ⟨NV, q, none⟩ = some (.int .u32 (wz x)) ∧ V.cell? ⟨w.heap.size + 1, q, none⟩ = some (.int .u32 (wz f))) => by go_simp⟩) hS0 ?_
                  (try simp only [Act.put, List.setIfInBounds_toArray, List.set_cons_zero, List.set_cons_succ])
                  refine wpAnyH_take (i := 11) (oi := { dst := some 73, op := Op.binOp BinOp.rem 3 (Operand.tmp 72) (Operand.const (Value.int IntKind.i64 4)) 3, type := _, pos := _, after := _, guard := _ }) (v := .int .i64 (m : Int)) rfl (by kernel_rfl) (by kernel_rfl) (by kernel_rfl) (fun _ _ _ h => h) (Or.inl ⟨by rfl, fun V (hV : V.cell? ⟨NV, q, none⟩ = some (.int .u32 (wz x)) ∧ V.cell? ⟨w.heap.size + 1, q, none⟩ = some (.int .u32 (wz f))) => by go_simp⟩) hS0 ?_
                  (try simp only [Act.put, List.setIfInBounds_toArray, List.set_cons_zero, List.set_cons_succ])
                  refine wpAnyH_take (i := 12) (oi := { dst := some 74, op := Op.binOp BinOp.mul 3 (Operand.const (Value.int IntKind.i64 8)) (Operand.tmp 73) 3, type := _, pos := _, after := _, guard := _ }) (v := .int .i64 (e8 : Int)) rfl (by kernel_rfl) (by kernel_rfl) (by kernel_rfl) (fun _ _ _ h => h) (Or.inl ⟨by rfl, fun V (hV : V.cell? ⟨NV, q, none⟩ = some (.int .u32 (wz x)) ∧ V.cell? ⟨w.heap.size + 1, q, none⟩ = some (.int .u32 (wz f))) => by go_simp⟩) hS0 ?_
                  (try simp only [Act.put, List.setIfInBounds_toArray, List.set_cons_zero, List.set_cons_succ])
                  refine wpAnyH_take (i := 13) (oi := { dst := some 75, op := Op.convert 3 146 (Operand.tmp 74), type := _, pos := _, after := _, guard := _ }) (v := .int .u64 (e8 : Int)) rfl (by kernel_rfl) (by kernel_rfl) (by kernel_rfl) (fun _ _ _ h => h) (Or.inl ⟨by rfl, fun V (hV : V.cell? ⟨NV, q, none⟩ = some (.int .u32 (wz x)) ∧ V.cell? ⟨w.heap.size + 1, q, none⟩ = some (.int .u32 (wz f))) => by go_simp⟩) hS0 ?_
                  (try simp only [Act.put, List.setIfInBounds_toArray, List.set_cons_zero, List.set_cons_succ])
                  refine wpAnyH_take (i := 14) (oi := { dst := some 76, op := Op.binOp BinOp.shr 92 (Operand.tmp 71) (Operand.tmp 75) 146, type := _, pos := _, after := _, guard := _ }) (v := .int .u32 (wz z / 2 ^ e8)) rfl (by kernel_rfl) (by kernel_rfl) (by kernel_rfl) (fun _ _ _ h => h) (Or.inl ⟨by rfl, fun V (hV : V.cell? ⟨NV, q, none⟩ = some (.int .u32 (wz x)) ∧ V.cell? ⟨w.heap.size + 1, q, none⟩ = some (.int .u32 (wz f))) => by go_simp⟩) hS0 ?_
                  (try simp only [Act.put, List.setIfInBounds_toArray, List.set_cons_zero, List.set_cons_succ])
                  refine wpAnyH_take (i := 15) (oi := { dst := some 77, op := Op.convert 92 5 (Operand.tmp 76), type := _, pos := _, after := _, guard := _ }) (v := .int .u8 (wz z / 2 ^ e8 % 256)) rfl (by kernel_rfl) (by kernel_rfl) (by kernel_rfl) (fun _ _ _ h => h) (Or.inl ⟨by rfl, fun V (hV : V.cell? ⟨NV, q, none⟩ = some (.int .u32 (wz x)) ∧ V.cell? ⟨w.heap.size + 1, q, none⟩ = some (.int .u32 (wz f))) => by go_simp⟩) hS0 ?_
                  (try simp only [Act.put, List.setIfInBounds_toArray, List.set_cons_zero, List.set_cons_succ])
                  refine wpAnyH_take (i := 16) (oi := { dst := some 78, op := Op.indexAddr 97 (Operand.tmp 12) (Operand.tmp 62), type := _, pos := _, after := _, guard := _ }) (v := .pointer (some ⟨N12, r, none⟩)) rfl (by kernel_rfl) (by kernel_rfl) (by kernel_rfl) (fun _ _ _ h => h) (Or.inl ⟨by rfl, fun V (hV : V.cell? ⟨NV, q, none⟩ = some (.int .u32 (wz x)) ∧ V.cell? ⟨w.heap.size + 1, q, none⟩ = some (.int .u32 (wz f))) => by go_simp⟩) hS0 ?_
                  (try simp only [Act.put, List.setIfInBounds_toArray, List.set_cons_zero, List.set_cons_succ])
                  refine wpAnyH_ready (rs := [17]) (by kernel_rfl) (by simp) ?_
                  refine AllReadyH.cons (o := { dst := none, op := Op.store 5 (Operand.tmp 78) (Operand.tmp 77), type := _, pos := _, after := _, guard := _ }) rfl (fun K9 hK9 => ?_) AllReadyH.nil
                  go_simp
                  refine hK9.out _ _ hS1 (fun _ => ?_)
                  clear hK9 K9
                  (try simp only [Act.put, List.setIfInBounds_toArray, List.set_cons_zero, List.set_cons_succ])
                  refine wpAnyH_done (by kernel_rfl) ?_ _
                  refine NoPanic.normal ?_
                  go_wp2
                  go_roundw
                  case rel => exact ⟨r + 1, by omega, by go_num, unhide HX2, unhide HQ2, unhide HT2, unhide HO2, unhide HG2⟩
                  case measure => simp [intOf]; omega
                · obtain rfl : r = 64 := by omega
                  rw [show ((64 : Nat) : Int) = 64 from rfl]
                  rw [List.take_of_length_le (by rw [unhide HXL]; exact Nat.le_refl _), Nat.sub_self, List.replicate_zero, List.append_nil, unhide HFIN] at hX
                  have hz64 : (((blockL k n c).map bv).toArray).size = 64 := by simp [blockL_length]
                  have HZ64 := hide hz64
                  clear hz64
                  go_wp2_with (first | (refine wpList_load_row rfl 97 _ rfl N12 rfl _ _ _ _ hX Tryd.underlying97 rfl ?_ ?_; (rw [unhide HZ64]; exact hi64)) | (refine wpList_store_row rfl 97 _ _ rfl w.heap.size _ rfl rfl _ _ hO ?_ ?_ ?_ ?_; (rw [unhide HZ64]; exact hi64); (rw [unhide HZ64]; rfl); (exact all_oneCell_toArray (bv_one _))))
                  have hS := hO.row ((blockL k n c).map bv)
                  have hG2 : w.grownBy (wr.setRow w.heap.size ((blockL k n c).map bv).toArray) none := gb_row hG _ (Or.inl (Nat.le_refl _))
                  refine bodyPost_ret (v := .agg ((blockL k n c).map bv).toArray) (results_cell_row (g := w.heap.size) rfl _ _ _ _ _ _ ?_ hS Tryd.underlying97 rfl ?_) rfl ⟨rfl, hG2⟩
                  · rfl
                  · rw [unhide HZ64]; exact hi64

end Go.Proofs.YtjckdgapefaokaaDoor
