/- Two sources held against each other as structs: one that was made, or of which something was told, is not a plain one. No condition but those that each lemma names. -/
import Derived.Test.YtkbldpigbkecpaaDoorDNew
namespace Go.Proofs.YtkbldpigbkecpaaDoor
open Go.RowKit

theorem zero_src (w : World) : (zeroValue 37).run Tryd.prog w = .ok (.agg zeroC.toArray) w := by kernel_rfl

theorem eql_zero (w : World) : (binOp .eql 37 (.agg zeroC.toArray) (.agg zeroC.toArray)).run Tryd.prog w = .ok (.bool true) w := by kernel_rfl

theorem pz0 (w : World) : (part 9 zeroC.toArray 0).run Tryd.prog w = .ok (.string (str [])) w := by kernel_rfl
theorem pz1 (w : World) : (part 29 zeroC.toArray 1).run Tryd.prog w = .ok (.agg ((List.replicate 32 (0 : UInt8)).map bv).toArray) w := by kernel_rfl
theorem pz2 (w : World) : (part 35 zeroC.toArray 33).run Tryd.prog w = .ok (.int .u64 0) w := by kernel_rfl
theorem pz3 (w : World) : (part 3 zeroC.toArray 34).run Tryd.prog w = .ok (.int .i64 0) w := by kernel_rfl
theorem ps0 (w : World) (s sl : List UInt8) (f n : Int) : (part 9 (Value.string (str s) :: (sl.map bv ++ [.int .u64 f, .int .i64 n])).toArray 0).run Tryd.prog w = .ok (.string (str s)) w := by kernel_rfl
theorem ps1 (w : World) (s sl : List UInt8) (h : sl.length = 32) (f n : Int) : (part 29 (Value.string (str s) :: (sl.map bv ++ [.int .u64 f, .int .i64 n])).toArray 1).run Tryd.prog w = .ok (.agg (sl.map bv).toArray) w := by
  obtain ⟨a0, a1, a2, a3, a4, a5, a6, a7, a8, a9, a10, a11, a12, a13, a14, a15, a16, a17, a18, a19, a20, a21, a22, a23, a24, a25, a26, a27, a28, a29, a30, a31, rfl⟩ := list32 sl h
  kernel_rfl
theorem ps2 (w : World) (s sl : List UInt8) (h : sl.length = 32) (f n : Int) : (part 35 (Value.string (str s) :: (sl.map bv ++ [.int .u64 f, .int .i64 n])).toArray 33).run Tryd.prog w = .ok (.int .u64 f) w := by
  obtain ⟨a0, a1, a2, a3, a4, a5, a6, a7, a8, a9, a10, a11, a12, a13, a14, a15, a16, a17, a18, a19, a20, a21, a22, a23, a24, a25, a26, a27, a28, a29, a30, a31, rfl⟩ := list32 sl h
  kernel_rfl
theorem ps3 (w : World) (s sl : List UInt8) (h : sl.length = 32) (f n : Int) : (part 3 (Value.string (str s) :: (sl.map bv ++ [.int .u64 f, .int .i64 n])).toArray 34).run Tryd.prog w = .ok (.int .i64 n) w := by
  obtain ⟨a0, a1, a2, a3, a4, a5, a6, a7, a8, a9, a10, a11, a12, a13, a14, a15, a16, a17, a18, a19, a20, a21, a22, a23, a24, a25, a26, a27, a28, a29, a30, a31, rfl⟩ := list32 sl h
  kernel_rfl

theorem es1 (w : World) (d : Nat) (sl : List UInt8) (h : sl.length = 32) : (Op.equalIn (d + 2) 29 (.agg (sl.map bv).toArray) (.agg ((List.replicate 32 (0 : UInt8)).map bv).toArray)).run Tryd.prog w = .ok (sl == List.replicate 32 0) w :=
  run_equalIn_bytes w d 29 5 32 Tryd.underlying29 Tryd.underlying5 size_byte sl (List.replicate 32 0) h (by simp)
theorem es0 (w : World) (d : Nat) (s : List UInt8) : (Op.equalIn (d + 2) 9 (.string (str s)) (.string (str []))).run Tryd.prog w = .ok (s == []) w := by
  rw [run_equalIn_string w (d + 1) _ _ _ Tryd.underlying9, str_list, str_list]
theorem es2 (w : World) (d : Nat) (f : Int) : (Op.equalIn (d + 2) 35 (.int .u64 f) (.int .u64 0)).run Tryd.prog w = .ok (f == 0) w := run_equalIn_int w (d + 1) _ _ _ _ _ Tryd.underlying35
theorem es3 (w : World) (d : Nat) (n : Int) : (Op.equalIn (d + 2) 3 (.int .i64 n) (.int .i64 0)).run Tryd.prog w = .ok (n == 0) w := run_equalIn_int w (d + 1) _ _ _ _ _ Tryd.underlying3

theorem fields_src : Tryd.prog.underlying 37 = some (.struct (Tryd.prog.fieldsOf 37)) := by kernel_rfl
theorem held_src : Tryd.prog.stoodInHeld 37 = false := by kernel_rfl

theorem eq_one {P : Program} (w : World) (d : Nat) (X Z : Array Value) (f : Field) (fs : List Field) (x z : Value) (b : Bool) (hn : (f.name == "_") = false)
    (p : (part f.type X f.offset).run P w = .ok x w) (q : (part f.type Z f.offset).run P w = .ok z w) (e : (Op.equalIn d f.type x z).run P w = .ok b w) :
    (Op.eqFields d X Z (f :: fs)).run P w = (if b then (Op.eqFields d X Z fs).run P w else .ok false w) := by
  have hn' : f.name ≠ "_" := by simpa using hn
  rw [Op.eqFields, if_pos hn']
  simp only [Sem.run_bind, p, q, e, Result.andThen_ok, Sem.run_ite]
  cases b <;> rfl

theorem src_fields : ∃ f0 f1 f2 f3 : Field, (Tryd.prog.fieldsOf 37).toList = [f0, f1, f2, f3] ∧ ((f0.name == "_") = false ∧ f0.type = 9 ∧ f0.offset = 0) ∧ ((f1.name == "_") = false ∧ f1.type = 29 ∧ f1.offset = 1) ∧ ((f2.name == "_") = false ∧ f2.type = 35 ∧ f2.offset = 33) ∧ ((f3.name == "_") = false ∧ f3.type = 3 ∧ f3.offset = 34) := by
  refine ⟨_, _, _, _, by rw [Program.fieldsOf, Tryd.underlying37], ⟨by decide, rfl, rfl⟩, ⟨by decide, rfl, rfl⟩, ⟨by decide, rfl, rfl⟩, ⟨by decide, rfl, rfl⟩⟩

theorem equalIn_src (w : World) (d : Nat) (s sl : List UInt8) (h : sl.length = 32) (f n : Int) (hno : ¬ (s = [] ∧ sl = List.replicate 32 0 ∧ n = 0)) :
    (Op.equalIn (d + 3) 37 (.agg (Value.string (str s) :: (sl.map bv ++ [.int .u64 f, .int .i64 n])).toArray) (.agg zeroC.toArray)).run Tryd.prog w = .ok false w := by
  obtain ⟨f0, f1, f2, f3, hf, ⟨n0, t0, o0⟩, ⟨n1, t1, o1⟩, ⟨n2, t2, o2⟩, ⟨n3, t3, o3⟩⟩ := src_fields
  rw [run_equalIn_struct w (d + 2) _ _ _ fields_src held_src, hf,
    eq_one w (d + 2) _ _ f0 [f1, f2, f3] _ _ _ n0 (by rw [t0, o0]; exact ps0 w s sl f n) (by rw [t0, o0]; exact pz0 w) (by rw [t0]; exact es0 w d s)]
  by_cases h0 : s = []
  · rw [if_pos (by simpa using h0), eq_one w (d + 2) _ _ f1 [f2, f3] _ _ _ n1 (by rw [t1, o1]; exact ps1 w s sl h f n) (by rw [t1, o1]; exact pz1 w) (by rw [t1]; exact es1 w d sl h)]
    by_cases h1 : sl = List.replicate 32 0
    · have h3 : n ≠ 0 := fun e => hno ⟨h0, h1, e⟩
      rw [if_pos (by rw [beq_iff_eq]; exact h1), eq_one w (d + 2) _ _ f2 [f3] _ _ _ n2 (by rw [t2, o2]; exact ps2 w s sl h f n) (by rw [t2, o2]; exact pz2 w) (by rw [t2]; exact es2 w d f)]
      by_cases h2 : f = 0
      · rw [if_pos (by simpa using h2), eq_one w (d + 2) _ _ f3 [] _ _ _ n3 (by rw [t3, o3]; exact ps3 w s sl h f n) (by rw [t3, o3]; exact pz3 w) (by rw [t3]; exact es3 w d n)]
        rw [if_neg (by simpa using h3)]
      · rw [if_neg (by simpa using h2)]
    · rw [if_neg (by rw [beq_iff_eq]; exact h1)]
  · rw [if_neg (by simpa using h0)]

theorem eql_src (w : World) (s sl : List UInt8) (h : sl.length = 32) (f n : Int) (hno : ¬ (s = [] ∧ sl = List.replicate 32 0 ∧ n = 0)) :
    (binOp .eql 37 (.agg (Value.string (str s) :: (sl.map bv ++ [.int .u64 f, .int .i64 n])).toArray) (.agg zeroC.toArray)).run Tryd.prog w = .ok (.bool false) w := by
  rw [run_eql_struct]
  have := equalIn_src w 9997 s sl h f n hno
  rw [this]
  rfl

end Go.Proofs.YtkbldpigbkecpaaDoor
