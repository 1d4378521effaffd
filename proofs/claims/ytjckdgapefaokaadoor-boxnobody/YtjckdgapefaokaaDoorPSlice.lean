/- Two sources held against each other as structs: one that was made, or of which something was told, is not a plain one. No condition but those that each lemma names. -/
import Derived.Test.YtjckdgapefaokaaDoorDNew
import Derived.Test.YtjckdgapefaokaaDoorBMap
namespace Go.Proofs.YtjckdgapefaokaaDoor
open Go.RowKit

theorem zero_src (w : World) : (zeroValue 77).run Tryd.prog w = .ok (.agg zeroC.toArray) w := by kernel_rfl

theorem eql_zero (w : World) : (binOp .eql 77 (.agg zeroC.toArray) (.agg zeroC.toArray)).run Tryd.prog w = .ok (.bool true) w := by kernel_rfl

theorem pz0 (w : World) : (part 9 zeroC.toArray 0).run Tryd.prog w = .ok (.string (str [])) w := by kernel_rfl
theorem pz1 (w : World) : (part 36 zeroC.toArray 1).run Tryd.prog w = .ok (.agg ((List.replicate 32 (0 : UInt8)).map bv).toArray) w := by kernel_rfl
theorem pz2 (w : World) : (part 75 zeroC.toArray 33).run Tryd.prog w = .ok (.int .u64 0) w := by kernel_rfl
theorem pz3 (w : World) : (part 3 zeroC.toArray 34).run Tryd.prog w = .ok (.int .i64 0) w := by kernel_rfl
theorem ps0 (w : World) (s sl : List UInt8) (f n : Int) : (part 9 (Value.string (str s) :: (sl.map bv ++ [.int .u64 f, .int .i64 n])).toArray 0).run Tryd.prog w = .ok (.string (str s)) w := by kernel_rfl
theorem ps1 (w : World) (s sl : List UInt8) (h : sl.length = 32) (f n : Int) : (part 36 (Value.string (str s) :: (sl.map bv ++ [.int .u64 f, .int .i64 n])).toArray 1).run Tryd.prog w = .ok (.agg (sl.map bv).toArray) w := by
  obtain ⟨a0, a1, a2, a3, a4, a5, a6, a7, a8, a9, a10, a11, a12, a13, a14, a15, a16, a17, a18, a19, a20, a21, a22, a23, a24, a25, a26, a27, a28, a29, a30, a31, rfl⟩ := list32 sl h
  kernel_rfl
theorem ps2 (w : World) (s sl : List UInt8) (h : sl.length = 32) (f n : Int) : (part 75 (Value.string (str s) :: (sl.map bv ++ [.int .u64 f, .int .i64 n])).toArray 33).run Tryd.prog w = .ok (.int .u64 f) w := by
  obtain ⟨a0, a1, a2, a3, a4, a5, a6, a7, a8, a9, a10, a11, a12, a13, a14, a15, a16, a17, a18, a19, a20, a21, a22, a23, a24, a25, a26, a27, a28, a29, a30, a31, rfl⟩ := list32 sl h
  kernel_rfl
theorem ps3 (w : World) (s sl : List UInt8) (h : sl.length = 32) (f n : Int) : (part 3 (Value.string (str s) :: (sl.map bv ++ [.int .u64 f, .int .i64 n])).toArray 34).run Tryd.prog w = .ok (.int .i64 n) w := by
  obtain ⟨a0, a1, a2, a3, a4, a5, a6, a7, a8, a9, a10, a11, a12, a13, a14, a15, a16, a17, a18, a19, a20, a21, a22, a23, a24, a25, a26, a27, a28, a29, a30, a31, rfl⟩ := list32 sl h
  kernel_rfl

theorem es1 (w : World) (d : Nat) (sl : List UInt8) (h : sl.length = 32) : (Op.equalIn (d + 2) 36 (.agg (sl.map bv).toArray) (.agg ((List.replicate 32 (0 : UInt8)).map bv).toArray)).run Tryd.prog w = .ok (sl == List.replicate 32 0) w :=
  run_equalIn_bytes w d 36 5 32 Tryd.underlying36 Tryd.underlying5 size_byte sl (List.replicate 32 0) h (by simp)
theorem es0 (w : World) (d : Nat) (s : List UInt8) : (Op.equalIn (d + 2) 9 (.string (str s)) (.string (str []))).run Tryd.prog w = .ok (s == []) w := by
  rw [run_equalIn_string w (d + 1) _ _ _ Tryd.underlying9, str_list, str_list]
theorem es2 (w : World) (d : Nat) (f : Int) : (Op.equalIn (d + 2) 75 (.int .u64 f) (.int .u64 0)).run Tryd.prog w = .ok (f == 0) w := run_equalIn_int w (d + 1) _ _ _ _ _ Tryd.underlying75
theorem es3 (w : World) (d : Nat) (n : Int) : (Op.equalIn (d + 2) 3 (.int .i64 n) (.int .i64 0)).run Tryd.prog w = .ok (n == 0) w := run_equalIn_int w (d + 1) _ _ _ _ _ Tryd.underlying3

theorem fields_src : Tryd.prog.underlying 77 = some (.struct (Tryd.prog.fieldsOf 77)) := by kernel_rfl
theorem held_src : Tryd.prog.stoodInHeld 77 = false := by kernel_rfl

theorem eq_one {P : Program} (w : World) (d : Nat) (X Z : Array Value) (f : Field) (fs : List Field) (x z : Value) (b : Bool) (hn : (f.name == "_") = false)
    (p : (part f.type X f.offset).run P w = .ok x w) (q : (part f.type Z f.offset).run P w = .ok z w) (e : (Op.equalIn d f.type x z).run P w = .ok b w) :
    (Op.eqFields d X Z (f :: fs)).run P w = (if b then (Op.eqFields d X Z fs).run P w else .ok false w) := by
  have hn' : f.name ≠ "_" := by simpa using hn
  rw [Op.eqFields, if_pos hn']
  simp only [Sem.run_bind, p, q, e, Result.andThen_ok, Sem.run_ite]
  cases b <;> rfl

theorem src_fields : ∃ f0 f1 f2 f3 : Field, (Tryd.prog.fieldsOf 77).toList = [f0, f1, f2, f3] ∧ ((f0.name == "_") = false ∧ f0.type = 9 ∧ f0.offset = 0) ∧ ((f1.name == "_") = false ∧ f1.type = 36 ∧ f1.offset = 1) ∧ ((f2.name == "_") = false ∧ f2.type = 75 ∧ f2.offset = 33) ∧ ((f3.name == "_") = false ∧ f3.type = 3 ∧ f3.offset = 34) := by
  refine ⟨_, _, _, _, by rw [Program.fieldsOf, Tryd.underlying77], ⟨by decide, rfl, rfl⟩, ⟨by decide, rfl, rfl⟩, ⟨by decide, rfl, rfl⟩, ⟨by decide, rfl, rfl⟩⟩

theorem equalIn_src (w : World) (d : Nat) (s sl : List UInt8) (h : sl.length = 32) (f n : Int) (hno : ¬ (s = [] ∧ sl = List.replicate 32 0 ∧ n = 0)) :
    (Op.equalIn (d + 3) 77 (.agg (Value.string (str s) :: (sl.map bv ++ [.int .u64 f, .int .i64 n])).toArray) (.agg zeroC.toArray)).run Tryd.prog w = .ok false w := by
  obtain ⟨f0, f1, f2, f3, hf, ⟨n0, t0, o0⟩, ⟨n1, t1, o1⟩, ⟨n2, t2, o2⟩, ⟨n3, t3, o3⟩⟩ := src_fields
  rw [run_equalIn_struct w (d + 2) _ _ _ fields_src held_src, hf,
    eq_one w (d + 2) _ _ f0 [f1, f2, f3] _ _ _ n0 (by rw [t0, o0]; exact ps0 w s sl f n) (by rw [t0, o0]; exact pz0 w) (by rw [t0]; exact es0 w d s)]
  by_cases h0 : s = []
  · rw [if_pos (by simpa using h0), eq_one w (d + 2) _ _ f1 [f2, f3] _ _ _ n1 (by rw [t1, o1]; exact ps1 w s sl h f n) (by rw [t1, o1]; exact pz1 w) (by rw [t1]; exact es1 w d sl h)]
    by_cases h1 : sl = List.replicate 32 0
    · have h3 : n ≠ 0 := fun e => hno ⟨h0, h1, e⟩
      rw [if_pos (by rw [beq_iff_eq]; exact h1), eq_one w (d + 2) _ _ f2 [f3] _ _ _ n2 (by rw [t2, o2]; exact ps2 w s sl h f n) (by rw [t2, o2]; exact pz2 w) (by rw [t2]; exact es2 w d f)]
      by_cases h2 : f = 0
      · rw [if_pos (by simpa using h2), eq_one w (d + 2) _ _ f3 [] _ _ _ n3 (by rw [t3, o3]; exact ps3 w s sl h f n) (by rw [t3, o3]; exact pz3 w) (by rw [t3]; exact es3 w d n)]
        rw [if_neg (by simpa using h3)]
      · rw [if_neg (by simpa using h2)]
    · rw [if_neg (by rw [beq_iff_eq]; exact h1)]
  · rw [if_neg (by simpa using h0)]

theorem eql_src (w : World) (s sl : List UInt8) (h : sl.length = 32) (f n : Int) (hno : ¬ (s = [] ∧ sl = List.replicate 32 0 ∧ n = 0)) :
    (binOp .eql 77 (.agg (Value.string (str s) :: (sl.map bv ++ [.int .u64 f, .int .i64 n])).toArray) (.agg zeroC.toArray)).run Tryd.prog w = .ok (.bool false) w := by
  rw [run_eql_struct]
  have := equalIn_src w 9997 s sl h f n hno
  rw [this]
  rfl

end Go.Proofs.YtjckdgapefaokaaDoor

/- What begin, Used and Clone of draws' Source answer. No condition but those that each lemma names. -/
namespace Go.Proofs.YtjckdgapefaokaaDoor
open Go.RowKit

theorem info_src : (Tryd.prog.info? 77).map (·.size) = some 35 := by kernel_rfl

theorem built_zero : Tryd.prog.built 77 [] = some zeroC.toArray := by kernel_rfl

theorem not_plain (T : List UInt8) (u : Nat) : ¬ (T.drop u = [] ∧ shaL T = List.replicate 32 0 ∧ ((u : Nat) : Int) = 0) := by
  rintro ⟨h1, h2, h3⟩
  obtain rfl : u = 0 := by omega
  rw [List.drop_zero] at h1
  subst h1
  exact sha_nothing h2

/-- Two structs held against each other, by what is known of that. -/
theorem wpList_same {P : Program} {ops : Array Oper} {rest : List Oper} {o : Oper} {a : Act} {w : World} {Q : Exit → Act → World → Prop} (hg : o.guard = none) (t t' : TypeId) (x y : Operand) (ho : o.op = .binOp .eql t x y t') (X Z : Array Value) (r : Bool)
    (hx : a.eval x = .agg X) (hy : a.eval y = .agg Z) (hm : P.eqGuardType P.depth t = false) (hq : (binOp .eql t (.agg X) (.agg Z)).run P w = .ok (.bool r) w)
    (h : wpList P ops Q rest (a.put o.dst (.bool r)) w) : wpList P ops Q (o :: rest) a w :=
  wpList_plain hg fun K hK => by
    unfold Oper.wp execOp
    simp only [ho, hx, hy, Sem.run_bind, run_eqGuard_agg w .eql t x y X Z hm, hq, Result.andThen_ok]
    exact hK _ _ h

theorem guard_src : Tryd.prog.eqGuardType Tryd.prog.depth 77 = false := by kernel_rfl

set_option maxRecDepth 100000 in
theorem begin_src (w : World) (b : Nat) (T : List UInt8) (u : Nat) (h : SrcAt w b T u) :
    Calls Tryd.prog 48 #[.pointer (some ⟨b, 0, none⟩)] w fun e w' => e = .returned (.tuple #[]) ∧ w' = w := by
  have hq := eql_src w (T.drop u) (shaL T) (shaL_length _) ((u - T.length : Nat) : Int) (u : Int) (not_plain T u)
  have hB : w.heap[b]? = some (.cells (srcC T u).toArray 77 (0, 0)) := h.blk
  have hsz : (srcC T u).toArray.size = 35 := by simpa using srcC_length T u
  have hbz := built_zero
  rw [show Value.string (str (T.drop u)) :: ((shaL T).map bv ++ [.int .u64 ((u - T.length : Nat) : Int), .int .i64 (u : Int)]) = srcC T u from rfl] at hq
  obtain ⟨X, hX⟩ : ∃ X, X = (srcC T u).toArray := ⟨_, rfl⟩
  obtain ⟨Z, hZ⟩ : ∃ Z, Z = zeroC.toArray := ⟨_, rfl⟩
  rw [← hX] at hq hB hsz
  rw [← hZ] at hbz hq
  have HQ := hide hq
  clear hq
  have HB := hide hB
  have HBZ := hide hbz
  have HSZ := hide hsz
  clear hX hZ hB hbz hsz h
  go_enter Tryd.func48, Tryd.ntmps48
  go_wp2_with (first
    | (refine wpList_load_row rfl 77 _ rfl b rfl _ _ _ _ (unhide HB) Tryd.underlying77 rfl ?_ ?_; (rw [unhide HSZ]; exact info_src))
    | (refine wpList_built rfl 77 _ rfl Z ?hbz ?_)
    | (refine wpList_same rfl 77 _ _ _ rfl _ _ _ rfl rfl guard_src (unhide HQ) ?_))
  case hbz => exact unhide HBZ
  go_end0
  exact ⟨rfl, rfl⟩

set_option maxRecDepth 100000 in
theorem begin_plain (w : World) (b : Nat) (h : Blk w b 77 zeroC) (hg : Glb b) (hT : Tabs w) :
    Calls Tryd.prog 48 #[.pointer (some ⟨b, 0, none⟩)] w fun e w' => e = .returned (.tuple #[]) ∧ SrcAt w' b [] 0 ∧ w.grownBy w' (some b) := by
  have hq := eql_zero w
  have hB : w.heap[b]? = some (.cells zeroC.toArray 77 (0, 0)) := h
  have hsz : zeroC.toArray.size = 35 := by rfl
  have hbz := built_zero
  have hn := dnew_any w none 0 [] ⟨(fun _ => ⟨rfl, rfl⟩), Nat.le_refl _, Nat.zero_le _, (fun _ e => by cases e), (fun _ e => by cases e)⟩ hT (by simp)
  have hsr : (srcC [] 0).toArray.size = 35 := by simpa using srcC_length [] 0
  have hone := all_oneCell_toArray (srcC_one [] 0)
  have hlt := h.lt
  obtain ⟨Z, hZ⟩ : ∃ Z, Z = zeroC.toArray := ⟨_, rfl⟩
  obtain ⟨X, hX⟩ : ∃ X, X = srcC [] 0 := ⟨_, rfl⟩
  rw [← hZ] at hbz hq hB hsz
  rw [← hX] at hsr hone
  have HQ := hide hq
  clear hq
  have HB := hide hB
  have HBZ := hide hbz
  have HSZ := hide hsz
  have HSR := hide hsr
  have HX := hide hX
  clear hX hZ hB hbz hsz hsr h hT
  go_enter Tryd.func48, Tryd.ntmps48
  go_wp2_with (first
    | (refine wpList_load_row rfl 77 _ rfl b rfl _ _ _ _ (unhide HB) Tryd.underlying77 rfl ?_ ?_; (rw [unhide HSZ]; exact info_src))
    | (refine wpList_built rfl 77 _ rfl Z ?hbz ?_)
    | (refine wpList_same rfl 77 _ _ _ rfl _ _ _ rfl rfl guard_src (unhide HQ) ?_)
    | (go_at_call 9; refine hn.mono ?_; rintro e w2 ⟨n, rfl, hnb, hS, g2⟩; have hB2 : w2.heap[n]? = some (.cells X.toArray 77 (0, 0)) := (by have := hS.blk; rw [List.flatten_nil, ← unhide HX] at this; exact this); have hO2 : w2.heap[b]? = some (.cells Z 77 (0, 0)) := (by rw [g2.block b hlt (by simp)]; exact unhide HB); clear hn hS)
    | (refine wpList_load_row rfl 77 _ rfl n rfl _ _ _ _ hB2 Tryd.underlying77 rfl ?_ ?_; (rw [unhide HSR]; exact info_src))
    | (refine wpList_store_row rfl 77 _ _ rfl b _ rfl rfl _ _ hO2 ?_ ?_ hone ?_; (rw [unhide HSR]; exact info_src); (rw [unhide HSR, unhide HSZ])))
  case hbz => exact unhide HBZ
  go_end0
  refine ⟨rfl, ⟨?_, hg⟩, gb_row (gb_none _ g2) _ (Or.inr rfl)⟩
  rw [← unhide HX]
  have hO3 : Blk w2 b 77 Z.toList := by unfold Blk; simpa using hO2
  exact hO3.row X

theorem SrcAt.used {w : World} {b : Nat} {T : List UInt8} {u : Nat} (h : SrcAt w b T u) : w.cell? ⟨b, 34, none⟩ = some (.int .i64 u) := by
  rw [h.blk.cell]
  simp [srcC, shaL_length]
theorem SrcAt.followed {w : World} {b : Nat} {T : List UInt8} {u : Nat} (h : SrcAt w b T u) : w.cell? ⟨b, 33, none⟩ = some (.int .u64 ((u - T.length : Nat) : Int)) := by
  rw [h.blk.cell]
  simp [srcC, shaL_length]
theorem SrcAt.ahead {w : World} {b : Nat} {T : List UInt8} {u : Nat} (h : SrcAt w b T u) : w.cell? ⟨b, 0, none⟩ = some (.string (str (T.drop u))) := by
  rw [h.blk.cell]
  simp [srcC]


end Go.Proofs.YtjckdgapefaokaaDoor

/- Parts of arrays in memory as slices, and what they hold. No condition but those that each lemma names. -/
namespace Go.Proofs.YtjckdgapefaokaaDoor
open Go.RowKit

theorem slice_arr_head {P : Program} (t e : TypeId) (n : Nat) (ht : P.underlying t = some (.array n e)) (hz : ∀ w, (Go.sizeOf e).run P w = .ok 1 w) (b hi : Nat) (h2 : hi ≤ n) (h3 : 0 < n) (W : World) :
    (Instr.sliceAt t (.pointer (some ⟨b, 0, none⟩)) none (some (.int .i64 (hi : Int))) none).run P W = .ok (.slice (some ⟨b, 0, none⟩) hi n) W := by
  have ea : P.arrayLen t = n := by simp [Program.arrayLen, ht]
  have ee : P.elem t = e := by simp [Program.elem, ht]
  rw [run_sliceAt_array_h W t ⟨b, 0, none⟩ (by rw [ea, ee]; exact ht) .i64 _ (by omega) (by omega), ea, ee, hz]
  simp only [Result.andThen_ok, slicedAt, Int.toNat_natCast, Nat.zero_mul, Nat.sub_zero]
  rw [if_neg (by omega), Addr.add_mid]
theorem blk_head {w : World} {b : Nat} {t : TypeId} {l : List UInt8} (h : Blk w b t (l.map bv)) (n : Nat) : w.rangeAt b 0 ((l.take n).map bv) := by
  have : Blk w b t ([] ++ ((l.take n).map bv ++ (l.drop n).map bv)) := by
    rw [List.nil_append, ← List.map_append, List.take_append_drop]; exact h
  exact this.range
theorem blk_range5 {w : World} {b : Nat} {t : TypeId} {vs : List Value} (h : Blk w b t vs) : w.rangeAt b 0 vs := by
  have : Blk w b t ([] ++ (vs ++ [])) := by simpa using h
  exact this.range
theorem slice_arr_tail {P : Program} (t e : TypeId) (n : Nat) (ht : P.underlying t = some (.array n e)) (hz : ∀ w, (Go.sizeOf e).run P w = .ok 1 w) (b lo : Nat) (h2 : lo < n) (W : World) :
    (Instr.sliceAt t (.pointer (some ⟨b, 0, none⟩)) (some (.int .i64 (lo : Int))) none none).run P W = .ok (.slice (some ⟨b, lo, none⟩) (n - lo) (n - lo)) W := by
  have ea : P.arrayLen t = n := by simp [Program.arrayLen, ht]
  have ee : P.elem t = e := by simp [Program.elem, ht]
  rw [run_sliceAt_array_l W t ⟨b, 0, none⟩ (by rw [ea, ee]; exact ht) .i64 _ (by omega) (by omega), ea, ee, hz]
  simp only [Result.andThen_ok, slicedAt, Int.toNat_natCast, Nat.mul_one]
  rw [if_neg (by omega), Addr.add_mid, Nat.zero_add]
theorem blk_bytes {w : World} {b : Nat} {t : TypeId} {l : List UInt8} (h : Blk w b t (l.map bv)) (c : Nat) (hc : l.length ≤ c) (hm : c ≤ maxLen) : Bts w (some ⟨b, 0, none⟩) c l := by
  refine ⟨(fun e => by cases e), hc, hm, (fun ad e _ => by cases e; rfl), (fun ad e i hi => ?_)⟩
  cases e
  show w.cell? ⟨b, 0 + i, none⟩ = _
  rw [Nat.zero_add, h.cell, List.getElem?_map, List.getElem?_eq_getElem hi]
  rfl
theorem slice_whole5 {P : Program} (t e : TypeId) (n : Nat) (ht : P.underlying t = some (.array n e)) (hz : ∀ w, (Go.sizeOf e).run P w = .ok 1 w) (b o : Nat) (h3 : 0 < n) (W : World) :
    (Instr.sliceAt t (.pointer (some ⟨b, o, none⟩)) none none none).run P W = .ok (.slice (some ⟨b, o, none⟩) n n) W := by
  have ea : P.arrayLen t = n := by simp [Program.arrayLen, ht]
  have ee : P.elem t = e := by simp [Program.elem, ht]
  rw [run_sliceAt_array_all W t ⟨b, o, none⟩ (by rw [ea, ee]; exact ht), ea, ee, hz]
  simp only [Result.andThen_ok, slicedAt, Nat.zero_mul, Nat.sub_zero]
  rw [if_neg (by omega), Addr.add_mid]
  rfl
/-- A part with no spare room. -/
theorem slice_shut {P : Program} (W : World) (t e : TypeId) (ht : P.underlying t = some (.slice e)) (hz : ∀ w, (Go.sizeOf e).run P w = .ok 1 w) (ao : Option Addr) (n c k : Nat) (hk : k ≤ c) :
    (Instr.slice t (.slice ao n c) none (some (.int .i64 (k : Int))) (some (.int .i64 (k : Int)))).run P W = .ok (.slice ao k k) W := by
  have ht' : P.underlying t = some (.slice (P.elem t)) := by simp [Program.elem, ht]
  have he : P.elem t = e := by simp [Program.elem, ht]
  rw [run_slice_hm W t _ _ _ ht' .i64 .i64 _ _ (by omega) (by omega) (by omega), he, hz]
  cases ao <;> simp [Result.andThen, sliced, Addr.add]
/-- The second half of a block, as bytes. -/
theorem blk_back {w : World} {b : Nat} {t : TypeId} {l : List UInt8} (h : Blk w b t (l.map bv)) (o c : Nat) (hc : l.length - o ≤ c) (hm : c ≤ maxLen) : Bts w (some ⟨b, o, none⟩) c (l.drop o) := by
  refine ⟨(fun e => by cases e), by simpa using hc, hm, (fun ad e _ => by cases e; rfl), (fun ad e i hi => ?_)⟩
  cases e
  show w.cell? ⟨b, o + i, none⟩ = _
  have hi2 : o + i < l.length := by simp at hi; omega
  rw [h.cell, List.getElem?_map, List.getElem?_eq_getElem hi2]
  simp [bv]

end Go.Proofs.YtjckdgapefaokaaDoor
