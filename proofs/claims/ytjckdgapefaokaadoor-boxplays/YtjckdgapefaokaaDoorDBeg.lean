/- What draws' New answers: a source of the texts' bytes, one behind the other, of which nothing was told. Of at most 2 to the 46 bytes together. -/
import Derived.Test.YtjckdgapefaokaaDoorDMath
import Derived.Test.YtjckdgapefaokaaDoorDBld
import Derived.Test.YtjckdgapefaokaaDoorSOfB
namespace Go.Proofs.YtjckdgapefaokaaDoor
open Go.RowKit

/-- The block b is a source of the texts T, of which u bytes were told. -/
structure SrcAt (w : World) (b : Nat) (T : List UInt8) (u : Nat) : Prop where
  blk : Blk w b 77 (srcC T u)
  glb : Glb b

theorem SrcAt.kept {w a : World} {b : Nat} {T : List UInt8} {u : Nat} {r : Option Nat} (h : SrcAt w b T u) (g : w.grownBy a r) (hr : some b ≠ r) : SrcAt a b T u := ⟨h.blk.kept g hr, h.glb⟩

theorem tabs_src {w a : World} {b : Nat} (h : Tabs w) (hb : Glb b) (g : w.grownBy a (some b)) : Tabs a := h.kept g (fun x e => by cases e; exact hb)

theorem cons_of {n : Nat} (l : List UInt8) (h : l.length = n + 1) : ∃ a r, l = a :: r ∧ r.length = n := by
  cases l with
  | nil => simp at h
  | cons a r => exact ⟨a, r, rfl, by simpa using h⟩

theorem list32 (l : List UInt8) (h : l.length = 32) : ∃ a0 a1 a2 a3 a4 a5 a6 a7 a8 a9 a10 a11 a12 a13 a14 a15 a16 a17 a18 a19 a20 a21 a22 a23 a24 a25 a26 a27 a28 a29 a30 a31, l = [a0, a1, a2, a3, a4, a5, a6, a7, a8, a9, a10, a11, a12, a13, a14, a15, a16, a17, a18, a19, a20, a21, a22, a23, a24, a25, a26, a27, a28, a29, a30, a31] := by
  obtain ⟨a0, l0, e0, h0⟩ := cons_of l h
  obtain ⟨a1, l1, e1, h1⟩ := cons_of l0 h0
  obtain ⟨a2, l2, e2, h2⟩ := cons_of l1 h1
  obtain ⟨a3, l3, e3, h3⟩ := cons_of l2 h2
  obtain ⟨a4, l4, e4, h4⟩ := cons_of l3 h3
  obtain ⟨a5, l5, e5, h5⟩ := cons_of l4 h4
  obtain ⟨a6, l6, e6, h6⟩ := cons_of l5 h5
  obtain ⟨a7, l7, e7, h7⟩ := cons_of l6 h6
  obtain ⟨a8, l8, e8, h8⟩ := cons_of l7 h7
  obtain ⟨a9, l9, e9, h9⟩ := cons_of l8 h8
  obtain ⟨a10, l10, e10, h10⟩ := cons_of l9 h9
  obtain ⟨a11, l11, e11, h11⟩ := cons_of l10 h10
  obtain ⟨a12, l12, e12, h12⟩ := cons_of l11 h11
  obtain ⟨a13, l13, e13, h13⟩ := cons_of l12 h12
  obtain ⟨a14, l14, e14, h14⟩ := cons_of l13 h13
  obtain ⟨a15, l15, e15, h15⟩ := cons_of l14 h14
  obtain ⟨a16, l16, e16, h16⟩ := cons_of l15 h15
  obtain ⟨a17, l17, e17, h17⟩ := cons_of l16 h16
  obtain ⟨a18, l18, e18, h18⟩ := cons_of l17 h17
  obtain ⟨a19, l19, e19, h19⟩ := cons_of l18 h18
  obtain ⟨a20, l20, e20, h20⟩ := cons_of l19 h19
  obtain ⟨a21, l21, e21, h21⟩ := cons_of l20 h20
  obtain ⟨a22, l22, e22, h22⟩ := cons_of l21 h21
  obtain ⟨a23, l23, e23, h23⟩ := cons_of l22 h22
  obtain ⟨a24, l24, e24, h24⟩ := cons_of l23 h23
  obtain ⟨a25, l25, e25, h25⟩ := cons_of l24 h24
  obtain ⟨a26, l26, e26, h26⟩ := cons_of l25 h25
  obtain ⟨a27, l27, e27, h27⟩ := cons_of l26 h26
  obtain ⟨a28, l28, e28, h28⟩ := cons_of l27 h27
  obtain ⟨a29, l29, e29, h29⟩ := cons_of l28 h28
  obtain ⟨a30, l30, e30, h30⟩ := cons_of l29 h29
  obtain ⟨a31, l31, e31, h31⟩ := cons_of l30 h30
  have e32 : l31 = [] := List.eq_nil_of_length_eq_zero h31
  exact ⟨a0, a1, a2, a3, a4, a5, a6, a7, a8, a9, a10, a11, a12, a13, a14, a15, a16, a17, a18, a19, a20, a21, a22, a23, a24, a25, a26, a27, a28, a29, a30, a31, by rw [e0, e1, e2, e3, e4, e5, e6, e7, e8, e9, e10, e11, e12, e13, e14, e15, e16, e17, e18, e19, e20, e21, e22, e23, e24, e25, e26, e27, e28, e29, e30, e31, e32]⟩

theorem wpList_built {P : Program} {ops : Array Oper} {rest : List Oper} {o : Oper} {a : Act} {w : World} {Q : Exit → Act → World → Prop} (hg : o.guard = none) (t : TypeId) (parts : Array (Nat × Operand)) (ho : o.op = .build t parts) (cells : Array Value)
    (hf : P.built t (parts.map fun (i, x) => (i, a.eval x)).toList = some cells)
    (h : wpList P ops Q rest (a.put o.dst (.agg cells)) w) : wpList P ops Q (o :: rest) a w :=
  wpList_build hg t parts ho (by rw [hf]; rfl) (by rw [hf]; exact h)

theorem built_src (s : ByteArray) (sl : List UInt8) (h : sl.length = 32) : Tryd.prog.built 77 [(0, .string s), (1, .agg (sl.map bv).toArray)] = some (Value.string s :: (sl.map bv ++ [.int .u64 0, .int .i64 0])).toArray := by
  obtain ⟨a0, a1, a2, a3, a4, a5, a6, a7, a8, a9, a10, a11, a12, a13, a14, a15, a16, a17, a18, a19, a20, a21, a22, a23, a24, a25, a26, a27, a28, a29, a30, a31, rfl⟩ := list32 sl h
  kernel_rfl

set_option maxRecDepth 100000 in
set_option maxHeartbeats 1000000 in
theorem dnew_any (w : World) (ao : Option Addr) (c : Nat) (L : List (List UInt8)) (hL : Lst w ao c L) (hT : Tabs w) (hlen : L.flatten.length ≤ 70368744177664) :
    Calls Tryd.prog 9 #[.slice ao L.length c] w fun e w' => ∃ b, e = .returned (.pointer (some ⟨b, 0, none⟩)) ∧ w.heap.size ≤ b ∧ SrcAt w' b L.flatten 0 ∧ w.grownBy w' none := by
  obtain ⟨q, hq⟩ : ∃ q, q = L.length := ⟨_, rfl⟩
  rw [← hq]
  have hqc : q ≤ c := by have := hL.fits; omega
  have hqm : q ≤ maxLen := by have := hL.most; omega
  unfold maxLen at hqm
  have HQ := hide hq
  clear hq
  go_enter Tryd.func9, Tryd.ntmps9
  go_wp2
  go_loopw [8] (fun i wr => ∃ k : Nat, k ≤ q ∧ i = .int .i64 k ∧ Lib.IsBuilder 68 5 w.heap.size w.heap.size ((L.take k).flatten.map bv) wr ∧ Below w.heap.size w wr) (fun i _ => q - (intOf i).toNat)
  case atStart => exact ⟨0, Nat.zero_le _, rfl, Lib.fresh_isBuilder _ _ w, (Below.refl _ _).alloc (Nat.le_refl _) _⟩
  case round =>
    obtain ⟨k, hk, rfl, hI, hB⟩ := hrel
    by_cases hlt : k < q
    · have hkL : k < L.length := by have := unhide HQ; omega
      obtain ⟨ad, rfl⟩ : ∃ ad, ao = some ad := by
        cases ao with
        | none => have := hL.zip rfl; omega
        | some ad => exact ⟨ad, rfl⟩
      obtain ⟨ai, ci, hc, hbi⟩ := hL.cell ad rfl k hkL
      have hs := hL.shape ad rfl (by omega)
      obtain ⟨b, o, s⟩ := ad
      simp only at hs hc
      subst hs
      have hcr := (below_gb hB).cell hc (by simp)
      have hfl := flat_len_le L (k + 1)
      rw [flat_take hkL, List.length_append] at hfl
      have hwr := bwrite_any wr w.heap.size w.heap.size _ L[k] ai ci hI (fun a ha => hbi.below (hB.trans ha)) (by omega) hB.size
      rw [← flat_take hkL] at hwr
      obtain ⟨xl, hxl⟩ : ∃ xl, xl = (L[k]).length := ⟨_, rfl⟩
      rw [← hxl] at hcr hwr
      have hq0 : (0 : Int) ≤ (k : Int) := by omega
      clear hI hc hbi hfl hxl hL hT hlen
      go_wp2_with (go_at_call 24; refine hwr.mono ?_; rintro e w2 ⟨rfl, hI2, g2⟩)
      go_roundw
      case rel => exact ⟨k + 1, by omega, by go_num, Or.inr hI2, hB.trans g2⟩
      case measure => simp [intOf]; omega
    · obtain rfl : k = q := by omega
      rw [show L.take k = L by rw [unhide HQ, List.take_length]] at hI
      have hst := bstring_any w.heap.size w.heap.size _ wr hI hB.size
      have hof : ∀ V, Below w.heap.size wr V → Calls Tryd.prog 26 #[.slice ao k c] V fun e w' => e = .returned (.agg ((shaL L.flatten).map bv).toArray) ∧ V.grownBy w' none := fun V hV => by
        have := of_any V ao c L (hL.below (hB.trans hV)) (hT.kept0 (below_gb (hB.trans hV))) (by omega)
        rw [← unhide HQ] at this
        exact this
      obtain ⟨sl, hsl⟩ : ∃ sl, sl = shaL L.flatten := ⟨_, rfl⟩
      obtain ⟨ss, hss⟩ : ∃ ss, ss = str L.flatten := ⟨_, rfl⟩
      rw [← hsl] at hof
      rw [← hss] at hst
      have hl32 : sl.length = 32 := by rw [hsl]; exact shaL_length _
      have hbs := built_src ss sl hl32
      obtain ⟨cs, hcs⟩ : ∃ cs, cs = Value.string ss :: (sl.map bv ++ [.int .u64 0, .int .i64 0]) := ⟨_, rfl⟩
      rw [← hcs] at hbs
      have hsrc : cs = srcC L.flatten 0 := by rw [hcs, hsl, hss]; simp [srcC]
      have HBS := hide hbs
      have HSRC := hide hsrc
      have HT := hide hT
      clear hI hL hbs hl32 hsl hss hcs hsrc hlen hT
      go_wp2_with (first
        | (go_at_call 25; refine hst.mono ?_; rintro e w2 ⟨rfl, g2⟩; clear hst)
        | (go_at_call 26; refine (hof _ g2).mono ?_; rintro e w3 ⟨rfl, g3⟩; clear hof)
        | (refine wpList_built rfl 77 _ rfl cs.toArray ?hbs ?_))
      case hbs => exact unhide HBS
      go_ret
      have g13 : w.grownBy w3 none := gb_trans (below_gb (hB.trans g2)) g3 (fun _ e => by cases e)
      refine ⟨_, rfl, g13.size, ⟨?_, (unhide HT).glb g13.size⟩, gb_alloc g13 _⟩
      rw [← unhide HSRC]
      exact Blk.new w3 _ cs

end Go.Proofs.YtjckdgapefaokaaDoor

/- Two sources held against each other as structs: one that was made, or of which something was told, is not a plain one. No condition but those that each lemma names. -/
namespace Go.Proofs.YtjckdgapefaokaaDoor
open Go.RowKit

theorem zero_src (w : World) : (zeroValue 77).run Tryd.prog w = .ok (.agg zeroC.toArray) w := by kernel_rfl

theorem eql_zero (w : World) : (binOp .eql 77 (.agg zeroC.toArray) (.agg zeroC.toArray)).run Tryd.prog w = .ok (.bool true) w := by kernel_rfl

theorem pz0 (w : World) : (part 9 zeroC.toArray 0).run Tryd.prog w = .ok (.string (str [])) w := by kernel_rfl
theorem pz1 (w : World) : (part 36 zeroC.toArray 1).run Tryd.prog w = .ok (.agg ((List.replicate 32 (0 : UInt8)).map bv).toArray) w := by kernel_rfl
theorem pz2 (w : World) : (part 75 zeroC.toArray 33).run Tryd.prog w = .ok (.int .u64 0) w := by kernel_rfl
theorem pz3 (w : World) : (part 3 zeroC.toArray 34).run Tryd.prog w = .ok (.int .i64 0) w := by kernel_rfl
theorem ps0 (w : World) (s sl : List UInt8) (f n : Int) : (part 9 (Value.string (str s) :: (sl.map bv ++ [.int .u64 f, .int .i64 n])).toArray 0).run Tryd.prog w = .ok (.string (str s)) w := by kernel_rfl
theorem ps1 (w : World) (s sl : List UInt8) (h : sl.length = 32) (f n : Int) : (part 36 (Value.string (str s) :: (sl.map bv ++ [.int .u64 f, .int .i64 n])).toArray 1).run Tryd.prog w = .ok (.agg (sl.map bv).toArray) w := by
  obtain ⟨a0, a1, a2, a3, a4, a5, a6, a7, a8, a9, a10, a11, a12, a13, a14, a15, a16, a17, a18, a19, a20, a21, a22, a23, a24, a25, a26, a27, a28, a29, a30, a31, rfl⟩ := list32 sl h
  kernel_rfl
theorem ps2 (w : World) (s sl : List UInt8) (h : sl.length = 32) (f n : Int) : (part 75 (Value.string (str s) :: (sl.map bv ++ [.int .u64 f, .int .i64 n])).toArray 33).run Tryd.prog w = .ok (.int .u64 f) w := by
  obtain ⟨a0, a1, a2, a3, a4, a5, a6, a7, a8, a9, a10, a11, a12, a13, a14, a15, a16, a17, a18, a19, a20, a21, a22, a23, a24, a25, a26, a27, a28, a29, a30, a31, rfl⟩ := list32 sl h
  kernel_rfl
theorem ps3 (w : World) (s sl : List UInt8) (h : sl.length = 32) (f n : Int) : (part 3 (Value.string (str s) :: (sl.map bv ++ [.int .u64 f, .int .i64 n])).toArray 34).run Tryd.prog w = .ok (.int .i64 n) w := by
  obtain ⟨a0, a1, a2, a3, a4, a5, a6, a7, a8, a9, a10, a11, a12, a13, a14, a15, a16, a17, a18, a19, a20, a21, a22, a23, a24, a25, a26, a27, a28, a29, a30, a31, rfl⟩ := list32 sl h
  kernel_rfl

theorem es1 (w : World) (d : Nat) (sl : List UInt8) (h : sl.length = 32) : (Op.equalIn (d + 2) 36 (.agg (sl.map bv).toArray) (.agg ((List.replicate 32 (0 : UInt8)).map bv).toArray)).run Tryd.prog w = .ok (sl == List.replicate 32 0) w :=
  run_equalIn_bytes w d 36 5 32 Tryd.underlying36 Tryd.underlying5 size_byte sl (List.replicate 32 0) h (by simp)
theorem es0 (w : World) (d : Nat) (s : List UInt8) : (Op.equalIn (d + 2) 9 (.string (str s)) (.string (str []))).run Tryd.prog w = .ok (s == []) w := by
  rw [run_equalIn_string w (d + 1) _ _ _ Tryd.underlying9, str_list, str_list]
theorem es2 (w : World) (d : Nat) (f : Int) : (Op.equalIn (d + 2) 75 (.int .u64 f) (.int .u64 0)).run Tryd.prog w = .ok (f == 0) w := run_equalIn_int w (d + 1) _ _ _ _ _ Tryd.underlying75
theorem es3 (w : World) (d : Nat) (n : Int) : (Op.equalIn (d + 2) 3 (.int .i64 n) (.int .i64 0)).run Tryd.prog w = .ok (n == 0) w := run_equalIn_int w (d + 1) _ _ _ _ _ Tryd.underlying3

theorem fields_src : Tryd.prog.underlying 77 = some (.struct (Tryd.prog.fieldsOf 77)) := by kernel_rfl
theorem held_src : Tryd.prog.stoodInHeld 77 = false := by kernel_rfl

theorem eq_one {P : Program} (w : World) (d : Nat) (X Z : Array Value) (f : Field) (fs : List Field) (x z : Value) (b : Bool) (hn : (f.name == "_") = false)
    (p : (part f.type X f.offset).run P w = .ok x w) (q : (part f.type Z f.offset).run P w = .ok z w) (e : (Op.equalIn d f.type x z).run P w = .ok b w) :
    (Op.eqFields d X Z (f :: fs)).run P w = (if b then (Op.eqFields d X Z fs).run P w else .ok false w) := by
  have hn' : f.name ≠ "_" := by simpa using hn
  rw [Op.eqFields, if_pos hn']
  simp only [Sem.run_bind, p, q, e, Result.andThen_ok, Sem.run_ite]
  cases b <;> rfl

theorem src_fields : ∃ f0 f1 f2 f3 : Field, (Tryd.prog.fieldsOf 77).toList = [f0, f1, f2, f3] ∧ ((f0.name == "_") = false ∧ f0.type = 9 ∧ f0.offset = 0) ∧ ((f1.name == "_") = false ∧ f1.type = 36 ∧ f1.offset = 1) ∧ ((f2.name == "_") = false ∧ f2.type = 75 ∧ f2.offset = 33) ∧ ((f3.name == "_") = false ∧ f3.type = 3 ∧ f3.offset = 34) := by
  refine ⟨_, _, _, _, by rw [Program.fieldsOf, Tryd.underlying77], ⟨by decide, rfl, rfl⟩, ⟨by decide, rfl, rfl⟩, ⟨by decide, rfl, rfl⟩, ⟨by decide, rfl, rfl⟩⟩

theorem equalIn_src (w : World) (d : Nat) (s sl : List UInt8) (h : sl.length = 32) (f n : Int) (hno : ¬ (s = [] ∧ sl = List.replicate 32 0 ∧ n = 0)) :
    (Op.equalIn (d + 3) 77 (.agg (Value.string (str s) :: (sl.map bv ++ [.int .u64 f, .int .i64 n])).toArray) (.agg zeroC.toArray)).run Tryd.prog w = .ok false w := by
  obtain ⟨f0, f1, f2, f3, hf, ⟨n0, t0, o0⟩, ⟨n1, t1, o1⟩, ⟨n2, t2, o2⟩, ⟨n3, t3, o3⟩⟩ := src_fields
  rw [run_equalIn_struct w (d + 2) _ _ _ fields_src held_src, hf,
    eq_one w (d + 2) _ _ f0 [f1, f2, f3] _ _ _ n0 (by rw [t0, o0]; exact ps0 w s sl f n) (by rw [t0, o0]; exact pz0 w) (by rw [t0]; exact es0 w d s)]
  by_cases h0 : s = []
  · rw [if_pos (by simpa using h0), eq_one w (d + 2) _ _ f1 [f2, f3] _ _ _ n1 (by rw [t1, o1]; exact ps1 w s sl h f n) (by rw [t1, o1]; exact pz1 w) (by rw [t1]; exact es1 w d sl h)]
    by_cases h1 : sl = List.replicate 32 0
    · have h3 : n ≠ 0 := fun e => hno ⟨h0, h1, e⟩
      rw [if_pos (by rw [beq_iff_eq]; exact h1), eq_one w (d + 2) _ _ f2 [f3] _ _ _ n2 (by rw [t2, o2]; exact ps2 w s sl h f n) (by rw [t2, o2]; exact pz2 w) (by rw [t2]; exact es2 w d f)]
      by_cases h2 : f = 0
      · rw [if_pos (by simpa using h2), eq_one w (d + 2) _ _ f3 [] _ _ _ n3 (by rw [t3, o3]; exact ps3 w s sl h f n) (by rw [t3, o3]; exact pz3 w) (by rw [t3]; exact es3 w d n)]
        rw [if_neg (by simpa using h3)]
      · rw [if_neg (by simpa using h2)]
    · rw [if_neg (by rw [beq_iff_eq]; exact h1)]
  · rw [if_neg (by simpa using h0)]

theorem eql_src (w : World) (s sl : List UInt8) (h : sl.length = 32) (f n : Int) (hno : ¬ (s = [] ∧ sl = List.replicate 32 0 ∧ n = 0)) :
    (binOp .eql 77 (.agg (Value.string (str s) :: (sl.map bv ++ [.int .u64 f, .int .i64 n])).toArray) (.agg zeroC.toArray)).run Tryd.prog w = .ok (.bool false) w := by
  rw [run_eql_struct]
  have := equalIn_src w 9997 s sl h f n hno
  rw [this]
  rfl

end Go.Proofs.YtjckdgapefaokaaDoor

/- What begin, Used and Clone of draws' Source answer. No condition but those that each lemma names. -/
namespace Go.Proofs.YtjckdgapefaokaaDoor
open Go.RowKit

theorem info_src : (Tryd.prog.info? 77).map (·.size) = some 35 := by kernel_rfl

theorem built_zero : Tryd.prog.built 77 [] = some zeroC.toArray := by kernel_rfl

theorem not_plain (T : List UInt8) (u : Nat) : ¬ (T.drop u = [] ∧ shaL T = List.replicate 32 0 ∧ ((u : Nat) : Int) = 0) := by
  rintro ⟨h1, h2, h3⟩
  obtain rfl : u = 0 := by omega
  rw [List.drop_zero] at h1
  subst h1
  exact sha_nothing h2

/-- Two structs held against each other, by what is known of that. -/
theorem wpList_same {P : Program} {ops : Array Oper} {rest : List Oper} {o : Oper} {a : Act} {w : World} {Q : Exit → Act → World → Prop} (hg : o.guard = none) (t t' : TypeId) (x y : Operand) (ho : o.op = .binOp .eql t x y t') (X Z : Array Value) (r : Bool)
    (hx : a.eval x = .agg X) (hy : a.eval y = .agg Z) (hm : P.eqGuardType P.depth t = false) (hq : (binOp .eql t (.agg X) (.agg Z)).run P w = .ok (.bool r) w)
    (h : wpList P ops Q rest (a.put o.dst (.bool r)) w) : wpList P ops Q (o :: rest) a w :=
  wpList_plain hg fun K hK => by
    unfold Oper.wp execOp
    simp only [ho, hx, hy, Sem.run_bind, run_eqGuard_agg w .eql t x y X Z hm, hq, Result.andThen_ok]
    exact hK _ _ h

theorem guard_src : Tryd.prog.eqGuardType Tryd.prog.depth 77 = false := by kernel_rfl

set_option maxRecDepth 100000 in
theorem begin_src (w : World) (b : Nat) (T : List UInt8) (u : Nat) (h : SrcAt w b T u) :
    Calls Tryd.prog 48 #[.pointer (some ⟨b, 0, none⟩)] w fun e w' => e = .returned (.tuple #[]) ∧ w' = w := by
  have hq := eql_src w (T.drop u) (shaL T) (shaL_length _) ((u - T.length : Nat) : Int) (u : Int) (not_plain T u)
  have hB : w.heap[b]? = some (.cells (srcC T u).toArray 77 (0, 0)) := h.blk
  have hsz : (srcC T u).toArray.size = 35 := by simpa using srcC_length T u
  have hbz := built_zero
  rw [show Value.string (str (T.drop u)) :: ((shaL T).map bv ++ [.int .u64 ((u - T.length : Nat) : Int), .int .i64 (u : Int)]) = srcC T u from rfl] at hq
  obtain ⟨X, hX⟩ : ∃ X, X = (srcC T u).toArray := ⟨_, rfl⟩
  obtain ⟨Z, hZ⟩ : ∃ Z, Z = zeroC.toArray := ⟨_, rfl⟩
  rw [← hX] at hq hB hsz
  rw [← hZ] at hbz hq
  have HQ := hide hq
  clear hq
  have HB := hide hB
  have HBZ := hide hbz
  have HSZ := hide hsz
  clear hX hZ hB hbz hsz h
  go_enter Tryd.func48, Tryd.ntmps48
  go_wp2_with (first
    | (refine wpList_load_row rfl 77 _ rfl b rfl _ _ _ _ (unhide HB) Tryd.underlying77 rfl ?_ ?_; (rw [unhide HSZ]; exact info_src))
    | (refine wpList_built rfl 77 _ rfl Z ?hbz ?_)
    | (refine wpList_same rfl 77 _ _ _ rfl _ _ _ rfl rfl guard_src (unhide HQ) ?_))
  case hbz => exact unhide HBZ
  go_end0
  exact ⟨rfl, rfl⟩

set_option maxRecDepth 100000 in
theorem begin_plain (w : World) (b : Nat) (h : Blk w b 77 zeroC) (hg : Glb b) (hT : Tabs w) :
    Calls Tryd.prog 48 #[.pointer (some ⟨b, 0, none⟩)] w fun e w' => e = .returned (.tuple #[]) ∧ SrcAt w' b [] 0 ∧ w.grownBy w' (some b) := by
  have hq := eql_zero w
  have hB : w.heap[b]? = some (.cells zeroC.toArray 77 (0, 0)) := h
  have hsz : zeroC.toArray.size = 35 := by rfl
  have hbz := built_zero
  have hn := dnew_any w none 0 [] ⟨(fun _ => ⟨rfl, rfl⟩), Nat.le_refl _, Nat.zero_le _, (fun _ e => by cases e), (fun _ e => by cases e)⟩ hT (by simp)
  have hsr : (srcC [] 0).toArray.size = 35 := by simpa using srcC_length [] 0
  have hone := all_oneCell_toArray (srcC_one [] 0)
  have hlt := h.lt
  obtain ⟨Z, hZ⟩ : ∃ Z, Z = zeroC.toArray := ⟨_, rfl⟩
  obtain ⟨X, hX⟩ : ∃ X, X = srcC [] 0 := ⟨_, rfl⟩
  rw [← hZ] at hbz hq hB hsz
  rw [← hX] at hsr hone
  have HQ := hide hq
  clear hq
  have HB := hide hB
  have HBZ := hide hbz
  have HSZ := hide hsz
  have HSR := hide hsr
  have HX := hide hX
  clear hX hZ hB hbz hsz hsr h hT
  go_enter Tryd.func48, Tryd.ntmps48
  go_wp2_with (first
    | (refine wpList_load_row rfl 77 _ rfl b rfl _ _ _ _ (unhide HB) Tryd.underlying77 rfl ?_ ?_; (rw [unhide HSZ]; exact info_src))
    | (refine wpList_built rfl 77 _ rfl Z ?hbz ?_)
    | (refine wpList_same rfl 77 _ _ _ rfl _ _ _ rfl rfl guard_src (unhide HQ) ?_)
    | (go_at_call 9; refine hn.mono ?_; rintro e w2 ⟨n, rfl, hnb, hS, g2⟩; have hB2 : w2.heap[n]? = some (.cells X.toArray 77 (0, 0)) := (by have := hS.blk; rw [List.flatten_nil, ← unhide HX] at this; exact this); have hO2 : w2.heap[b]? = some (.cells Z 77 (0, 0)) := (by rw [g2.block b hlt (by simp)]; exact unhide HB); clear hn hS)
    | (refine wpList_load_row rfl 77 _ rfl n rfl _ _ _ _ hB2 Tryd.underlying77 rfl ?_ ?_; (rw [unhide HSR]; exact info_src))
    | (refine wpList_store_row rfl 77 _ _ rfl b _ rfl rfl _ _ hO2 ?_ ?_ hone ?_; (rw [unhide HSR]; exact info_src); (rw [unhide HSR, unhide HSZ])))
  case hbz => exact unhide HBZ
  go_end0
  refine ⟨rfl, ⟨?_, hg⟩, gb_row (gb_none _ g2) _ (Or.inr rfl)⟩
  rw [← unhide HX]
  have hO3 : Blk w2 b 77 Z.toList := by unfold Blk; simpa using hO2
  exact hO3.row X

theorem SrcAt.used {w : World} {b : Nat} {T : List UInt8} {u : Nat} (h : SrcAt w b T u) : w.cell? ⟨b, 34, none⟩ = some (.int .i64 u) := by
  rw [h.blk.cell]
  simp [srcC, shaL_length]
theorem SrcAt.followed {w : World} {b : Nat} {T : List UInt8} {u : Nat} (h : SrcAt w b T u) : w.cell? ⟨b, 33, none⟩ = some (.int .u64 ((u - T.length : Nat) : Int)) := by
  rw [h.blk.cell]
  simp [srcC, shaL_length]
theorem SrcAt.ahead {w : World} {b : Nat} {T : List UInt8} {u : Nat} (h : SrcAt w b T u) : w.cell? ⟨b, 0, none⟩ = some (.string (str (T.drop u))) := by
  rw [h.blk.cell]
  simp [srcC]


end Go.Proofs.YtjckdgapefaokaaDoor
