/- What draws' New answers: a source of the texts' bytes, one behind the other, of which nothing was told. Of at most 2 to the 46 bytes together. -/
import Derived.Test.YtkbldpigbkecpaaDoorDMath
import Derived.Test.YtkbldpigbkecpaaDoorDBld
import Derived.Test.YtkbldpigbkecpaaDoorSOfB
namespace Go.Proofs.YtkbldpigbkecpaaDoor
open Go.RowKit

/-- The block b is a source of the texts T, of which u bytes were told. -/
structure SrcAt (w : World) (b : Nat) (T : List UInt8) (u : Nat) : Prop where
  blk : Blk w b 37 (srcC T u)
  glb : Glb b

theorem SrcAt.kept {w a : World} {b : Nat} {T : List UInt8} {u : Nat} {r : Option Nat} (h : SrcAt w b T u) (g : w.grownBy a r) (hr : some b ≠ r) : SrcAt a b T u := ⟨h.blk.kept g hr, h.glb⟩

theorem tabs_src {w a : World} {b : Nat} (h : Tabs w) (hb : Glb b) (g : w.grownBy a (some b)) : Tabs a := h.kept g (fun x e => by cases e; exact hb)

theorem cons_of {n : Nat} (l : List UInt8) (h : l.length = n + 1) : ∃ a r, l = a :: r ∧ r.length = n := by
  cases l with
  | nil => simp at h
  | cons a r => exact ⟨a, r, rfl, by simpa using h⟩

theorem list32 (l : List UInt8) (h : l.length = 32) : ∃ a0 a1 a2 a3 a4 a5 a6 a7 a8 a9 a10 a11 a12 a13 a14 a15 a16 a17 a18 a19 a20 a21 a22 a23 a24 a25 a26 a27 a28 a29 a30 a31, l = [a0, a1, a2, a3, a4, a5, a6, a7, a8, a9, a10, a11, a12, a13, a14, a15, a16, a17, a18, a19, a20, a21, a22, a23, a24, a25, a26, a27, a28, a29, a30, a31] := by
  obtain ⟨a0, l0, e0, h0⟩ := cons_of l h
  obtain ⟨a1, l1, e1, h1⟩ := cons_of l0 h0
  obtain ⟨a2, l2, e2, h2⟩ := cons_of l1 h1
  obtain ⟨a3, l3, e3, h3⟩ := cons_of l2 h2
  obtain ⟨a4, l4, e4, h4⟩ := cons_of l3 h3
  obtain ⟨a5, l5, e5, h5⟩ := cons_of l4 h4
  obtain ⟨a6, l6, e6, h6⟩ := cons_of l5 h5
  obtain ⟨a7, l7, e7, h7⟩ := cons_of l6 h6
  obtain ⟨a8, l8, e8, h8⟩ := cons_of l7 h7
  obtain ⟨a9, l9, e9, h9⟩ := cons_of l8 h8
  obtain ⟨a10, l10, e10, h10⟩ := cons_of l9 h9
  obtain ⟨a11, l11, e11, h11⟩ := cons_of l10 h10
  obtain ⟨a12, l12, e12, h12⟩ := cons_of l11 h11
  obtain ⟨a13, l13, e13, h13⟩ := cons_of l12 h12
  obtain ⟨a14, l14, e14, h14⟩ := cons_of l13 h13
  obtain ⟨a15, l15, e15, h15⟩ := cons_of l14 h14
  obtain ⟨a16, l16, e16, h16⟩ := cons_of l15 h15
  obtain ⟨a17, l17, e17, h17⟩ := cons_of l16 h16
  obtain ⟨a18, l18, e18, h18⟩ := cons_of l17 h17
  obtain ⟨a19, l19, e19, h19⟩ := cons_of l18 h18
  obtain ⟨a20, l20, e20, h20⟩ := cons_of l19 h19
  obtain ⟨a21, l21, e21, h21⟩ := cons_of l20 h20
  obtain ⟨a22, l22, e22, h22⟩ := cons_of l21 h21
  obtain ⟨a23, l23, e23, h23⟩ := cons_of l22 h22
  obtain ⟨a24, l24, e24, h24⟩ := cons_of l23 h23
  obtain ⟨a25, l25, e25, h25⟩ := cons_of l24 h24
  obtain ⟨a26, l26, e26, h26⟩ := cons_of l25 h25
  obtain ⟨a27, l27, e27, h27⟩ := cons_of l26 h26
  obtain ⟨a28, l28, e28, h28⟩ := cons_of l27 h27
  obtain ⟨a29, l29, e29, h29⟩ := cons_of l28 h28
  obtain ⟨a30, l30, e30, h30⟩ := cons_of l29 h29
  obtain ⟨a31, l31, e31, h31⟩ := cons_of l30 h30
  have e32 : l31 = [] := List.eq_nil_of_length_eq_zero h31
  exact ⟨a0, a1, a2, a3, a4, a5, a6, a7, a8, a9, a10, a11, a12, a13, a14, a15, a16, a17, a18, a19, a20, a21, a22, a23, a24, a25, a26, a27, a28, a29, a30, a31, by rw [e0, e1, e2, e3, e4, e5, e6, e7, e8, e9, e10, e11, e12, e13, e14, e15, e16, e17, e18, e19, e20, e21, e22, e23, e24, e25, e26, e27, e28, e29, e30, e31, e32]⟩

theorem wpList_built {P : Program} {ops : Array Oper} {rest : List Oper} {o : Oper} {a : Act} {w : World} {Q : Exit → Act → World → Prop} (hg : o.guard = none) (t : TypeId) (parts : Array (Nat × Operand)) (ho : o.op = .build t parts) (cells : Array Value)
    (hf : P.built t (parts.map fun (i, x) => (i, a.eval x)).toList = some cells)
    (h : wpList P ops Q rest (a.put o.dst (.agg cells)) w) : wpList P ops Q (o :: rest) a w :=
  wpList_build hg t parts ho (by rw [hf]; rfl) (by rw [hf]; exact h)

theorem built_src (s : ByteArray) (sl : List UInt8) (h : sl.length = 32) : Tryd.prog.built 37 [(0, .string s), (1, .agg (sl.map bv).toArray)] = some (Value.string s :: (sl.map bv ++ [.int .u64 0, .int .i64 0])).toArray := by
  obtain ⟨a0, a1, a2, a3, a4, a5, a6, a7, a8, a9, a10, a11, a12, a13, a14, a15, a16, a17, a18, a19, a20, a21, a22, a23, a24, a25, a26, a27, a28, a29, a30, a31, rfl⟩ := list32 sl h
  kernel_rfl

set_option maxRecDepth 100000 in
set_option maxHeartbeats 1000000 in
theorem dnew_any (w : World) (ao : Option Addr) (c : Nat) (L : List (List UInt8)) (hL : Lst w ao c L) (hT : Tabs w) (hlen : L.flatten.length ≤ 70368744177664) :
    Calls Tryd.prog 6 #[.slice ao L.length c] w fun e w' => ∃ b, e = .returned (.pointer (some ⟨b, 0, none⟩)) ∧ w.heap.size ≤ b ∧ SrcAt w' b L.flatten 0 ∧ w.grownBy w' none := by
  obtain ⟨q, hq⟩ : ∃ q, q = L.length := ⟨_, rfl⟩
  rw [← hq]
  have hqc : q ≤ c := by have := hL.fits; omega
  have hqm : q ≤ maxLen := by have := hL.most; omega
  unfold maxLen at hqm
  have HQ := hide hq
  clear hq
  go_enter Tryd.func6, Tryd.ntmps6
  go_wp2
  go_loopw [8] (fun i wr => ∃ k : Nat, k ≤ q ∧ i = .int .i64 k ∧ Lib.IsBuilder 43 5 w.heap.size w.heap.size ((L.take k).flatten.map bv) wr ∧ Below w.heap.size w wr) (fun i _ => q - (intOf i).toNat)
  case atStart => exact ⟨0, Nat.zero_le _, rfl, Lib.fresh_isBuilder _ _ w, (Below.refl _ _).alloc (Nat.le_refl _) _⟩
  case round =>
    obtain ⟨k, hk, rfl, hI, hB⟩ := hrel
    by_cases hlt : k < q
    · have hkL : k < L.length := by have := unhide HQ; omega
      obtain ⟨ad, rfl⟩ : ∃ ad, ao = some ad := by
        cases ao with
        | none => have := hL.zip rfl; omega
        | some ad => exact ⟨ad, rfl⟩
      obtain ⟨ai, ci, hc, hbi⟩ := hL.cell ad rfl k hkL
      have hs := hL.shape ad rfl (by omega)
      obtain ⟨b, o, s⟩ := ad
      simp only at hs hc
      subst hs
      have hcr := (below_gb hB).cell hc (by simp)
      have hfl := flat_len_le L (k + 1)
      rw [flat_take hkL, List.length_append] at hfl
      have hwr := bwrite_any wr w.heap.size w.heap.size _ L[k] ai ci hI (fun a ha => hbi.below (hB.trans ha)) (by omega) hB.size
      rw [← flat_take hkL] at hwr
      obtain ⟨xl, hxl⟩ : ∃ xl, xl = (L[k]).length := ⟨_, rfl⟩
      rw [← hxl] at hcr hwr
      have hq0 : (0 : Int) ≤ (k : Int) := by omega
      clear hI hc hbi hfl hxl hL hT hlen
      go_wp2_with (go_at_call 13; refine hwr.mono ?_; rintro e w2 ⟨rfl, hI2, g2⟩)
      go_roundw
      case rel => exact ⟨k + 1, by omega, by go_num, Or.inr hI2, hB.trans g2⟩
      case measure => simp [intOf]; omega
    · obtain rfl : k = q := by omega
      rw [show L.take k = L by rw [unhide HQ, List.take_length]] at hI
      have hst := bstring_any w.heap.size w.heap.size _ wr hI hB.size
      have hof : ∀ V, Below w.heap.size wr V → Calls Tryd.prog 15 #[.slice ao k c] V fun e w' => e = .returned (.agg ((shaL L.flatten).map bv).toArray) ∧ V.grownBy w' none := fun V hV => by
        have := of_any V ao c L (hL.below (hB.trans hV)) (hT.kept0 (below_gb (hB.trans hV))) (by omega)
        rw [← unhide HQ] at this
        exact this
      obtain ⟨sl, hsl⟩ : ∃ sl, sl = shaL L.flatten := ⟨_, rfl⟩
      obtain ⟨ss, hss⟩ : ∃ ss, ss = str L.flatten := ⟨_, rfl⟩
      rw [← hsl] at hof
      rw [← hss] at hst
      have hl32 : sl.length = 32 := by rw [hsl]; exact shaL_length _
      have hbs := built_src ss sl hl32
      obtain ⟨cs, hcs⟩ : ∃ cs, cs = Value.string ss :: (sl.map bv ++ [.int .u64 0, .int .i64 0]) := ⟨_, rfl⟩
      rw [← hcs] at hbs
      have hsrc : cs = srcC L.flatten 0 := by rw [hcs, hsl, hss]; simp [srcC]
      have HBS := hide hbs
      have HSRC := hide hsrc
      have HT := hide hT
      clear hI hL hbs hl32 hsl hss hcs hsrc hlen hT
      go_wp2_with (first
        | (go_at_call 14; refine hst.mono ?_; rintro e w2 ⟨rfl, g2⟩; clear hst)
        | (go_at_call 15; refine (hof _ g2).mono ?_; rintro e w3 ⟨rfl, g3⟩; clear hof)
        | (refine wpList_built rfl 37 _ rfl cs.toArray ?hbs ?_))
      case hbs => exact unhide HBS
      go_ret
      have g13 : w.grownBy w3 none := gb_trans (below_gb (hB.trans g2)) g3 (fun _ e => by cases e)
      refine ⟨_, rfl, g13.size, ⟨?_, (unhide HT).glb g13.size⟩, gb_alloc g13 _⟩
      rw [← unhide HSRC]
      exact Blk.new w3 _ cs

end Go.Proofs.YtkbldpigbkecpaaDoor
