/- What sha's Of answers: the sum of texts is that of all of them, one behind the other. Of fewer than 2 to the 59 bytes together. -/
import Derived.Test.YtjckdgapefaokaaDoorSSum
import Derived.Test.YtjckdgapefaokaaDoorMStr
import Derived.Stop.BytesEq
import Derived.Test.YtjckdgapefaokaaDoorCMath
import Derived.Test.YtjckdgapefaokaaDoorSWord
namespace Go.Proofs.YtjckdgapefaokaaDoor
open Go.RowKit

theorem Bts.offNew {w : World} {ao : Option Addr} {c b : Nat} {x : List UInt8} (h : Bts w ao c x) (hb : w.heap.size ≤ b) : 0 < x.length → Off ao b := by
  intro h0 ad e e2
  have h1 := h.cell ad e 0 h0
  have := World.block_lt_of_cell? w _ h1
  simp only at this
  omega

theorem HAt.fresh (w : World) : HAt (w.alloc (.cells (hc (List.replicate 8 0) (List.replicate 64 0) 0).toArray 99)) w.heap.size 99 [] [] (List.replicate 8 0) (List.replicate 64 0) [] :=
  ⟨by have := Blk.new w 99 (hc (List.replicate 8 0) (List.replicate 64 0) 0); simpa using this, Took.none⟩

theorem flat_take {L : List (List UInt8)} {k : Nat} (h : k < L.length) : (L.take (k + 1)).flatten = (L.take k).flatten ++ L[k] := by
  rw [takeL_snoc h, List.flatten_append]; simp

theorem flat_len_le (L : List (List UInt8)) (k : Nat) : ((L.take k).flatten).length ≤ L.flatten.length := by
  conv => rhs; rw [← List.take_append_drop k L, List.flatten_append, List.length_append]
  omega

set_option maxRecDepth 100000 in
set_option maxHeartbeats 1000000 in
theorem of_any (w : World) (ao : Option Addr) (c : Nat) (L : List (List UInt8)) (hL : Lst w ao c L) (hT : Tabs w) (hlen : L.flatten.length < 576460752303423488) :
    Calls Tryd.prog 26 #[.slice ao L.length c] w fun e w' => e = .returned (.agg ((shaL L.flatten).map bv).toArray) ∧ w.grownBy w' none := by
  have hi32 : (Tryd.prog.info? 36).map (·.size) = some 32 := by kernel_rfl
  obtain ⟨Z, hZ⟩ : ∃ Z : Array Value, Z = (hc (List.replicate 8 0) (List.replicate 64 0) 0).toArray := ⟨_, rfl⟩
  have hzv := hash_zero
  rw [← hZ] at hzv
  obtain ⟨q, hq⟩ : ∃ q, q = L.length := ⟨_, rfl⟩
  rw [← hq]
  have hqc : q ≤ c := by have := hL.fits; omega
  have hqm : q ≤ maxLen := by have := hL.most; omega
  unfold maxLen at hqm
  have HZ := hide hZ
  have HQ := hide hq
  clear hZ hq
  go_enter Tryd.func26, Tryd.ntmps26
  go_wp2
  go_loopw [8] (fun i wr => ∃ (k : Nat) (words : List W) (rest : List UInt8), k ≤ q ∧ i = .int .i64 k ∧ HAt wr (w.heap.size + 1) 99 [] [] words rest (L.take k).flatten ∧ Blk wr w.heap.size 36 ((List.replicate 32 (0 : UInt8)).map bv) ∧ w.grownBy wr none) (fun i _ => q - (intOf i).toNat)
  case atStart =>
    refine ⟨0, List.replicate 8 0, List.replicate 64 0, Nat.zero_le _, rfl, ?_, ?_, gb_alloc (gb_alloc (gb_refl _ _) _) _⟩
    · rw [unhide HZ]
      have := HAt.fresh (w.alloc (.cells ((List.replicate 32 (0 : UInt8)).map bv).toArray 36))
      rw [World.size_alloc] at this
      exact this
    · exact (Blk.new w 36 ((List.replicate 32 (0 : UInt8)).map bv)).alloc _
  case round =>
    obtain ⟨k, words, rest, hk, rfl, hH, hR, hg⟩ := hrel
    by_cases hlt : k < q
    · have hkL : k < L.length := by have := unhide HQ; omega
      obtain ⟨ad, rfl⟩ : ∃ ad, ao = some ad := by
        cases ao with
        | none => have := hL.zip rfl; omega
        | some ad => exact ⟨ad, rfl⟩
      obtain ⟨ai, ci, hc, hbi⟩ := hL.cell ad rfl k hkL
      have hs := hL.shape ad rfl (by omega)
      obtain ⟨b, o, s⟩ := ad
      simp only at hs hc
      subst hs
      have hcr := hg.cell hc (by simp)
      have hbr := hbi.kept hg (fun x e => by cases e)
      have hfl := flat_len_le L (k + 1)
      rw [flat_take hkL, List.length_append] at hfl
      have hwr := write_any wr (w.heap.size + 1) 99 [] [] words rest _ hH (hT.kept0 hg) (hT.glb (by omega)) ai ci L[k] hbr (hbi.offNew (by omega)) (by omega)
      rw [show ([] : List Value).length = 0 from rfl, ← flat_take hkL] at hwr
      obtain ⟨xl, hxl⟩ : ∃ xl, xl = (L[k]).length := ⟨_, rfl⟩
      rw [← hxl] at hcr hwr
      have HR := hide hR
      have hq0 : (0 : Int) ≤ (k : Int) := by omega
      clear hH hc hbi hbr hfl hxl hL hR hT hlen
      go_wp2_with (go_at_call 40; refine hwr.mono ?_; rintro e w2 ⟨rfl, ⟨wo, re, hH2⟩, g2⟩)
      go_roundw
      case rel => exact ⟨k + 1, wo, re, by omega, by go_num, hH2, (unhide HR).kept g2 (by simp), gb_trans hg g2 (fun y e => by cases e; exact Or.inl (by omega))⟩
      case measure => simp [intOf]; omega
    · obtain rfl : k = q := by omega
      rw [show L.take k = L by rw [unhide HQ, List.take_length]] at hH
      have hsm := sum_any wr (w.heap.size + 1) 99 [] [] words rest _ hH (hT.kept0 hg) hlen
      rw [show ([] : List Value).length = 0 from rfl] at hsm
      obtain ⟨sl, hsl⟩ : ∃ sl, sl = shaL L.flatten := ⟨_, rfl⟩
      rw [← hsl] at hsm
      have hl32 : sl.length = 32 := by rw [hsl]; exact shaL_length _
      have hsz : ((sl.map bv).toArray).size = 32 := by simp [hl32]
      have HSZ := hide hsz
      have HSL := hide hsl
      clear hsz hl32 hsl hH hL
      go_wp2_with (first | (go_at_call 41; refine hsm.mono ?_; rintro e w2 ⟨rfl, g2⟩; have hR2 := hR.kept g2 (by simp)) | (refine wpList_store_row rfl 36 _ _ rfl w.heap.size _ rfl rfl _ _ hR2 ?_ ?_ ?_ ?_; (rw [unhide HSZ]; exact hi32); (rw [unhide HSZ]; rfl); (exact all_oneCell_toArray (bv_one _))))
      have hS := hR2.row (sl.map bv)
      have hG : w.grownBy (w2.setRow w.heap.size (sl.map bv).toArray) none := gb_row (gb_trans hg g2 (fun y e => by cases e)) _ (Or.inl (Nat.le_refl _))
      refine bodyPost_ret (v := .agg (sl.map bv).toArray) (results_cell_row (g := w.heap.size) rfl _ _ _ _ _ _ ?_ hS Tryd.underlying36 rfl ?_) rfl ⟨?_, hG⟩
      · rfl
      · rw [unhide HSZ]; exact hi32
      · rw [unhide HSL]

theorem eql_sums (w : World) (xs ys : List UInt8) (hx : xs.length = 32) (hy : ys.length = 32) : (binOp .eql 36 (.agg (xs.map bv).toArray) (.agg (ys.map bv).toArray)).run Tryd.prog w = .ok (.bool (xs == ys)) w :=
  run_eql_bytes w 36 5 32 Tryd.underlying36 Tryd.underlying5 size_byte xs ys hx hy

end Go.Proofs.YtjckdgapefaokaaDoor

/- What draws' New answers: a source of the texts' bytes, one behind the other, of which nothing was told. Of at most 2 to the 46 bytes together. -/
namespace Go.Proofs.YtjckdgapefaokaaDoor
open Go.RowKit

/-- The block b is a source of the texts T, of which u bytes were told. -/
structure SrcAt (w : World) (b : Nat) (T : List UInt8) (u : Nat) : Prop where
  blk : Blk w b 77 (srcC T u)
  glb : Glb b

theorem SrcAt.kept {w a : World} {b : Nat} {T : List UInt8} {u : Nat} {r : Option Nat} (h : SrcAt w b T u) (g : w.grownBy a r) (hr : some b ≠ r) : SrcAt a b T u := ⟨h.blk.kept g hr, h.glb⟩

theorem tabs_src {w a : World} {b : Nat} (h : Tabs w) (hb : Glb b) (g : w.grownBy a (some b)) : Tabs a := h.kept g (fun x e => by cases e; exact hb)

theorem cons_of {n : Nat} (l : List UInt8) (h : l.length = n + 1) : ∃ a r, l = a :: r ∧ r.length = n := by
  cases l with
  | nil => simp at h
  | cons a r => exact ⟨a, r, rfl, by simpa using h⟩

theorem list32 (l : List UInt8) (h : l.length = 32) : ∃ a0 a1 a2 a3 a4 a5 a6 a7 a8 a9 a10 a11 a12 a13 a14 a15 a16 a17 a18 a19 a20 a21 a22 a23 a24 a25 a26 a27 a28 a29 a30 a31, l = [a0, a1, a2, a3, a4, a5, a6, a7, a8, a9, a10, a11, a12, a13, a14, a15, a16, a17, a18, a19, a20, a21, a22, a23, a24, a25, a26, a27, a28, a29, a30, a31] := by
  obtain ⟨a0, l0, e0, h0⟩ := cons_of l h
  obtain ⟨a1, l1, e1, h1⟩ := cons_of l0 h0
  obtain ⟨a2, l2, e2, h2⟩ := cons_of l1 h1
  obtain ⟨a3, l3, e3, h3⟩ := cons_of l2 h2
  obtain ⟨a4, l4, e4, h4⟩ := cons_of l3 h3
  obtain ⟨a5, l5, e5, h5⟩ := cons_of l4 h4
  obtain ⟨a6, l6, e6, h6⟩ := cons_of l5 h5
  obtain ⟨a7, l7, e7, h7⟩ := cons_of l6 h6
  obtain ⟨a8, l8, e8, h8⟩ := cons_of l7 h7
  obtain ⟨a9, l9, e9, h9⟩ := cons_of l8 h8
  obtain ⟨a10, l10, e10, h10⟩ := cons_of l9 h9
  obtain ⟨a11, l11, e11, h11⟩ := cons_of l10 h10
  obtain ⟨a12, l12, e12, h12⟩ := cons_of l11 h11
  obtain ⟨a13, l13, e13, h13⟩ := cons_of l12 h12
  obtain ⟨a14, l14, e14, h14⟩ := cons_of l13 h13
  obtain ⟨a15, l15, e15, h15⟩ := cons_of l14 h14
  obtain ⟨a16, l16, e16, h16⟩ := cons_of l15 h15
  obtain ⟨a17, l17, e17, h17⟩ := cons_of l16 h16
  obtain ⟨a18, l18, e18, h18⟩ := cons_of l17 h17
  obtain ⟨a19, l19, e19, h19⟩ := cons_of l18 h18
  obtain ⟨a20, l20, e20, h20⟩ := cons_of l19 h19
  obtain ⟨a21, l21, e21, h21⟩ := cons_of l20 h20
  obtain ⟨a22, l22, e22, h22⟩ := cons_of l21 h21
  obtain ⟨a23, l23, e23, h23⟩ := cons_of l22 h22
  obtain ⟨a24, l24, e24, h24⟩ := cons_of l23 h23
  obtain ⟨a25, l25, e25, h25⟩ := cons_of l24 h24
  obtain ⟨a26, l26, e26, h26⟩ := cons_of l25 h25
  obtain ⟨a27, l27, e27, h27⟩ := cons_of l26 h26
  obtain ⟨a28, l28, e28, h28⟩ := cons_of l27 h27
  obtain ⟨a29, l29, e29, h29⟩ := cons_of l28 h28
  obtain ⟨a30, l30, e30, h30⟩ := cons_of l29 h29
  obtain ⟨a31, l31, e31, h31⟩ := cons_of l30 h30
  have e32 : l31 = [] := List.eq_nil_of_length_eq_zero h31
  exact ⟨a0, a1, a2, a3, a4, a5, a6, a7, a8, a9, a10, a11, a12, a13, a14, a15, a16, a17, a18, a19, a20, a21, a22, a23, a24, a25, a26, a27, a28, a29, a30, a31, by rw [e0, e1, e2, e3, e4, e5, e6, e7, e8, e9, e10, e11, e12, e13, e14, e15, e16, e17, e18, e19, e20, e21, e22, e23, e24, e25, e26, e27, e28, e29, e30, e31, e32]⟩

theorem wpList_built {P : Program} {ops : Array Oper} {rest : List Oper} {o : Oper} {a : Act} {w : World} {Q : Exit → Act → World → Prop} (hg : o.guard = none) (t : TypeId) (parts : Array (Nat × Operand)) (ho : o.op = .build t parts) (cells : Array Value)
    (hf : P.built t (parts.map fun (i, x) => (i, a.eval x)).toList = some cells)
    (h : wpList P ops Q rest (a.put o.dst (.agg cells)) w) : wpList P ops Q (o :: rest) a w :=
  wpList_build hg t parts ho (by rw [hf]; rfl) (by rw [hf]; exact h)

theorem built_src (s : ByteArray) (sl : List UInt8) (h : sl.length = 32) : Tryd.prog.built 77 [(0, .string s), (1, .agg (sl.map bv).toArray)] = some (Value.string s :: (sl.map bv ++ [.int .u64 0, .int .i64 0])).toArray := by
  obtain ⟨a0, a1, a2, a3, a4, a5, a6, a7, a8, a9, a10, a11, a12, a13, a14, a15, a16, a17, a18, a19, a20, a21, a22, a23, a24, a25, a26, a27, a28, a29, a30, a31, rfl⟩ := list32 sl h
  kernel_rfl

set_option maxRecDepth 100000 in
set_option maxHeartbeats 1000000 in
theorem dnew_any (w : World) (ao : Option Addr) (c : Nat) (L : List (List UInt8)) (hL : Lst w ao c L) (hT : Tabs w) (hlen : L.flatten.length ≤ 70368744177664) :
    Calls Tryd.prog 9 #[.slice ao L.length c] w fun e w' => ∃ b, e = .returned (.pointer (some ⟨b, 0, none⟩)) ∧ w.heap.size ≤ b ∧ SrcAt w' b L.flatten 0 ∧ w.grownBy w' none := by
  obtain ⟨q, hq⟩ : ∃ q, q = L.length := ⟨_, rfl⟩
  rw [← hq]
  have hqc : q ≤ c := by have := hL.fits; omega
  have hqm : q ≤ maxLen := by have := hL.most; omega
  unfold maxLen at hqm
  have HQ := hide hq
  clear hq
  go_enter Tryd.func9, Tryd.ntmps9
  go_wp2
  go_loopw [8] (fun i wr => ∃ k : Nat, k ≤ q ∧ i = .int .i64 k ∧ Lib.IsBuilder 68 5 w.heap.size w.heap.size ((L.take k).flatten.map bv) wr ∧ Below w.heap.size w wr) (fun i _ => q - (intOf i).toNat)
  case atStart => exact ⟨0, Nat.zero_le _, rfl, Lib.fresh_isBuilder _ _ w, (Below.refl _ _).alloc (Nat.le_refl _) _⟩
  case round =>
    obtain ⟨k, hk, rfl, hI, hB⟩ := hrel
    by_cases hlt : k < q
    · have hkL : k < L.length := by have := unhide HQ; omega
      obtain ⟨ad, rfl⟩ : ∃ ad, ao = some ad := by
        cases ao with
        | none => have := hL.zip rfl; omega
        | some ad => exact ⟨ad, rfl⟩
      obtain ⟨ai, ci, hc, hbi⟩ := hL.cell ad rfl k hkL
      have hs := hL.shape ad rfl (by omega)
      obtain ⟨b, o, s⟩ := ad
      simp only at hs hc
      subst hs
      have hcr := (below_gb hB).cell hc (by simp)
      have hfl := flat_len_le L (k + 1)
      rw [flat_take hkL, List.length_append] at hfl
      have hwr := bwrite_any wr w.heap.size w.heap.size _ L[k] ai ci hI (fun a ha => hbi.below (hB.trans ha)) (by omega) hB.size
      rw [← flat_take hkL] at hwr
      obtain ⟨xl, hxl⟩ : ∃ xl, xl = (L[k]).length := ⟨_, rfl⟩
      rw [← hxl] at hcr hwr
      have hq0 : (0 : Int) ≤ (k : Int) := by omega
      clear hI hc hbi hfl hxl hL hT hlen
      go_wp2_with (go_at_call 24; refine hwr.mono ?_; rintro e w2 ⟨rfl, hI2, g2⟩)
      go_roundw
      case rel => exact ⟨k + 1, by omega, by go_num, Or.inr hI2, hB.trans g2⟩
      case measure => simp [intOf]; omega
    · obtain rfl : k = q := by omega
      rw [show L.take k = L by rw [unhide HQ, List.take_length]] at hI
      have hst := bstring_any w.heap.size w.heap.size _ wr hI hB.size
      have hof : ∀ V, Below w.heap.size wr V → Calls Tryd.prog 26 #[.slice ao k c] V fun e w' => e = .returned (.agg ((shaL L.flatten).map bv).toArray) ∧ V.grownBy w' none := fun V hV => by
        have := of_any V ao c L (hL.below (hB.trans hV)) (hT.kept0 (below_gb (hB.trans hV))) (by omega)
        rw [← unhide HQ] at this
        exact this
      obtain ⟨sl, hsl⟩ : ∃ sl, sl = shaL L.flatten := ⟨_, rfl⟩
      obtain ⟨ss, hss⟩ : ∃ ss, ss = str L.flatten := ⟨_, rfl⟩
      rw [← hsl] at hof
      rw [← hss] at hst
      have hl32 : sl.length = 32 := by rw [hsl]; exact shaL_length _
      have hbs := built_src ss sl hl32
      obtain ⟨cs, hcs⟩ : ∃ cs, cs = Value.string ss :: (sl.map bv ++ [.int .u64 0, .int .i64 0]) := ⟨_, rfl⟩
      rw [← hcs] at hbs
      have hsrc : cs = srcC L.flatten 0 := by rw [hcs, hsl, hss]; simp [srcC]
      have HBS := hide hbs
      have HSRC := hide hsrc
      have HT := hide hT
      clear hI hL hbs hl32 hsl hss hcs hsrc hlen hT
      go_wp2_with (first
        | (go_at_call 25; refine hst.mono ?_; rintro e w2 ⟨rfl, g2⟩; clear hst)
        | (go_at_call 26; refine (hof _ g2).mono ?_; rintro e w3 ⟨rfl, g3⟩; clear hof)
        | (refine wpList_built rfl 77 _ rfl cs.toArray ?hbs ?_))
      case hbs => exact unhide HBS
      go_ret
      have g13 : w.grownBy w3 none := gb_trans (below_gb (hB.trans g2)) g3 (fun _ e => by cases e)
      refine ⟨_, rfl, g13.size, ⟨?_, (unhide HT).glb g13.size⟩, gb_alloc g13 _⟩
      rw [← unhide HSRC]
      exact Blk.new w3 _ cs

end Go.Proofs.YtjckdgapefaokaaDoor
