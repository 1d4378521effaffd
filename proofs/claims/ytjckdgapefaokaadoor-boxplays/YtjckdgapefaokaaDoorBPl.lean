/- What BoxPlays' walks lean on: the program's calls and the document's, side by side. Where the three tables hold what they are laid with; of first bytes of at most 300, texts and besides of at most 200. -/
import Derived.Test.YtjckdgapefaokaaDoorWBPlaysN
import Derived.Test.YtjckdgapefaokaaDoorRBoxO
import Derived.Test.YtjckdgapefaokaaDoorRBoxS
import Derived.BigQuiet
namespace Go.Proofs.YtjckdgapefaokaaDoor
open Go.RowKit

theorem zero_act (w : World) : (zeroValue 35).run Tryd.prog w = .ok (.agg #[.int .i64 0, .int .i64 0, .int .u8 0, .slice none 0 0, .slice none 0 0]) w := by kernel_rfl
theorem info_act : (Tryd.prog.info? 35).map (·.size) = some 5 := by kernel_rfl
theorem built_rbox (m : Int) (s : ByteArray) : Tryd.prog.built 33 [(0, .int .i64 m), (1, .string s)] = some #[.int .i64 m, .string s, .int .i64 0, .slice none 0 0] := by kernel_rfl
theorem and3 (x : UInt8) : bits .and .u8 ((x.toNat : Nat) : Int) 3 = (((x &&& 3).toNat : Nat) : Int) := by
  have h : ∀ n : Fin 256, bits .and .u8 ((n.val : Nat) : Int) 3 = (((UInt8.ofNat n.val &&& 3).toNat : Nat) : Int) := by decide +kernel
  have := h ⟨x.toNat, x.toNat_lt⟩
  simpa using this
theorem wrap_small (n : Nat) (h : n ≤ 1000) : IntKind.i64.wrap (n : Int) = (n : Int) := by rw [IntKind.wrap_i64]; omega

theorem act_new (V : World) (Z D : List Value) : ∃ W, W = (V.alloc (.cells Z.toArray 35)).setRow V.heap.size D.toArray ∧ Blk W V.heap.size 35 D ∧ V.grownBy W none :=
  ⟨_, rfl, (Blk.new V _ Z).row D, gb_row (gb_alloc (gb_refl _ _) _) _ (Or.inl (Nat.le_refl _))⟩
theorem key_new (V : World) (Z D : List Value) : ∃ W, W = (V.alloc (.cells Z.toArray 37)).setRow V.heap.size D.toArray ∧ Blk W V.heap.size 37 D ∧ V.grownBy W none :=
  ⟨_, rfl, (Blk.new V _ Z).row D, gb_row (gb_alloc (gb_refl _ _) _) _ (Or.inl (Nat.le_refl _))⟩

theorem rl_block {w a : World} {base : Nat} {v : Value} {L : List Ent} (h : Rl w base v L) (hb : ∀ (p : Nat) (cur : Array Value), w.heap[p]? = some (Obj.cells cur 44 (0, 0)) → a.heap[p]? = w.heap[p]?) : Rl a base v L := by
  refine ⟨h.1, ?_⟩
  rcases h.2 with h2 | ⟨g, cap, cur, h1, h3, hh, hr⟩
  · exact Or.inl h2
  · exact Or.inr ⟨g, cap, cur, h1, h3, by rw [hb g cur hh]; exact hh, hr⟩

theorem cells_ne {w : World} {p b : Nat} {cur : Array Value} {t t' : TypeId} {cs : List Value} (h : w.heap[p]? = some (.cells cur t (0, 0))) (hb : Blk w b t' cs) (ht : t' ≠ t) : p ≠ b := by
  rintro rfl
  unfold Blk at hb
  rw [hb] at h
  injection h with h3
  injection h3 with _ h4
  exact ht h4

theorem Rl.by3 {u w a : World} {base bb bs bm : Nat} {v : Value} {L : List Ent} {B : BoxS} (h : Rl w base v L) (hB : BoxAt u w bb bs bm B) (g : By3 w a bb bs bm) : Rl a base v L :=
  rl_block h fun p cur hh => g.block p (Array.getElem?_eq_some_iff.1 hh).1 (cells_ne hh hB.blk (by decide)) (cells_ne hh hB.src.blk (by decide)) (fun e => by
    obtain ⟨_, _, _, h2, _⟩ := hB.map
    rw [e, h2] at hh
    cases hh)

theorem Rl.rw9 {w : World} {base p : Nat} {v : Value} {L : List Ent} {cs : List Value} (h : Rl w base v L) (hp : Blk w p 33 cs) (D : Array Value) : Rl (w.setRow p D) base v L :=
  rl_block h fun q cur hh => by
    have : p ≠ q := fun e => cells_ne hh hp (by decide) e.symm
    simp [World.setRow, Array.getElem?_modify, this]

theorem BoxAt.rw9 {u w : World} {bb bs bm p : Nat} {B : BoxS} {cs : List Value} (h : BoxAt u w bb bs bm B) (hp : Blk w p 33 cs) (D : Array Value) : BoxAt u (w.setRow p D) bb bs bm B :=
  ⟨h.nb, h.ns, h.nm, h.blk.row_other p D (blk_ne hp h.blk (by decide)), ⟨h.src.blk.row_other p D (blk_ne hp h.src.blk (by decide)), h.src.glb⟩, h.map.same (by
    have : p ≠ bm := fun e => h.map.blk hp e.symm
    simp [World.setRow, Array.getElem?_modify, this])⟩

/-- What a play keeps to. -/
structure Pl (m : Nat) (F : List UInt8) (j : Nat) (B : BoxS) : Prop where
  ok : B.Ok
  mode : B.mode = m
  T : B.T = F
  u : B.u ≤ j * 2000
  few : B.L.length ≤ j
  tx : ∀ x ∈ B.L, x.tx.length ≤ 2000
  len : ∀ x ∈ B.L, x.s.length ≤ 300

theorem pl_new (m : Nat) (hm : m = 0 ∨ m = 1) (F : List UInt8) : Pl m F 0 ⟨m, F, 0, []⟩ := ⟨ok_new m hm F 0, rfl, rfl, Nat.le_refl _, Nat.le_refl _, fun x h => by simp at h, fun x h => by simp at h⟩

theorem tries_len (k be tx : List UInt8) (ht : tx.length ≤ 200) : ∀ (n : Nat) (b : BoxS), (∀ x ∈ b.L, x.s.length ≤ 300) → ∀ x ∈ (b.tries k be tx n).1.L, x.s.length ≤ 300
  | 0, _, h => h
  | n + 1, b, h => by
    unfold BoxS.tries
    split
    · exact tries_len k be tx ht n _ h
    · intro x hx
      rcases List.mem_append.1 hx with hx | hx
      · exact h x hx
      · rw [List.mem_singleton.1 hx]; simp only; rw [told_length]; omega

theorem Pl.next {m : Nat} {F : List UInt8} {j : Nat} {B : BoxS} (h : Pl m F j B) (k be tx : List UInt8) (hk : k.length = 32) (ht : tx.length ≤ 200) : Pl m F (j + 1) (B.seal k be tx).1 := by
  obtain ⟨b1, b2, b3, b4⟩ := seal_bound B k be tx ht
  have := h.u; have := h.few
  refine ⟨h.ok.seal k be tx hk, b3.trans h.mode, b4.trans h.T, by omega, by omega, seal_tx B k be tx (by omega) h.tx, ?_⟩
  unfold BoxS.seal
  split
  · intro x hx
    rcases List.mem_append.1 hx with hx | hx
    · exact h.len x hx
    · rw [List.mem_singleton.1 hx]; simp only; rw [List.length_append, told_length, sealL_length]; omega
  · exact tries_len k be tx ht 8 B h.len

theorem Pl.more {m : Nat} {F : List UInt8} {j : Nat} {B : BoxS} (h : Pl m F j B) : Pl m F (j + 1) B := ⟨h.ok, h.mode, h.T, Nat.le_trans h.u (Nat.mul_le_mul_right _ (Nat.le_succ _)), Nat.le_succ_of_le h.few, h.tx, h.len⟩

/-- What is opened, by the program and by the document. -/
def OpenC (V : World) (bb : Nat) (RC KL : List Value) (BE IN : Value) (SK SB SY : ByteArray) : Prop := ∃ (o : Option (List UInt8)) (kn : Bool),
  (∀ U, V.grownBy U none → Calls Tryd.prog 14 #[.pointer (some ⟨bb, 0, none⟩), .agg KL.toArray, BE, IN] U fun e w' => (∃ xo xc, e = .returned (.tuple #[.slice xo (txtO o).length xc, .bool o.isSome]) ∧ BtT w' xo xc (txtO o)) ∧ U.grownBy w' none) ∧
  (∀ U, V.grownBy U none → Calls Tryd.prog 15 #[.agg RC.toArray, .string SK, .string SB, .string SY] U fun e w' => e = .returned (.tuple #[.string (str (txtO o)), .bool o.isSome]) ∧ U.grownBy w' none) ∧
  (∀ U, V.grownBy U none → Calls Tryd.prog 16 #[.pointer (some ⟨bb, 0, none⟩), IN] U fun e w' => e = .returned (.bool kn) ∧ U.grownBy w' none) ∧
  (∀ U, V.grownBy U none → Calls Tryd.prog 17 #[.agg RC.toArray, .string SY] U fun e w' => e = .returned (.bool kn) ∧ U.grownBy w' none)

/-- What a play's calls answer. -/
structure PlayC (w : World) (F : List UInt8) (m : Nat) : Prop where
  sealed : ∀ V bb bs bm (B : BoxS) (k be tx : List UInt8) bo xo bc xc j, w.grownBy V none → BoxAt w V bb bs bm B → Pl m F j B → j < 16 → k.length = 32 → Bts w bo bc be → Bts w xo xc tx → be.length ≤ 200 → tx.length ≤ 200 →
    Calls Tryd.prog 12 #[.pointer (some ⟨bb, 0, none⟩), .agg (k.map bv).toArray, .slice bo be.length bc, .slice xo tx.length xc] V fun e w' => (∃ so sc, e = .returned (.tuple #[.slice so (txtO (B.seal k be tx).2).length sc, .int .i64 (errO (B.seal k be tx).2)]) ∧ BtT w' so sc (txtO (B.seal k be tx).2)) ∧ BoxAt w w' bb bs bm (B.seal k be tx).1 ∧ By3 V w' bb bs bm ∧ w.grownBy w' none
  rsealed : ∀ V (B : BoxS) v (k be tx : List UInt8) j, Pl m F j B → j < 16 → k.length = 32 → be.length ≤ 200 → tx.length ≤ 200 → w.grownBy V none → Rl V w.heap.size v B.L →
    Calls Tryd.prog 13 #[.agg (rbC (m : Int) F B.u v).toArray, .string (str k), .string (str be), .string (str tx)] V fun e w' => ∃ v', e = .returned (.tuple #[.agg (rbC (m : Int) F (B.seal k be tx).1.u v').toArray, .string (str (txtO (B.seal k be tx).2)), .int .i64 (errO (B.seal k be tx).2)]) ∧ Rl w' w.heap.size v' (B.seal k be tx).1.L ∧ V.grownBy w' none
  opened : ∀ V bb bs bm (B : BoxS) v (k be y : List UInt8) bo io bc ic j, w.grownBy V none → BoxAt w V bb bs bm B → Pl m F j B → j < 16 → Rl V w.heap.size v B.L → k.length = 32 → Bts w bo bc be → Bts V io ic y → be.length ≤ 200 → y.length ≤ 300 →
    OpenC V bb (rbC (m : Int) F B.u v) (k.map bv) (.slice bo be.length bc) (.slice io y.length ic) (str k) (str be) (str y)
  one : ∀ V, w.grownBy V none → Calls Tryd.prog 10 #[] V fun e w' => e = .returned (.bool true) ∧ V.grownBy w' none

theorem playC (w : World) (F : List UInt8) (m : Nat) (_hm : m = 0 ∨ m = 1) (hT : Tabs w) (hC : CTab w) (hF : F.length ≤ 300) : PlayC w F m where
  sealed := fun V bb bs bm B k be tx bo xo bc xc j gV hV hpl hj hk hb hx lb lx => by
    have := hpl.u; have := hpl.few
    have := seal_any w V bb bs bm B k be tx bo xo bc xc hV gV hT hC hk (Stays.old hb hV gV) (Stays.old hx hV gV) (by omega) (by omega) hpl.ok (by omega) (by omega)
    exact this.mono fun e w' ⟨so, sc, he, hs, hB', b⟩ => ⟨⟨so, sc, he, hs⟩, hB', b, by3_gb gV b hV.nb hV.ns hV.nm⟩
  rsealed := fun V B v k be tx j hpl hj hk lb lx gV hL => by
    have := hpl.u; have := hpl.few
    have h2 := seal_bound B k be tx lx
    have := rseal8_any V w.heap.size B v k be tx hL gV.size hk lb lx hpl.ok.mode (by rw [hpl.T]; omega) (by omega) (by omega)
    rw [hpl.mode, hpl.T] at this
    refine this.mono fun e w' ⟨v', he, hR, g⟩ => ⟨v', ?_, hR, g⟩
    rw [he, h2.2.2.1, h2.2.2.2, hpl.mode, hpl.T]
  opened := fun V bb bs bm B v k be y bo io bc ic j gV hV hpl hj hL hk hb hy lb ly => by
    have := hpl.u; have hfew := hpl.few
    refine ⟨B.opn k be y, B.known y, fun U gU => ?_, fun U gU => ?_, fun U gU => ?_, fun U gU => ?_⟩
    · have := open_any w U bb bs bm B k be y bo io bc ic (hV.none gU) (tn gV gU) hC hk (hb.old (tn gV gU)) (hy.kept gU (fun _ e => by cases e)) (by omega) (by omega) hpl.ok hpl.tx
      exact this.mono fun e w' ⟨xo, xc, he, hx, g⟩ => ⟨⟨xo, xc, he, hx⟩, g⟩
    · have := ropen8_any U w.heap.size B v k be y (hL.none gU) hk (by omega) (by omega) hpl.ok.mode (by omega)
      rw [hpl.mode, hpl.T] at this
      exact this
    · exact known_any w U bb bs bm B y io ic (hV.none gU) (hy.kept gU (fun _ e => by cases e)) (fun x hx => by
        rcases hpl.ok.mode with h0 | h0
        · rw [(hpl.ok.real h0 x hx).1]; exact Nat.zero_le _
        · rw [hpl.ok.keys h0 x hx]; exact Nat.le_refl _)
    · exact rknown_any U w.heap.size (m : Int) F B.u v B.L y (hL.none gU) (by omega)
  one := fun V gV => bone_any V (hT.kept0 gV) (hC.kept0 gV)

end Go.Proofs.YtjckdgapefaokaaDoor
