/- A slice of steps (package coffretlaw14's Act), in words of our own. No condition but those that each lemma names. -/
import Derived.Test.YtfaipdifkmjdeaaMNts
import Derived.Test.YtfaipdifkmjdeaaMBlk
import Derived.Test.YtfaipdifkmjdeaaMRowo
import Derived.Test.YtfaipdifkmjdeaaMArb
namespace Go.Proofs.Ytfaipdifkmjdeaa
open Go.RowKit

/-- A step, and where its bytes and its fates lie. -/
structure ActD where
  kind : Int
  n : Int
  bo : Option Addr
  bc : Nat
  be : List UInt8
  fo : Option Addr
  fc : Nat
  fl : List Int
deriving Inhabited
def acC (p : ActD) : List Value := [.int .i64 p.kind, .int .i64 p.n, .slice p.bo p.be.length p.bc, .slice p.fo p.fl.length p.fc]
theorem acC_one (p : ActD) : ∀ u ∈ acC p, u.oneCell' = true := by
  intro u hu
  simp only [acC, List.mem_cons, List.not_mem_nil, or_false] at hu
  rcases hu with rfl | rfl | rfl | rfl <;> rfl

/-- What holds of a step. -/
structure ActW (w : World) (p : ActD) : Prop where
  b : Bts w p.bo p.bc p.be
  f : Nts w p.fo p.fc p.fl
  lo : -9223372036854775808 ≤ p.n
  hi : p.n < 9223372036854775808
/-- The slice value '.slice ao L.length c' holds the steps L. -/
structure ActsD (w : World) (ao : Option Addr) (c : Nat) (L : List ActD) : Prop where
  zip : ao = none → L.length = 0 ∧ c = 0
  fits : L.length ≤ c
  most : c ≤ maxLen
  shape : ∀ ad, ao = some ad → 0 < L.length → ad.spot = none
  row : ∀ ad, ao = some ad → ∀ i (h : i < L.length), w.rangeAt ad.block (ad.off + i * 4) (acC L[i])
  ats : ∀ p ∈ L, ActW w p
theorem ActW.kept {w a : World} {p : ActD} (h : ActW w p) (g : w.grownBy a none) : ActW a p := ⟨h.b.kept g (fun _ e => by cases e), h.f.kept g, h.lo, h.hi⟩
theorem ActsD.kept {w a : World} {ao : Option Addr} {c : Nat} {L : List ActD} (h : ActsD w ao c L) (g : w.grownBy a none) : ActsD a ao c L :=
  ⟨h.zip, h.fits, h.most, h.shape, fun ad e i hi => range_kept (h.row ad e i hi) g (by simp), fun p hp => (h.ats p hp).kept g⟩
theorem ActsD.at {w : World} {ao : Option Addr} {c : Nat} {L : List ActD} (h : ActsD w ao c L) (i : Nat) (hi : i < L.length) : ∃ b o, ao = some ⟨b, o, none⟩ ∧ w.rangeAt b (o + i * 4) (acC L[i]) ∧ ActW w L[i] := by
  have h1 := h.ats _ (List.getElem_mem hi)
  cases ao with
  | none => have := (h.zip rfl).1; omega
  | some ad =>
    have hs := h.shape ad rfl (by omega)
    have hc := h.row ad rfl i hi
    obtain ⟨b, o, s⟩ := ad
    simp only at hs hc
    subst hs
    exact ⟨b, o, rfl, hc, h1⟩

open Go.ChangeShapes Go.WideShapes Go.ChangeAt Go.Deep
theorem act_fields4 : ∃ f0 f1 f2 f3 : Field, Try.prog.underlying 36 = some (.struct #[f0, f1, f2, f3]) ∧ (f0.type = 3 ∧ f0.offset = 0) ∧ (f1.type = 3 ∧ f1.offset = 1) ∧ (f2.type = 33 ∧ f2.offset = 2) ∧ (f3.type = 34 ∧ f3.offset = 3) :=
  ⟨_, _, _, _, Try.underlying36, ⟨rfl, rfl⟩, ⟨rfl, rfl⟩, ⟨rfl, rfl⟩, ⟨rfl, rfl⟩⟩

set_option maxRecDepth 100000 in
theorem act_cells {H : Type} {enc : TypeId × Value → H} {W : World} {n : Nat} {cs : List Value} {x : DataW H × List MemPlace} (h : DataW.trod enc Try.prog W 0 (fun _ => true) true n 36 cs = some x) :
    ∃ p : ActD, cs = acC p ∧ ActW W p := by
  obtain ⟨f0, f1, f2, f3, he, ⟨t0, o0⟩, ⟨t1, o1⟩, ⟨t2, o2⟩, ⟨t3, o3⟩⟩ := act_fields4
  have k0 : Try.prog.cellsOf 3 = 1 := by kernel_rfl
  have k1 : Try.prog.cellsOf 33 = 1 := by kernel_rfl
  have k2 : Try.prog.cellsOf 34 = 1 := by kernel_rfl
  have k5 : Try.prog.cellsOf 36 = 4 := by kernel_rfl
  obtain ⟨xs, k, hk, hxy, hl, hxl, hf⟩ := DataW.trod_struct he h
  rw [k5] at hl
  match xs, hxl, cs, hl with
  | [y0, y1, y2, y3], _, [v0, v1, v2, v3], _ =>
    have g0 := hf 0 f0 rfl
    have g1 := hf 1 f1 rfl
    have g2 := hf 2 f2 rfl
    have g3 := hf 3 f3 rfl
    rw [t0, o0, k0] at g0
    rw [t1, o1, k0] at g1
    rw [t2, o2, k1] at g2
    rw [t3, o3, k2] at g3
    simp only [List.drop_zero, List.drop_succ_cons, List.take_succ_cons, List.take_zero, List.getElem?_cons_zero, List.getElem?_cons_succ] at g0 g1 g2 g3
    obtain ⟨z0, e0, _, _⟩ := DataW.trod_int Try.underlying3 g0
    obtain ⟨z1, e1, _, w1⟩ := DataW.trod_int Try.underlying3 g1
    obtain ⟨l2, a2, c2, e2, b2⟩ := bts_cell g2
    obtain ⟨l3, a3, c3, e3, b3⟩ := nts_cell g3
    have hz := bounds_i64 w1
    simp only [List.cons.injEq, and_true] at e0 e1
    refine ⟨⟨z0, z1, a2, c2, l2, a3, c3, l3⟩, ?_, b2, b3, hz.1, by show z1 < _; omega⟩
    rw [e0, e1, e2, e3]
    rfl

theorem actsd_open {H : Type} {enc : TypeId × Value → H} {W : World} {a : Option Addr} {len cap : Nat} {d : DataW H} {p : List MemPlace} (h : DataW.Trod enc Try.prog W 0 (fun _ => true) true 22 (.slice a len cap) d p) :
    ∃ L : List ActD, L.length = len ∧ ActsD W a cap L := by
  obtain ⟨fuel, hf⟩ := h
  obtain ⟨L, ao, c, hv, h1, h2, h3, h4, h5, h6⟩ := rows_open (α := ActD) (K := 4) (v := .slice a len cap) acC (fun p _ => ActW W p) Try.underlying22 (by kernel_rfl) (by decide) (fun n cs y hy => act_cells hy) (by simpa [Value.cells] using hf)
  injection hv with e1 e2 e3
  subst e1 e2 e3
  exact ⟨L, rfl, ⟨h1, h2, h3, h4, h5, fun r hr => by obtain ⟨_, e, _⟩ := h6 r hr; exact e⟩⟩

theorem actd_open {H : Type} {enc : TypeId × Value → H} {W : World} {base : Nat} {v : Value} {d : DataW H} {p : List MemPlace} (hval : Value.okWide Try.prog W .any base 36 v) (h : DataW.Trod enc Try.prog W 0 (fun _ => true) true 36 v d p) :
    ∃ q : ActD, v = .agg (acC q).toArray ∧ ActW W q := by
  obtain ⟨f0, f1, f2, f3, he, _⟩ := act_fields4
  obtain ⟨cs, rfl, hcs⟩ := okWide_struct he hval
  obtain ⟨fuel, hf⟩ := h
  have hcc : (Value.agg cs).cells.toList = cs.toList := rfl
  rw [hcc] at hf
  obtain ⟨q, e, hq⟩ := act_cells hf
  exact ⟨q, by rw [← Array.toArray_toList (xs := cs), e], hq⟩

end Go.Proofs.Ytfaipdifkmjdeaa
