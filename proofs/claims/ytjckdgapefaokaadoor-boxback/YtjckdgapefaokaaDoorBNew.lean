/- A box in memory, in words of our own; what a call may have changed of three blocks; and what outlasts that. No condition but those that each lemma names. -/
import Derived.Test.YtjckdgapefaokaaDoorDKeep
import Derived.Test.YtjckdgapefaokaaDoorCFirst
namespace Go.Proofs.YtjckdgapefaokaaDoor
open Go.RowKit

/-- Only new memory, and the blocks b, s and m. -/
structure By3 (w a : World) (b s m : Nat) : Prop where
  os : a.os = w.os
  tape : a.tape = w.tape
  output : a.output = w.output
  size : w.heap.size ≤ a.heap.size
  block : ∀ k, k < w.heap.size → k ≠ b → k ≠ s → k ≠ m → a.heap[k]? = w.heap[k]?

theorem By3.refl (w : World) (b s m : Nat) : By3 w w b s m := ⟨rfl, rfl, rfl, Nat.le_refl _, fun _ _ _ _ _ => rfl⟩

theorem By3.by {w a c : World} {b s m : Nat} {r : Option Nat} (h : By3 w a b s m) (g : a.grownBy c r) (hr : ∀ x, r = some x → w.heap.size ≤ x ∨ x = b ∨ x = s ∨ x = m) : By3 w c b s m :=
  ⟨g.os.trans h.os, g.tape.trans h.tape, g.output.trans h.output, Nat.le_trans h.size g.size, fun k hk h1 h2 h3 => by
    rw [g.block k (Nat.lt_of_lt_of_le hk h.size) (fun e => by rcases hr k e.symm with h4 | h4 | h4 | h4 <;> omega), h.block k hk h1 h2 h3]⟩

theorem By3.none {w a c : World} {b s m : Nat} (h : By3 w a b s m) (g : a.grownBy c Option.none) : By3 w c b s m := h.by g (fun _ e => by cases e)

theorem By3.trans {w a c : World} {b s m : Nat} (h : By3 w a b s m) (g : By3 a c b s m) : By3 w c b s m :=
  ⟨g.os.trans h.os, g.tape.trans h.tape, g.output.trans h.output, Nat.le_trans h.size g.size, fun k hk h1 h2 h3 => by
    rw [g.block k (Nat.lt_of_lt_of_le hk h.size) h1 h2 h3, h.block k hk h1 h2 h3]⟩

theorem by3_gb {u w a : World} {b s m : Nat} (g : u.grownBy w none) (h : By3 w a b s m) (hb : u.heap.size ≤ b) (hs : u.heap.size ≤ s) (hm : u.heap.size ≤ m) : u.grownBy a none :=
  ⟨h.os.trans g.os, h.tape.trans g.tape, h.output.trans g.output, Nat.le_trans g.size h.size, fun k hk _ => by
    rw [h.block k (Nat.lt_of_lt_of_le hk g.size) (by omega) (by omega) (by omega), g.block k hk (by simp)]⟩

/-- A key of 32 bytes; of none: zeros. -/
def padK (k : List UInt8) : List UInt8 := k ++ List.replicate (32 - k.length) 0
theorem padK_length {k : List UInt8} (h : k.length ≤ 32) : (padK k).length = 32 := by simp [padK]; omega
theorem padK_full {k : List UInt8} (h : k.length = 32) : padK k = k := by simp [padK, h]
theorem padK_nil : padK [] = List.replicate 32 0 := rfl

/-- The cells of what a sealed text is opened to: its key, what was beside it, the text. -/
def contC (x : Ent) : List Value := (padK x.k).map bv ++ [.string (str x.be), .string (str x.tx)]
def contV (x : Ent) : Value := .agg (contC x).toArray

theorem contC_length (x : Ent) (h : x.k.length ≤ 32) : (contC x).length = 34 := by simp [contC, padK_length h]
theorem contC_one (x : Ent) : ∀ v ∈ contC x, v.oneCell' = true := by
  intro v hv
  rcases List.mem_append.1 hv with h | h
  · exact bv_one _ v h
  · simp at h
    rcases h with rfl | rfl <;> rfl

/-- The cells of a box. -/
def boxC (B : BoxS) (bs bm : Nat) : List Value := [.int .i64 (B.mode : Int), .pointer (some ⟨bs, 0, none⟩), .map (some bm), .int .i64 (B.L.length : Int)]

/-- The block bb is a box, with its source and its map; all of them new since u. -/
structure BoxAt (u w : World) (bb bs bm : Nat) (B : BoxS) : Prop where
  nb : u.heap.size ≤ bb
  ns : u.heap.size ≤ bs
  nm : u.heap.size ≤ bm
  blk : Blk w bb 58 (boxC B bs bm)
  src : SrcAt w bs B.T B.u
  map : MapOk contV w bm B.L

/-- What a box keeps to. -/
structure BoxS.Ok (B : BoxS) : Prop where
  mode : B.mode = 0 ∨ B.mode = 1
  real : B.mode = 0 → ∀ x ∈ B.L, x.k = [] ∧ x.be = [] ∧ x.tx = []
  apart : B.mode = 1 → B.ss.Nodup
  keys : B.mode = 1 → ∀ x ∈ B.L, x.k.length = 32

theorem BoxAt.cell {u w : World} {bb bs bm : Nat} {B : BoxS} (h : BoxAt u w bb bs bm B) : w.cell? ⟨bb, 0, none⟩ = some (.int .i64 (B.mode : Int)) ∧ w.cell? ⟨bb, 1, none⟩ = some (.pointer (some ⟨bs, 0, none⟩)) ∧ w.cell? ⟨bb, 2, none⟩ = some (.map (some bm)) ∧ w.cell? ⟨bb, 3, none⟩ = some (.int .i64 (B.L.length : Int)) :=
  ⟨by rw [h.blk.cell]; rfl, by rw [h.blk.cell]; rfl, by rw [h.blk.cell]; rfl, by rw [h.blk.cell]; rfl⟩

theorem blk_ne {w : World} {b c : Nat} {t t' : TypeId} {x y : List Value} (h : Blk w b t x) (k : Blk w c t' y) (ht : t ≠ t') : b ≠ c := by
  rintro rfl
  unfold Blk at h k
  rw [h] at k
  injection k with k
  injection k with _ k
  exact ht k

theorem BoxAt.bs_ne {u w : World} {bb bs bm : Nat} {B : BoxS} (h : BoxAt u w bb bs bm B) : bb ≠ bs := blk_ne h.blk h.src.blk (by decide)

theorem Blk.by3 {w a : World} {p b s m : Nat} {t : TypeId} {cs : List Value} (h : Blk w p t cs) (g : By3 w a b s m) (h1 : p ≠ b) (h2 : p ≠ s) (h3 : p ≠ m) : Blk a p t cs := by
  unfold Blk; rw [g.block p h.lt h1 h2 h3]; exact h

/-- Another box stays as it is. -/
theorem BoxAt.other {u v w a : World} {cb cs cm bb bs bm : Nat} {C B : BoxS} (h : BoxAt u w cb cs cm C) (hB : BoxAt v w bb bs bm B) (g : By3 w a bb bs bm) (h1 : cb ≠ bb) (h2 : cs ≠ bs) (h3 : cm ≠ bm) : BoxAt u a cb cs cm C :=
  ⟨h.nb, h.ns, h.nm, h.blk.by3 g h1 (blk_ne h.blk hB.src.blk (by decide)) (fun e => hB.map.blk h.blk e.symm), ⟨h.src.blk.by3 g (blk_ne h.src.blk hB.blk (by decide)) h2 (fun e => hB.map.blk h.src.blk e.symm), h.src.glb⟩,
    h.map.same (g.block cm h.map.lt (h.map.blk hB.blk) (h.map.blk hB.src.blk) h3)⟩

theorem BoxAt.none {u w a : World} {bb bs bm : Nat} {B : BoxS} (h : BoxAt u w bb bs bm B) (g : w.grownBy a Option.none) : BoxAt u a bb bs bm B :=
  ⟨h.nb, h.ns, h.nm, h.blk.kept g (by simp), h.src.kept g (by simp), h.map.kept g (by simp)⟩

/-- .. and so where a row of bytes of the law's own was written. -/
theorem BoxAt.own {u w a : World} {bb bs bm base n : Nat} {B : BoxS} {v : Value} {xs : List Value} (h : BoxAt u w bb bs bm B) (hown : w.ownsRow base 5 1 v n xs) (g : w.grownBy a v.ownBlock) : BoxAt u a bb bs bm B :=
  ⟨h.nb, h.ns, h.nm, h.blk.kept g (own_apart hown h.blk (by decide)), h.src.own hown g, h.map.kept g (by
    rcases hown.2 with ⟨rfl, _⟩ | ⟨p, cap, cur, rfl, _, hh, _⟩
    · intro e; cases e
    · intro e
      have e2 : bm = p := by simpa [Value.ownBlock] using e
      subst e2
      exact h.map.typ ⟨cur, _, hh⟩)⟩

/-- Bytes outlast what a box does. -/
theorem BtT.box {u w a : World} {ao : Option Addr} {c bb bs bm : Nat} {l : List UInt8} {B : BoxS} (h : BtT w ao c l) (hB : BoxAt u w bb bs bm B) (g : By3 w a bb bs bm) : BtT a ao c l := by
  have hne : ∀ ad, ao = some ad → ad.block < w.heap.size ∧ ad.block ≠ bb ∧ ad.block ≠ bs ∧ ad.block ≠ bm := fun ad e =>
    ⟨(h.typ ad e).lt, fun e2 => hB.blk.typ (by decide) (by rw [← e2]; exact h.typ ad e), fun e2 => hB.src.blk.typ (by decide) (by rw [← e2]; exact h.typ ad e), fun e2 => hB.map.typ (by rw [← e2]; exact h.typ ad e)⟩
  have hblk : ∀ ad, ao = some ad → a.heap[ad.block]? = w.heap[ad.block]? := fun ad e => by
    obtain ⟨h1, h2, h3, h4⟩ := hne ad e
    exact g.block _ h1 h2 h3 h4
  refine ⟨⟨h.bts.zip, h.bts.fits, h.bts.most, h.bts.shape, fun ad e i hi => ?_⟩, fun ad e => ?_⟩
  · have := h.bts.cell ad e i hi
    rw [World.cell?_of_block (w := w) (w' := a) (a := ⟨ad.block, ad.off + i, Option.none⟩) (hblk ad e)]
    exact this
  · obtain ⟨cur, m, hh⟩ := h.typ ad e
    exact ⟨cur, m, by rw [hblk ad e]; exact hh⟩

/-- Bytes that were there before the box was made. -/
theorem Bts.old {u w : World} {ao : Option Addr} {c : Nat} {l : List UInt8} (h : Bts u ao c l) (g : u.grownBy w Option.none) : Bts w ao c l := h.kept g (fun _ e => by cases e)

theorem own_by3 {u w a : World} {bb bs bm base n : Nat} {B : BoxS} {v : Value} {xs : List Value} (hown : w.ownsRow base 5 1 v n xs) (hB : BoxAt u w bb bs bm B) (g : By3 w a bb bs bm) : a.ownsRow base 5 1 v n xs := by
  refine ⟨hown.1, ?_⟩
  rcases hown.2 with ⟨h1, h2⟩ | ⟨p, cap, cur, hv, hg, hh, hr⟩
  · exact Or.inl ⟨h1, h2⟩
  · have ht : Typ w p := ⟨cur, _, hh⟩
    exact Or.inr ⟨p, cap, cur, hv, hg, by
      rw [g.block p ht.lt (fun e => hB.blk.typ (by decide) (by rw [← e]; exact ht)) (fun e => hB.src.blk.typ (by decide) (by rw [← e]; exact ht)) (fun e => hB.map.typ (by rw [← e]; exact ht))]; exact hh, hr⟩

theorem known_first (B : BoxS) (s : List UInt8) : B.known s = (firstOf B.L s).isSome := by rw [firstOf_known]; rfl

theorem BoxS.Ok.seal {B : BoxS} (h : B.Ok) (k be tx : List UInt8) (hk : k.length = 32) : (B.seal k be tx).1.Ok := by
  rcases h.mode with hm | hm
  · unfold BoxS.seal
    rw [if_pos hm]
    refine ⟨Or.inl hm, fun _ x hx => ?_, fun e => absurd (hm.symm.trans e) (by omega), fun e => absurd (hm.symm.trans e) (by omega)⟩
    rcases List.mem_append.1 hx with hx | hx
    · exact h.real hm x hx
    · rw [List.mem_singleton.1 hx]; exact ⟨rfl, rfl, rfl⟩
  · unfold BoxS.seal
    rw [if_neg (by omega)]
    have hkeys : ∀ (n : Nat) (b : BoxS), (∀ x ∈ b.L, x.k.length = 32) → ∀ x ∈ (b.tries k be tx n).1.L, x.k.length = 32 := by
      intro n
      induction n with
      | zero => exact fun b hb => hb
      | succ n ih =>
        intro b hb
        unfold BoxS.tries
        split
        · exact ih _ hb
        · intro x hx
          rcases List.mem_append.1 hx with hx | hx
          · exact hb x hx
          · rw [List.mem_singleton.1 hx]; exact hk
    have h1 := BoxS.tries_kept k be tx 8 B
    exact ⟨Or.inr (h1.1.trans hm), fun e => absurd (h1.1.symm.trans e) (by omega), fun _ => BoxS.tries_nodup k be tx 8 B (h.apart hm), fun _ => hkeys 8 B (h.keys hm)⟩

end Go.Proofs.YtjckdgapefaokaaDoor

/- What New, Count and Mode of box answer; and what a box that nobody made answers. No condition but those that each lemma names. -/
namespace Go.Proofs.YtjckdgapefaokaaDoor
open Go.RowKit

/-- The cells of a plain box, that nobody made. -/
def box0 : List Value := [.int .i64 0, .pointer none, .map none, .int .i64 0]

set_option maxRecDepth 100000 in
theorem made_at (w : World) (bb : Nat) (p : Addr) (h1 : w.cell? ⟨bb, 1, none⟩ = some (.pointer (some p))) :
    Calls Tryd.prog 27 #[.pointer (some ⟨bb, 0, none⟩)] w fun e w' => e = .returned (.bool true) ∧ w' = w := by
  go_enter Tryd.func27, Tryd.ntmps27
  go_wp2
  go_ret
  exact ⟨rfl, rfl⟩

set_option maxRecDepth 100000 in
theorem made_nil (w : World) :
    Calls Tryd.prog 27 #[.pointer none] w fun e w' => e = .returned (.bool false) ∧ w' = w := by
  go_enter Tryd.func27, Tryd.ntmps27
  go_wp2
  go_ret
  exact ⟨rfl, rfl⟩

set_option maxRecDepth 100000 in
theorem made_plain (w : World) (bb : Nat) (h1 : w.cell? ⟨bb, 1, none⟩ = some (.pointer none)) :
    Calls Tryd.prog 27 #[.pointer (some ⟨bb, 0, none⟩)] w fun e w' => e = .returned (.bool false) ∧ w' = w := by
  go_enter Tryd.func27, Tryd.ntmps27
  go_wp2
  go_ret
  exact ⟨rfl, rfl⟩

/-- Where nothing was made: nil, or a plain one. -/
def NoBox (w : World) (po : Option Addr) : Prop := ∀ V, w.grownBy V none → Calls Tryd.prog 27 #[.pointer po] V fun e w' => e = .returned (.bool false) ∧ w' = V

theorem noBox_nil (w : World) : NoBox w none := fun V _ => made_nil V
theorem noBox_plain {w : World} {bb : Nat} (h : Blk w bb 58 box0) : NoBox w (some ⟨bb, 0, none⟩) := fun V g => made_plain V bb (by rw [(h.kept g (by simp)).cell]; rfl)
theorem NoBox.none {w a : World} {po : Option Addr} (h : NoBox w po) (g : w.grownBy a Option.none) : NoBox a po := fun V gV => h V (tn g gV)

set_option maxRecDepth 100000 in
theorem seal_no (w : World) (po : Option Addr) (h : NoBox w po) (K : Array Value) (x y : Value) :
    Calls Tryd.prog 12 #[.pointer po, .agg K, x, y] w fun e w' => e = .returned (.tuple #[.slice none 0 0, .int .i64 1]) ∧ w.grownBy w' none := by
  have c1 := h (w.alloc (.cells K 37)) (gb_alloc (gb_refl _ _) _)
  have hg : w.grownBy (w.alloc (.cells K 37)) none := gb_alloc (gb_refl _ _) _
  clear h
  go_enter Tryd.func12, Tryd.ntmps12
  go_wp2_with (go_at_call 27; refine c1.mono ?_; rintro e w2 ⟨rfl, rfl⟩)
  go_ret2
  exact ⟨rfl, hg⟩

set_option maxRecDepth 100000 in
theorem open_no (w : World) (po : Option Addr) (h : NoBox w po) (K : Array Value) (x y : Value) :
    Calls Tryd.prog 14 #[.pointer po, .agg K, x, y] w fun e w' => e = .returned (.tuple #[.slice none 0 0, .bool false]) ∧ w.grownBy w' none := by
  have c1 := h (w.alloc (.cells K 37)) (gb_alloc (gb_refl _ _) _)
  have hg : w.grownBy (w.alloc (.cells K 37)) none := gb_alloc (gb_refl _ _) _
  clear h
  go_enter Tryd.func14, Tryd.ntmps14
  go_wp2_with (go_at_call 27; refine c1.mono ?_; rintro e w2 ⟨rfl, rfl⟩)
  go_ret2
  exact ⟨rfl, hg⟩

set_option maxRecDepth 100000 in
theorem draw_no (w : World) (po : Option Addr) (h : NoBox w po) (n : Int) :
    Calls Tryd.prog 20 #[.pointer po, .int .i64 n] w fun e w' => e = .returned (.slice none 0 0) ∧ w' = w := by
  have c1 := h w (gb_refl _ _)
  clear h
  go_enter Tryd.func20, Tryd.ntmps20
  go_wp2_with (go_at_call 27; refine c1.mono ?_; rintro e w2 ⟨rfl, rfl⟩)
  go_ret
  exact ⟨rfl, rfl⟩

set_option maxRecDepth 100000 in
theorem bknown_no (w : World) (po : Option Addr) (h : NoBox w po) (x : Value) :
    Calls Tryd.prog 16 #[.pointer po, x] w fun e w' => e = .returned (.bool false) ∧ w' = w := by
  have c1 := h w (gb_refl _ _)
  clear h
  go_enter Tryd.func16, Tryd.ntmps16
  go_wp2_with (go_at_call 27; refine c1.mono ?_; rintro e w2 ⟨rfl, rfl⟩)
  go_ret
  exact ⟨rfl, rfl⟩

set_option maxRecDepth 100000 in
theorem count_no (w : World) (po : Option Addr) (h : NoBox w po) :
    Calls Tryd.prog 18 #[.pointer po] w fun e w' => e = .returned (.int .i64 0) ∧ w' = w := by
  have c1 := h w (gb_refl _ _)
  clear h
  go_enter Tryd.func18, Tryd.ntmps18
  go_wp2_with (go_at_call 27; refine c1.mono ?_; rintro e w2 ⟨rfl, rfl⟩)
  go_ret
  exact ⟨rfl, rfl⟩

set_option maxRecDepth 100000 in
theorem mode_no (w : World) (po : Option Addr) (h : NoBox w po) :
    Calls Tryd.prog 19 #[.pointer po] w fun e w' => e = .returned (.int .i64 0) ∧ w' = w := by
  have c1 := h w (gb_refl _ _)
  clear h
  go_enter Tryd.func19, Tryd.ntmps19
  go_wp2_with (go_at_call 27; refine c1.mono ?_; rintro e w2 ⟨rfl, rfl⟩)
  go_ret
  exact ⟨rfl, rfl⟩

set_option maxRecDepth 100000 in
theorem bkey_no (w : World) (po : Option Addr) (h : NoBox w po) :
    Calls Tryd.prog 21 #[.pointer po] w fun e w' => e = .returned (.agg ((List.replicate 32 (0 : UInt8)).map bv).toArray) ∧ w.grownBy w' none := by
  have hzv := zero_key
  have hbk := built_key0
  obtain ⟨z, hz⟩ : ∃ z : List UInt8, z = List.replicate 32 0 := ⟨_, rfl⟩
  rw [← hz] at hzv hbk ⊢
  have hsz : ((z.map bv).toArray).size = 32 := by rw [hz]; rfl
  have c1 := h (w.alloc (.cells (z.map bv).toArray 37)) (gb_alloc (gb_refl _ _) _)
  have hB : Blk (w.alloc (.cells (z.map bv).toArray 37)) w.heap.size 37 (z.map bv) := Blk.new _ _ _
  have hg : w.grownBy (w.alloc (.cells (z.map bv).toArray 37)) none := gb_alloc (gb_refl _ _) _
  have HSZ := hide hsz
  have HBK := hide hbk
  clear hsz hz hbk h
  go_enter Tryd.func21, Tryd.ntmps21
  go_wp2_with (first
    | (go_at_call 27; refine c1.mono ?_; rintro e w2 ⟨rfl, rfl⟩; clear c1)
    | (refine wpList_built rfl 37 _ rfl (z.map bv).toArray ?hbk ?_)
    | (refine wpList_store_row rfl 37 _ _ rfl w.heap.size _ rfl rfl _ _ hB ?_ ?_ ?_ ?_; (rw [unhide HSZ]; exact info_key); rfl; (exact all_oneCell_toArray (bv_one _))))
  case hbk => exact unhide HBK
  have hS := hB.row (z.map bv)
  refine bodyPost_ret (v := .agg (z.map bv).toArray) (results_cell_row (g := w.heap.size) rfl _ _ _ _ _ _ ?_ hS Tryd.underlying37 rfl ?_) rfl ⟨rfl, gb_row hg _ (Or.inl (Nat.le_refl _))⟩
  · rfl
  · rw [unhide HSZ]; exact info_key

set_option maxRecDepth 100000 in
theorem new_arg (w : World) (m : Int) (p : Option Addr) (h0 : m ≠ 0) (h1 : m ≠ 1) :
    Calls Tryd.prog 8 #[.int .i64 m, .pointer p] w fun e w' => e = .returned (.tuple #[.pointer none, .int .i64 2]) ∧ w' = w := by
  have e0 : (m != 0) = true := by simpa using h0
  have e1 : (m != 1) = true := by simpa using h1
  go_enter Tryd.func8, Tryd.ntmps8
  go_wp2
  go_ret2
  exact ⟨rfl, rfl⟩

set_option maxRecDepth 100000 in
theorem new_nil (w : World) :
    Calls Tryd.prog 8 #[.int .i64 0, .pointer none] w fun e w' => e = .returned (.tuple #[.pointer none, .int .i64 1]) ∧ w' = w := by
  go_enter Tryd.func8, Tryd.ntmps8
  go_wp2
  go_ret2
  exact ⟨rfl, rfl⟩

theorem built_box (m : Nat) (bs bm : Nat) : Tryd.prog.built 58 [(0, .int .i64 (m : Int)), (1, .pointer (some ⟨bs, 0, none⟩)), (2, .map (some bm))] = some #[.int .i64 (m : Int), .pointer (some ⟨bs, 0, none⟩), .map (some bm), .int .i64 0] := by kernel_rfl

set_option maxRecDepth 100000 in
theorem new_any (u w : World) (m : Nat) (bs : Nat) (T : List UInt8) (us : Nat) (hm : m = 0 ∨ m = 1) (hu : u.grownBy w none) (hns : u.heap.size ≤ bs) (hS : SrcAt w bs T us) :
    Calls Tryd.prog 8 #[.int .i64 (m : Int), .pointer (some ⟨bs, 0, none⟩)] w fun e w' => ∃ bb bm, e = .returned (.tuple #[.pointer (some ⟨bb, 0, none⟩), .int .i64 0]) ∧ w.heap.size ≤ bb ∧ w.heap.size ≤ bm ∧ BoxAt u w' bb bs bm ⟨m, T, us, []⟩ ∧ w.grownBy w' none := by
  obtain ⟨W1, hW1⟩ : ∃ W1, W1 = w.alloc (.map #[] 0) := ⟨_, rfl⟩
  have g1 : w.grownBy W1 none := by rw [hW1]; exact gb_alloc (gb_refl _ _) _
  have hs1 : W1.heap.size = w.heap.size + 1 := by rw [hW1, World.size_alloc]
  have hM1 : MapOk contV W1 w.heap.size [] := by rw [hW1]; exact MapOk.new _ _
  have hbb := built_box m bs w.heap.size
  obtain ⟨C, hC⟩ : ∃ C : Array Value, C = #[.int .i64 (m : Int), .pointer (some ⟨bs, 0, none⟩), .map (some w.heap.size), .int .i64 0] := ⟨_, rfl⟩
  rw [← hC] at hbb
  have hmk : ∀ W : World, (Instr.makeMap 56 none).run Tryd.prog W = .ok (.map (some W.heap.size)) (W.alloc (.map #[] 0)) := fun W => run_makeMap _ W
  have hfin : BoxAt u (W1.alloc (.cells C 58)) W1.heap.size bs w.heap.size ⟨m, T, us, []⟩ := by
    refine ⟨Nat.le_trans hu.size (by omega), hns, hu.size, ?_, (hS.kept g1 (by simp)).kept (World.grownBy_alloc _ _ none) (by simp), hM1.kept (World.grownBy_alloc _ _ none) (by simp)⟩
    have := Blk.new W1 58 (boxC ⟨m, T, us, []⟩ bs w.heap.size)
    rw [show (boxC ⟨m, T, us, []⟩ bs w.heap.size).toArray = C by rw [hC]; rfl] at this
    exact this
  rw [hs1] at hfin
  have hg2 := gb_alloc g1 (.cells C 58)
  have HB := hide hbb
  have HF := hide hfin
  have HW1 := hide hW1
  have hle : w.heap.size ≤ w.heap.size + 1 := by omega
  have hm' : ((m : Int) = 0) ∨ ((m : Int) = 1) := by omega
  clear hbb hfin hC hW1 hs1 hS hM1 g1 hm
  rcases hm' with hm' | hm'
  · rw [hm'] at HB ⊢
    go_enter Tryd.func8, Tryd.ntmps8
    go_wp2_with (refine wpList_built rfl 58 _ rfl C ?hb ?_)
    case hb => exact unhide HB
    rw [← unhide HW1]
    go_ret2
    exact ⟨_, _, rfl, hle, Nat.le_refl _, unhide HF, hg2⟩
  · rw [hm'] at HB ⊢
    go_enter Tryd.func8, Tryd.ntmps8
    go_wp2_with (refine wpList_built rfl 58 _ rfl C ?hb ?_)
    case hb => exact unhide HB
    rw [← unhide HW1]
    go_ret2
    exact ⟨_, _, rfl, hle, Nat.le_refl _, unhide HF, hg2⟩

set_option maxRecDepth 100000 in
theorem count_any (w : World) (u : World) (bb bs bm : Nat) (B : BoxS) (h : BoxAt u w bb bs bm B) :
    Calls Tryd.prog 18 #[.pointer (some ⟨bb, 0, none⟩)] w fun e w' => e = .returned (.int .i64 (B.L.length : Int)) ∧ w' = w := by
  obtain ⟨_, h1, _, h3⟩ := h.cell
  have c1 := made_at w bb ⟨bs, 0, none⟩ h1
  clear h
  go_enter Tryd.func18, Tryd.ntmps18
  go_wp2_with (go_at_call 27; refine c1.mono ?_; rintro e w2 ⟨rfl, rfl⟩)
  go_ret
  exact ⟨rfl, rfl⟩

set_option maxRecDepth 100000 in
theorem mode_any (w : World) (u : World) (bb bs bm : Nat) (B : BoxS) (h : BoxAt u w bb bs bm B) :
    Calls Tryd.prog 19 #[.pointer (some ⟨bb, 0, none⟩)] w fun e w' => e = .returned (.int .i64 (B.mode : Int)) ∧ w' = w := by
  obtain ⟨h0, h1, _, _⟩ := h.cell
  have c1 := made_at w bb ⟨bs, 0, none⟩ h1
  clear h
  go_enter Tryd.func19, Tryd.ntmps19
  go_wp2_with (go_at_call 27; refine c1.mono ?_; rintro e w2 ⟨rfl, rfl⟩)
  go_ret
  exact ⟨rfl, rfl⟩

end Go.Proofs.YtjckdgapefaokaaDoor
