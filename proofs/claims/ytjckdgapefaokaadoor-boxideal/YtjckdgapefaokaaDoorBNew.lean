/- What New, Count and Mode of box answer; and what a box that nobody made answers. No condition but those that each lemma names. -/
import Derived.Test.YtjckdgapefaokaaDoorBBox
namespace Go.Proofs.YtjckdgapefaokaaDoor
open Go.RowKit

/-- The cells of a plain box, that nobody made. -/
def box0 : List Value := [.int .i64 0, .pointer none, .map none, .int .i64 0]

set_option maxRecDepth 100000 in
theorem made_at (w : World) (bb : Nat) (p : Addr) (h1 : w.cell? ⟨bb, 1, none⟩ = some (.pointer (some p))) :
    Calls Tryd.prog 27 #[.pointer (some ⟨bb, 0, none⟩)] w fun e w' => e = .returned (.bool true) ∧ w' = w := by
  go_enter Tryd.func27, Tryd.ntmps27
  go_wp2
  go_ret
  exact ⟨rfl, rfl⟩

set_option maxRecDepth 100000 in
theorem made_nil (w : World) :
    Calls Tryd.prog 27 #[.pointer none] w fun e w' => e = .returned (.bool false) ∧ w' = w := by
  go_enter Tryd.func27, Tryd.ntmps27
  go_wp2
  go_ret
  exact ⟨rfl, rfl⟩

set_option maxRecDepth 100000 in
theorem made_plain (w : World) (bb : Nat) (h1 : w.cell? ⟨bb, 1, none⟩ = some (.pointer none)) :
    Calls Tryd.prog 27 #[.pointer (some ⟨bb, 0, none⟩)] w fun e w' => e = .returned (.bool false) ∧ w' = w := by
  go_enter Tryd.func27, Tryd.ntmps27
  go_wp2
  go_ret
  exact ⟨rfl, rfl⟩

/-- Where nothing was made: nil, or a plain one. -/
def NoBox (w : World) (po : Option Addr) : Prop := ∀ V, w.grownBy V none → Calls Tryd.prog 27 #[.pointer po] V fun e w' => e = .returned (.bool false) ∧ w' = V

theorem noBox_nil (w : World) : NoBox w none := fun V _ => made_nil V
theorem noBox_plain {w : World} {bb : Nat} (h : Blk w bb 58 box0) : NoBox w (some ⟨bb, 0, none⟩) := fun V g => made_plain V bb (by rw [(h.kept g (by simp)).cell]; rfl)
theorem NoBox.none {w a : World} {po : Option Addr} (h : NoBox w po) (g : w.grownBy a Option.none) : NoBox a po := fun V gV => h V (tn g gV)

set_option maxRecDepth 100000 in
theorem seal_no (w : World) (po : Option Addr) (h : NoBox w po) (K : Array Value) (x y : Value) :
    Calls Tryd.prog 12 #[.pointer po, .agg K, x, y] w fun e w' => e = .returned (.tuple #[.slice none 0 0, .int .i64 1]) ∧ w.grownBy w' none := by
  have c1 := h (w.alloc (.cells K 37)) (gb_alloc (gb_refl _ _) _)
  have hg : w.grownBy (w.alloc (.cells K 37)) none := gb_alloc (gb_refl _ _) _
  clear h
  go_enter Tryd.func12, Tryd.ntmps12
  go_wp2_with (go_at_call 27; refine c1.mono ?_; rintro e w2 ⟨rfl, rfl⟩)
  go_ret2
  exact ⟨rfl, hg⟩

set_option maxRecDepth 100000 in
theorem open_no (w : World) (po : Option Addr) (h : NoBox w po) (K : Array Value) (x y : Value) :
    Calls Tryd.prog 14 #[.pointer po, .agg K, x, y] w fun e w' => e = .returned (.tuple #[.slice none 0 0, .bool false]) ∧ w.grownBy w' none := by
  have c1 := h (w.alloc (.cells K 37)) (gb_alloc (gb_refl _ _) _)
  have hg : w.grownBy (w.alloc (.cells K 37)) none := gb_alloc (gb_refl _ _) _
  clear h
  go_enter Tryd.func14, Tryd.ntmps14
  go_wp2_with (go_at_call 27; refine c1.mono ?_; rintro e w2 ⟨rfl, rfl⟩)
  go_ret2
  exact ⟨rfl, hg⟩

set_option maxRecDepth 100000 in
theorem draw_no (w : World) (po : Option Addr) (h : NoBox w po) (n : Int) :
    Calls Tryd.prog 20 #[.pointer po, .int .i64 n] w fun e w' => e = .returned (.slice none 0 0) ∧ w' = w := by
  have c1 := h w (gb_refl _ _)
  clear h
  go_enter Tryd.func20, Tryd.ntmps20
  go_wp2_with (go_at_call 27; refine c1.mono ?_; rintro e w2 ⟨rfl, rfl⟩)
  go_ret
  exact ⟨rfl, rfl⟩

set_option maxRecDepth 100000 in
theorem bknown_no (w : World) (po : Option Addr) (h : NoBox w po) (x : Value) :
    Calls Tryd.prog 16 #[.pointer po, x] w fun e w' => e = .returned (.bool false) ∧ w' = w := by
  have c1 := h w (gb_refl _ _)
  clear h
  go_enter Tryd.func16, Tryd.ntmps16
  go_wp2_with (go_at_call 27; refine c1.mono ?_; rintro e w2 ⟨rfl, rfl⟩)
  go_ret
  exact ⟨rfl, rfl⟩

set_option maxRecDepth 100000 in
theorem count_no (w : World) (po : Option Addr) (h : NoBox w po) :
    Calls Tryd.prog 18 #[.pointer po] w fun e w' => e = .returned (.int .i64 0) ∧ w' = w := by
  have c1 := h w (gb_refl _ _)
  clear h
  go_enter Tryd.func18, Tryd.ntmps18
  go_wp2_with (go_at_call 27; refine c1.mono ?_; rintro e w2 ⟨rfl, rfl⟩)
  go_ret
  exact ⟨rfl, rfl⟩

set_option maxRecDepth 100000 in
theorem mode_no (w : World) (po : Option Addr) (h : NoBox w po) :
    Calls Tryd.prog 19 #[.pointer po] w fun e w' => e = .returned (.int .i64 0) ∧ w' = w := by
  have c1 := h w (gb_refl _ _)
  clear h
  go_enter Tryd.func19, Tryd.ntmps19
  go_wp2_with (go_at_call 27; refine c1.mono ?_; rintro e w2 ⟨rfl, rfl⟩)
  go_ret
  exact ⟨rfl, rfl⟩

set_option maxRecDepth 100000 in
theorem bkey_no (w : World) (po : Option Addr) (h : NoBox w po) :
    Calls Tryd.prog 21 #[.pointer po] w fun e w' => e = .returned (.agg ((List.replicate 32 (0 : UInt8)).map bv).toArray) ∧ w.grownBy w' none := by
  have hzv := zero_key
  have hbk := built_key0
  obtain ⟨z, hz⟩ : ∃ z : List UInt8, z = List.replicate 32 0 := ⟨_, rfl⟩
  rw [← hz] at hzv hbk ⊢
  have hsz : ((z.map bv).toArray).size = 32 := by rw [hz]; rfl
  have c1 := h (w.alloc (.cells (z.map bv).toArray 37)) (gb_alloc (gb_refl _ _) _)
  have hB : Blk (w.alloc (.cells (z.map bv).toArray 37)) w.heap.size 37 (z.map bv) := Blk.new _ _ _
  have hg : w.grownBy (w.alloc (.cells (z.map bv).toArray 37)) none := gb_alloc (gb_refl _ _) _
  have HSZ := hide hsz
  have HBK := hide hbk
  clear hsz hz hbk h
  go_enter Tryd.func21, Tryd.ntmps21
  go_wp2_with (first
    | (go_at_call 27; refine c1.mono ?_; rintro e w2 ⟨rfl, rfl⟩; clear c1)
    | (refine wpList_built rfl 37 _ rfl (z.map bv).toArray ?hbk ?_)
    | (refine wpList_store_row rfl 37 _ _ rfl w.heap.size _ rfl rfl _ _ hB ?_ ?_ ?_ ?_; (rw [unhide HSZ]; exact info_key); rfl; (exact all_oneCell_toArray (bv_one _))))
  case hbk => exact unhide HBK
  have hS := hB.row (z.map bv)
  refine bodyPost_ret (v := .agg (z.map bv).toArray) (results_cell_row (g := w.heap.size) rfl _ _ _ _ _ _ ?_ hS Tryd.underlying37 rfl ?_) rfl ⟨rfl, gb_row hg _ (Or.inl (Nat.le_refl _))⟩
  · rfl
  · rw [unhide HSZ]; exact info_key

set_option maxRecDepth 100000 in
theorem new_arg (w : World) (m : Int) (p : Option Addr) (h0 : m ≠ 0) (h1 : m ≠ 1) :
    Calls Tryd.prog 8 #[.int .i64 m, .pointer p] w fun e w' => e = .returned (.tuple #[.pointer none, .int .i64 2]) ∧ w' = w := by
  have e0 : (m != 0) = true := by simpa using h0
  have e1 : (m != 1) = true := by simpa using h1
  go_enter Tryd.func8, Tryd.ntmps8
  go_wp2
  go_ret2
  exact ⟨rfl, rfl⟩

set_option maxRecDepth 100000 in
theorem new_nil (w : World) :
    Calls Tryd.prog 8 #[.int .i64 0, .pointer none] w fun e w' => e = .returned (.tuple #[.pointer none, .int .i64 1]) ∧ w' = w := by
  go_enter Tryd.func8, Tryd.ntmps8
  go_wp2
  go_ret2
  exact ⟨rfl, rfl⟩

theorem built_box (m : Nat) (bs bm : Nat) : Tryd.prog.built 58 [(0, .int .i64 (m : Int)), (1, .pointer (some ⟨bs, 0, none⟩)), (2, .map (some bm))] = some #[.int .i64 (m : Int), .pointer (some ⟨bs, 0, none⟩), .map (some bm), .int .i64 0] := by kernel_rfl

set_option maxRecDepth 100000 in
theorem new_any (u w : World) (m : Nat) (bs : Nat) (T : List UInt8) (us : Nat) (hm : m = 0 ∨ m = 1) (hu : u.grownBy w none) (hns : u.heap.size ≤ bs) (hS : SrcAt w bs T us) :
    Calls Tryd.prog 8 #[.int .i64 (m : Int), .pointer (some ⟨bs, 0, none⟩)] w fun e w' => ∃ bb bm, e = .returned (.tuple #[.pointer (some ⟨bb, 0, none⟩), .int .i64 0]) ∧ w.heap.size ≤ bb ∧ w.heap.size ≤ bm ∧ BoxAt u w' bb bs bm ⟨m, T, us, []⟩ ∧ w.grownBy w' none := by
  obtain ⟨W1, hW1⟩ : ∃ W1, W1 = w.alloc (.map #[] 0) := ⟨_, rfl⟩
  have g1 : w.grownBy W1 none := by rw [hW1]; exact gb_alloc (gb_refl _ _) _
  have hs1 : W1.heap.size = w.heap.size + 1 := by rw [hW1, World.size_alloc]
  have hM1 : MapOk contV W1 w.heap.size [] := by rw [hW1]; exact MapOk.new _ _
  have hbb := built_box m bs w.heap.size
  obtain ⟨C, hC⟩ : ∃ C : Array Value, C = #[.int .i64 (m : Int), .pointer (some ⟨bs, 0, none⟩), .map (some w.heap.size), .int .i64 0] := ⟨_, rfl⟩
  rw [← hC] at hbb
  have hmk : ∀ W : World, (Instr.makeMap 56 none).run Tryd.prog W = .ok (.map (some W.heap.size)) (W.alloc (.map #[] 0)) := fun W => run_makeMap _ W
  have hfin : BoxAt u (W1.alloc (.cells C 58)) W1.heap.size bs w.heap.size ⟨m, T, us, []⟩ := by
    refine ⟨Nat.le_trans hu.size (by omega), hns, hu.size, ?_, (hS.kept g1 (by simp)).kept (World.grownBy_alloc _ _ none) (by simp), hM1.kept (World.grownBy_alloc _ _ none) (by simp)⟩
    have := Blk.new W1 58 (boxC ⟨m, T, us, []⟩ bs w.heap.size)
    rw [show (boxC ⟨m, T, us, []⟩ bs w.heap.size).toArray = C by rw [hC]; rfl] at this
    exact this
  rw [hs1] at hfin
  have hg2 := gb_alloc g1 (.cells C 58)
  have HB := hide hbb
  have HF := hide hfin
  have HW1 := hide hW1
  have hle : w.heap.size ≤ w.heap.size + 1 := by omega
  have hm' : ((m : Int) = 0) ∨ ((m : Int) = 1) := by omega
  clear hbb hfin hC hW1 hs1 hS hM1 g1 hm
  rcases hm' with hm' | hm'
  · rw [hm'] at HB ⊢
    go_enter Tryd.func8, Tryd.ntmps8
    go_wp2_with (refine wpList_built rfl 58 _ rfl C ?hb ?_)
    case hb => exact unhide HB
    rw [← unhide HW1]
    go_ret2
    exact ⟨_, _, rfl, hle, Nat.le_refl _, unhide HF, hg2⟩
  · rw [hm'] at HB ⊢
    go_enter Tryd.func8, Tryd.ntmps8
    go_wp2_with (refine wpList_built rfl 58 _ rfl C ?hb ?_)
    case hb => exact unhide HB
    rw [← unhide HW1]
    go_ret2
    exact ⟨_, _, rfl, hle, Nat.le_refl _, unhide HF, hg2⟩

set_option maxRecDepth 100000 in
theorem count_any (w : World) (u : World) (bb bs bm : Nat) (B : BoxS) (h : BoxAt u w bb bs bm B) :
    Calls Tryd.prog 18 #[.pointer (some ⟨bb, 0, none⟩)] w fun e w' => e = .returned (.int .i64 (B.L.length : Int)) ∧ w' = w := by
  obtain ⟨_, h1, _, h3⟩ := h.cell
  have c1 := made_at w bb ⟨bs, 0, none⟩ h1
  clear h
  go_enter Tryd.func18, Tryd.ntmps18
  go_wp2_with (go_at_call 27; refine c1.mono ?_; rintro e w2 ⟨rfl, rfl⟩)
  go_ret
  exact ⟨rfl, rfl⟩

set_option maxRecDepth 100000 in
theorem mode_any (w : World) (u : World) (bb bs bm : Nat) (B : BoxS) (h : BoxAt u w bb bs bm B) :
    Calls Tryd.prog 19 #[.pointer (some ⟨bb, 0, none⟩)] w fun e w' => e = .returned (.int .i64 (B.mode : Int)) ∧ w' = w := by
  obtain ⟨h0, h1, _, _⟩ := h.cell
  have c1 := made_at w bb ⟨bs, 0, none⟩ h1
  clear h
  go_enter Tryd.func19, Tryd.ntmps19
  go_wp2_with (go_at_call 27; refine c1.mono ?_; rintro e w2 ⟨rfl, rfl⟩)
  go_ret
  exact ⟨rfl, rfl⟩

end Go.Proofs.YtjckdgapefaokaaDoor
