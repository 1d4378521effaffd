/- ChachaLays' walk: whatever the key, the nonce and the count, the call returns true and nothing that was in memory has changed; where the table holds what it is laid with. -/
import Derived.Test.YtikdpifacokfpaaDoorCAll
import Derived.Test.YtikdpifacokfpaaDoorCLat
import Derived.Deep.DrawnRows
import Derived.Deep.MidRow
namespace Go.Proofs.YtikdpifacokfpaaDoor
open Go.RowKit
attribute [local go_sem ↓] Go.wp_at_zero Go.wp_at_succ

theorem slice_mid {P : Program} (W : World) (t e : TypeId) (ht : P.underlying t = some (.slice e)) (hz : ∀ w, (Go.sizeOf e).run P w = .ok 1 w) (b n c lo hi : Nat) (h1 : lo ≤ hi) (h2 : hi ≤ c) (h3 : lo < c) :
    (Instr.slice t (.slice (some ⟨b, 0, none⟩) n c) (some (.int .i64 (lo : Int))) (some (.int .i64 (hi : Int))) none).run P W = .ok (.slice (some ⟨b, lo, none⟩) (hi - lo) (c - lo)) W := by
  have ht' : P.underlying t = some (.slice (P.elem t)) := by simp [Program.elem, ht]
  have he : P.elem t = e := by simp [Program.elem, ht]
  rw [run_slice_lh W t _ _ _ ht' .i64 .i64 _ _ (by omega) (by omega) (by omega), he, hz]
  have hne : ¬ (c = lo) := by omega
  have hne2 : ¬ (c - lo = 0) := by omega
  simp [Result.andThen, sliced, Addr.add_lit, hne]

theorem slice_arr_to {P : Program} (t e : TypeId) (n : Nat) (ht : P.underlying t = some (.array n e)) (hz : ∀ w, (Go.sizeOf e).run P w = .ok 1 w) (b hi : Nat) (h2 : hi ≤ n) (h3 : 0 < n) (W : World) :
    (Instr.sliceAt t (.pointer (some ⟨b, 0, none⟩)) none (some (.int .i64 (hi : Int))) none).run P W = .ok (.slice (some ⟨b, 0, none⟩) hi n) W := by
  have ea : P.arrayLen t = n := by simp [Program.arrayLen, ht]
  have ee : P.elem t = e := by simp [Program.elem, ht]
  rw [run_sliceAt_array_h W t ⟨b, 0, none⟩ (by rw [ea, ee]; exact ht) .i64 _ (by omega) (by omega), ea, ee, hz]
  simp only [Result.andThen_ok, slicedAt, Int.toNat_natCast, Nat.zero_mul, Nat.sub_zero]
  rw [if_neg (by omega), Addr.add_mid]

theorem wz_one (c : W) (j : Nat) (hj : j < 4294967296) : IntKind.u32.wrap (wz c + (j : Int)) = wz (c + BitVec.ofNat 32 j) := by
  have h : (j : Int) = wz (BitVec.ofNat 32 j) := by
    unfold wz; rw [BitVec.toNat_ofNat, Nat.mod_eq_of_lt (by omega)]
  rw [h, w_add]

def optP : Option Nat → Value
  | none => undef
  | some b => .pointer (some ⟨b, 0, none⟩)
def lisP : Option Nat → Bool
  | none => false
  | some _ => true
def cntP : Option Nat → Nat
  | none => 1
  | some _ => 0
def res1 : Nat → List UInt8 → Value
  | 0, _ => undef
  | _ + 1, x => .agg (x.map bv).toArray
def res2 : Nat → List UInt8 → Value
  | 0, _ => undef
  | 1, _ => undef
  | _ + 2, x => .agg (x.map bv).toArray
def res3 : Nat → List UInt8 → Value
  | 0, _ => undef
  | 1, _ => undef
  | 2, _ => undef
  | _ + 3, x => .agg (x.map bv).toArray
def lis1 : Nat → Bool
  | 0 => false
  | _ + 1 => true
def lis2 : Nat → Bool
  | 0 => false
  | 1 => false
  | _ + 2 => true
def lis3 : Nat → Bool
  | 0 => false
  | 1 => false
  | 2 => false
  | _ + 3 => true

/-- What the three new blocks are, in whatever order they came. -/
structure Fr (W V : World) (q8 q9 q10 : Option Nat) : Prop where
  g : W.grownBy V none
  b8 : ∀ b, q8 = some b → Blk V b 27 ((List.replicate 64 (0 : UInt8)).map bv) ∧ W.heap.size ≤ b
  b9 : ∀ b, q9 = some b → Blk V b 27 ((List.replicate 64 (0 : UInt8)).map bv) ∧ W.heap.size ≤ b
  b10 : ∀ b, q10 = some b → Blk V b 27 ((List.replicate 64 (0 : UInt8)).map bv) ∧ W.heap.size ≤ b
  n1 : ∀ b, q8 = some b → q9 ≠ some b
  n2 : ∀ b, q8 = some b → q10 ≠ some b
  n3 : ∀ b, q9 = some b → q10 ≠ some b

theorem Fr.kept {W V U : World} {q8 q9 q10 : Option Nat} (h : Fr W V q8 q9 q10) (g : V.grownBy U none) : Fr W U q8 q9 q10 :=
  ⟨gb_trans h.g g (fun _ e => by cases e), fun b e => ⟨(h.b8 b e).1.kept g (by simp), (h.b8 b e).2⟩, fun b e => ⟨(h.b9 b e).1.kept g (by simp), (h.b9 b e).2⟩, fun b e => ⟨(h.b10 b e).1.kept g (by simp), (h.b10 b e).2⟩, h.n1, h.n2, h.n3⟩

theorem Fr.new8 {W V : World} {q9 q10 : Option Nat} (h : Fr W V none q9 q10) {Y : Array Value} (hY : Y = ((List.replicate 64 (0 : UInt8)).map bv).toArray) : Fr W (V.alloc (.cells Y 27)) (some V.heap.size) q9 q10 := by
  have k := h.kept (World.grownBy_alloc V (.cells Y 27) none)
  refine ⟨k.g, fun b e => ?_, k.b9, k.b10, fun b e e2 => ?_, fun b e e2 => ?_, k.n3⟩
  · cases e; subst hY; exact ⟨Blk.new V _ _, h.g.size⟩
  · cases e; have := (h.b9 _ e2).1.lt; omega
  · cases e; have := (h.b10 _ e2).1.lt; omega
theorem Fr.new9 {W V : World} {q8 q10 : Option Nat} (h : Fr W V q8 none q10) {Y : Array Value} (hY : Y = ((List.replicate 64 (0 : UInt8)).map bv).toArray) : Fr W (V.alloc (.cells Y 27)) q8 (some V.heap.size) q10 := by
  have k := h.kept (World.grownBy_alloc V (.cells Y 27) none)
  refine ⟨k.g, k.b8, fun b e => ?_, k.b10, fun b e e2 => ?_, k.n2, fun b e e2 => ?_⟩
  · cases e; subst hY; exact ⟨Blk.new V _ _, h.g.size⟩
  · cases e2; have := (h.b8 _ e).1.lt; omega
  · cases e; have := (h.b10 _ e2).1.lt; omega
theorem Fr.new10 {W V : World} {q8 q9 : Option Nat} (h : Fr W V q8 q9 none) {Y : Array Value} (hY : Y = ((List.replicate 64 (0 : UInt8)).map bv).toArray) : Fr W (V.alloc (.cells Y 27)) q8 q9 (some V.heap.size) := by
  have k := h.kept (World.grownBy_alloc V (.cells Y 27) none)
  refine ⟨k.g, k.b8, k.b9, fun b e => ?_, k.n1, fun b e e2 => ?_, fun b e e2 => ?_⟩
  · cases e; subst hY; exact ⟨Blk.new V _ _, h.g.size⟩
  · cases e2; have := (h.b8 _ e).1.lt; omega
  · cases e2; have := (h.b9 _ e).1.lt; omega

def laysA (k n : List UInt8) (c c1 c2 : W) (B NX NM : Nat) (y0 y1 y2 : List UInt8) (nc : Nat) (q8 q9 q10 : Option Nat) : Act := { tmps := #[.agg (k.map bv).toArray, .agg (n.map bv).toArray, .int .u32 (wz c), .pointer (some ⟨B, 0, none⟩), .pointer (some ⟨B + 1, 0, none⟩), undef, .bool false, .slice (some ⟨NX, 0, none⟩) 150 150, optP q8, optP q9, optP q10, .agg (k.map bv).toArray, .agg (n.map bv).toArray, .int .u32 (wz c), .slice (some ⟨NM, 0, none⟩) 150 150, .slice (some ⟨NX, 0, none⟩) 150 150, .agg (k.map bv).toArray, .agg (n.map bv).toArray, .int .u32 (wz c), res1 nc y0, .agg (k.map bv).toArray, .agg (n.map bv).toArray, .int .u32 (wz c), .int .u32 (wz c1), res2 nc y1, .agg (k.map bv).toArray, .agg (n.map bv).toArray, .int .u32 (wz c), .int .u32 (wz c2), res3 nc y2, undef, undef, undef, undef, undef, undef, undef, undef, undef, undef, undef, undef, undef, undef, undef, undef, undef, undef, undef, undef, undef, undef, undef, undef, undef, undef, undef, undef, undef, undef], defers := [] }

def laysI (k n : List UInt8) (c c1 c2 : W) (B NX NM : Nat) (y0 y1 y2 : List UInt8) (W : World) (fuel : Nat) (listed : Array Bool) (a : Act) (w : World) : Prop :=
  ∃ (nc : Nat) (q8 q9 q10 : Option Nat), nc ≤ 3 ∧ fuel = (3 - nc) + cntP q8 + cntP q9 + cntP q10 + 3 ∧ listed = #[true, true, true, lis1 nc, true, true, true, true, lis2 nc, true, true, true, true, lis3 nc, lisP q8, lisP q9, lisP q10, false, false, false] ∧ a = laysA k n c c1 c2 B NX NM y0 y1 y2 nc q8 q9 q10 ∧ Fr W w q8 q9 q10

set_option maxRecDepth 100000 in
set_option maxHeartbeats 8000000 in
theorem chachaLays_any (w : World) (k : List UInt8) (hk : k.length = 32) (n : List UInt8) (hn : n.length = 12) (c : W) (hT : CTab w) :
    Calls Tryd.prog 6 #[.agg (k.map bv).toArray, .agg (n.map bv).toArray, .int .u32 (wz c)] w fun e w' => e = .returned (.bool true) ∧ w.grownBy w' none := by
  have hi32 : (Tryd.prog.info? 23).map (·.size) = some 32 := by kernel_rfl
  have hi12 : (Tryd.prog.info? 25).map (·.size) = some 12 := by kernel_rfl
  have tr : ∀ {x y z : World}, x.grownBy y none → y.grownBy z none → x.grownBy z none := fun h k => gb_trans h k (fun _ e => by cases e)
  have hi64 : (Tryd.prog.info? 27).map (·.size) = some 64 := by kernel_rfl
  obtain ⟨W1, hW1⟩ : ∃ W1, W1 = (w.alloc (.cells (k.map bv).toArray 23)).alloc (.cells (n.map bv).toArray 25) := ⟨_, rfl⟩
  have hg1 : w.grownBy W1 none := by rw [hW1]; exact gb_alloc (gb_alloc (gb_refl _ _) _) _
  have hK1 : Blk W1 w.heap.size 23 (k.map bv) := by rw [hW1]; exact (Blk.new w 23 (k.map bv)).alloc _
  have hN1 : Blk W1 (w.heap.size + 1) 25 (n.map bv) := by
    have := Blk.new (w.alloc (.cells (k.map bv).toArray 23)) 25 (n.map bv)
    rw [World.size_alloc] at this
    rw [hW1]; exact this
  have hrK1 := blk_range0 hK1
  have hrN1 := blk_range0 hN1
  have hiK : (Tryd.prog.info? 23).map (·.size) = some (k.map bv).length := by rw [List.length_map, hk]; exact hi32
  have hiN : (Tryd.prog.info? 25).map (·.size) = some (n.map bv).length := by rw [List.length_map, hn]; exact hi12
  have hT1 := hT.kept0 hg1
  obtain ⟨Z, hZ⟩ : ∃ A : Array Value, A = ((List.replicate 150 (0 : UInt8)).map bv).toArray := ⟨_, rfl⟩
  have hmk : ∀ W : World, (Instr.makeSlice 30 (.int .i64 150) (.int .i64 150)).run Tryd.prog W = .ok (.slice (some ⟨W.heap.size, 0, none⟩) 150 150) (W.alloc (.cells Z 5)) := fun W => by
    rw [hZ]; exact make_bytes W 150 (by omega)
  obtain ⟨zs, hzs⟩ : ∃ zs, zs = List.replicate 150 (0 : UInt8) := ⟨_, rfl⟩
  have hzl : zs.length = 150 := by rw [hzs]; simp
  have hBz : Blk (W1.alloc (.cells Z 5)).drew W1.heap.size 5 (zs.map bv) := by rw [hZ, hzs]; exact (Blk.new W1 5 _).drew
  have h1 : W1.grownBy (W1.alloc (.cells Z 5)).drew none := gb_drew (gb_alloc (gb_refl _ _) _)
  have hst := stream_any (W1.alloc (.cells Z 5)).drew k n c hk hn (some ⟨W1.heap.size, 0, none⟩) 150 zs (blk_bts hBz 150 (by omega) (by unfold maxLen; omega)) (by omega) (hT1.kept0 h1)
  obtain ⟨NX, hNX⟩ : ∃ N, N = (W1.alloc (.cells Z 5)).drew.heap.size + 2 := ⟨_, rfl⟩
  obtain ⟨xs, hxs⟩ : ∃ x, x = streamL k n c zs := ⟨_, rfl⟩
  rw [← hNX, ← hxs, hzl] at hst
  have hxl : xs.length = 150 := by rw [hxs, streamL_length, hzl]
  obtain ⟨c1, hc1⟩ : ∃ c1, c1 = c + BitVec.ofNat 32 1 := ⟨_, rfl⟩
  obtain ⟨c2, hc2⟩ : ∃ c2, c2 = c + BitVec.ofNat 32 2 := ⟨_, rfl⟩
  have a1 : IntKind.u32.wrap (wz c + 1) = wz c1 := by rw [hc1]; exact wz_one c 1 (by omega)
  have a2 : IntKind.u32.wrap (wz c + 2) = wz c2 := by rw [hc2]; exact wz_one c 2 (by omega)
  have am1 : (wz c + 1) % 4294967296 = wz c1 := by rw [← a1, IntKind.wrap_u32]
  have am2 : (wz c + 2) % 4294967296 = wz c2 := by rw [← a2, IntKind.wrap_u32]
  obtain ⟨y0, hy0⟩ : ∃ y, y = blockL k n c := ⟨_, rfl⟩
  obtain ⟨y1, hy1⟩ : ∃ y, y = blockL k n c1 := ⟨_, rfl⟩
  obtain ⟨y2, hy2⟩ : ∃ y, y = blockL k n c2 := ⟨_, rfl⟩
  have l0 : y0.length = 64 := by rw [hy0]; exact blockL_length _ _ _
  have l1 : y1.length = 64 := by rw [hy1]; exact blockL_length _ _ _
  have l2 : y2.length = 64 := by rw [hy2]; exact blockL_length _ _ _
  have x0 : xs.take 64 = y0 := by
    have := streamL_zeros k n c 0 150 (by omega)
    rw [← hzs, ← hxs, Nat.mul_zero, List.drop_zero, show c + BitVec.ofNat 32 0 = c by simp, ← hy0, List.take_of_length_le (l := y0) (by omega)] at this
    exact this
  have x1 : (xs.drop 64).take 64 = y1 := by
    have := streamL_zeros k n c 1 150 (by omega)
    rw [← hzs, ← hxs, Nat.mul_one, ← hc1, ← hy1, List.take_of_length_le (l := y1) (by omega)] at this
    exact this
  have x2 : xs.drop 128 = y2.take 22 := by
    have := streamL_zeros k n c 2 150 (by omega)
    rw [← hzs, ← hxs, show 64 * 2 = 128 from rfl, ← hc2, ← hy2, List.take_of_length_le (l := xs.drop 128) (by rw [List.length_drop]; omega)] at this
    exact this
  have hrK := hrK1
  have hrN := hrN1
  have h0 : W1.grownBy W1.drew none := gb_drew (gb_refl _ _)
  have HZ := hide hZ
  have HW1 := hide hW1
  have HG1 := hide hg1
  have HK := hide hk
  have HN := hide hn
  have HT1 := hide hT1
  have HRK := hide hrK1
  have HRN := hide hrN1
  have HX0 := hide x0
  have HX1 := hide x1
  have HX2 := hide x2
  have HXL := hide hxl
  have HL0 := hide l0
  have HL1 := hide l1
  have HL2 := hide l2
  have HY0 := hide hy0
  have HY1 := hide hy1
  have HY2 := hide hy2
  clear hZ hW1 hg1 hk hn hT hT1 hrK1 hrN1 x0 x1 x2 hxl l0 l1 l2 hy0 hy1 hy2 hc1 hc2 hxs hzs hzl hBz hNX hK1 hN1
  go_enter Tryd.func6, Tryd.ntmps6
  go_wp2
  rw [← unhide HW1]
  refine wp_region_noPanic ?_
  refine wp_region_held_drew (S := fun V => W1.grownBy V none) (by kernel_rfl) h0 (fun _ => ?_)
  refine wpAnyH_take (i := 0) (oi := { dst := some 11, op := Op.load 23 (Operand.tmp 3), type := _, pos := _, after := _, guard := _ }) (v := .agg (k.map bv).toArray) rfl (by kernel_rfl) (by kernel_rfl) (by kernel_rfl) (fun _ _ _ h => h) (yieldsIf_load_mid (by rfl) _ _ rfl _ _ rfl (k.map bv) _ (fun V hV => range_kept hrK hV (by simp)) Tryd.underlying23 rfl hiK) h0 ?_
  (try simp only [Act.put, List.setIfInBounds_toArray, List.set_cons_zero, List.set_cons_succ])
  refine wpAnyH_take (i := 1) (oi := { dst := some 12, op := Op.load 25 (Operand.tmp 4), type := _, pos := _, after := _, guard := _ }) (v := .agg (n.map bv).toArray) rfl (by kernel_rfl) (by kernel_rfl) (by kernel_rfl) (fun _ _ _ h => h) (yieldsIf_load_mid (by rfl) _ _ rfl _ _ rfl (n.map bv) _ (fun V hV => range_kept hrN hV (by simp)) Tryd.underlying25 rfl hiN) h0 ?_
  (try simp only [Act.put, List.setIfInBounds_toArray, List.set_cons_zero, List.set_cons_succ])
  refine wpAnyH_take (i := 2) (oi := { dst := some 13, op := Op.move (Operand.tmp 2), type := _, pos := _, after := _, guard := _ }) (v := .int .u32 (wz c)) rfl (by kernel_rfl) (by kernel_rfl) (by kernel_rfl) (fun _ _ _ h => h) (Or.inl ⟨by rfl, fun V (hV : W1.grownBy V none) => by go_simp⟩) h0 ?_
  (try simp only [Act.put, List.setIfInBounds_toArray, List.set_cons_zero, List.set_cons_succ])
  refine wpAnyH_ready (rs := [3]) (by kernel_rfl) (by simp) ?_
  refine AllReadyH.cons (o := { dst := some 14, op := Op.makeSlice 30 (Operand.const (Value.int IntKind.i64 150)) (Operand.const (Value.int IntKind.i64 150)), type := _, pos := _, after := _, guard := _ }) rfl (fun K9 hK9 => ?_) AllReadyH.nil
  go_simp
  refine hK9.out _ _ h1 (fun _ => ?_)
  clear hK9 K9
  (try simp only [Act.put, List.setIfInBounds_toArray, List.set_cons_zero, List.set_cons_succ])
  refine wpAnyH_ready (rs := [4]) (by kernel_rfl) (by simp) ?_
  refine AllReadyH.cons (o := { dst := some 15, op := Op.call { callee := Callee.value (Operand.func 12), args := #[(Operand.tmp 11), (Operand.tmp 12), (Operand.tmp 13), (Operand.tmp 14)], argTypes := #[23, 25, 26, 30] }, type := _, pos := _, after := _, guard := _ }) rfl (fun K9 hK9 => ?_) AllReadyH.nil
  go_simp
  go_at_call 12
  refine (hst).mono ?_
  rintro e w3 ⟨rfl, hX, g3⟩
  go_wp2_with fail
  refine hK9.out _ _ (tr h1 g3) (fun _ => ?_)
  clear hK9 K9
  (try simp only [Act.put, List.setIfInBounds_toArray, List.set_cons_zero, List.set_cons_succ])
  refine wpAnyH_take (i := 5) (oi := { dst := some 7, op := Op.assign (Operand.tmp 15), type := _, pos := _, after := _, guard := _ }) (v := .slice (some ⟨NX, 0, none⟩) 150 150) rfl (by kernel_rfl) (by kernel_rfl) (by kernel_rfl) (fun _ _ _ h => h) (Or.inl ⟨by rfl, fun V (hV : W1.grownBy V none) => by go_simp⟩) (tr h1 g3) ?_
  (try simp only [Act.put, List.setIfInBounds_toArray, List.set_cons_zero, List.set_cons_succ])
  refine wpAnyH_done (by kernel_rfl) ?_ _
  refine NoPanic.normal ?_
  go_wp2_with fail
  have G3 := tr h1 g3
  clear hrK hrN
  have hrK := range_kept (unhide HRK) G3 (by simp)
  have hrN := range_kept (unhide HRN) G3 (by simp)
  have h2 : w3.grownBy w3.drew none := gb_drew (gb_refl _ _)
  have hT3 := (unhide HT1).kept0 G3
  have HX := hide hX
  have HG3 := hide G3
  clear hX G3 g3 hst hmk h0 h1
  refine wp_region_noPanic ?_
  refine wp_region_held_drew (S := fun V => w3.grownBy V none) (by kernel_rfl) h2 (fun _ => ?_)
  refine wpAnyH_take (i := 0) (oi := { dst := some 16, op := Op.load 23 (Operand.tmp 3), type := _, pos := _, after := _, guard := _ }) (v := .agg (k.map bv).toArray) rfl (by kernel_rfl) (by kernel_rfl) (by kernel_rfl) (fun _ _ _ h => h) (yieldsIf_load_mid (by rfl) _ _ rfl _ _ rfl (k.map bv) _ (fun V hV => range_kept hrK hV (by simp)) Tryd.underlying23 rfl hiK) h2 ?_
  (try simp only [Act.put, List.setIfInBounds_toArray, List.set_cons_zero, List.set_cons_succ])
  refine wpAnyH_take (i := 1) (oi := { dst := some 17, op := Op.load 25 (Operand.tmp 4), type := _, pos := _, after := _, guard := _ }) (v := .agg (n.map bv).toArray) rfl (by kernel_rfl) (by kernel_rfl) (by kernel_rfl) (fun _ _ _ h => h) (yieldsIf_load_mid (by rfl) _ _ rfl _ _ rfl (n.map bv) _ (fun V hV => range_kept hrN hV (by simp)) Tryd.underlying25 rfl hiN) h2 ?_
  (try simp only [Act.put, List.setIfInBounds_toArray, List.set_cons_zero, List.set_cons_succ])
  refine wpAnyH_take (i := 2) (oi := { dst := some 18, op := Op.move (Operand.tmp 2), type := _, pos := _, after := _, guard := _ }) (v := .int .u32 (wz c)) rfl (by kernel_rfl) (by kernel_rfl) (by kernel_rfl) (fun _ _ _ h => h) (Or.inl ⟨by rfl, fun V (hV : w3.grownBy V none) => by go_simp⟩) h2 ?_
  (try simp only [Act.put, List.setIfInBounds_toArray, List.set_cons_zero, List.set_cons_succ])
  refine wpAnyH_take (i := 4) (oi := { dst := some 20, op := Op.load 23 (Operand.tmp 3), type := _, pos := _, after := _, guard := _ }) (v := .agg (k.map bv).toArray) rfl (by kernel_rfl) (by kernel_rfl) (by kernel_rfl) (fun _ _ _ h => h) (yieldsIf_load_mid (by rfl) _ _ rfl _ _ rfl (k.map bv) _ (fun V hV => range_kept hrK hV (by simp)) Tryd.underlying23 rfl hiK) h2 ?_
  (try simp only [Act.put, List.setIfInBounds_toArray, List.set_cons_zero, List.set_cons_succ])
  refine wpAnyH_take (i := 5) (oi := { dst := some 21, op := Op.load 25 (Operand.tmp 4), type := _, pos := _, after := _, guard := _ }) (v := .agg (n.map bv).toArray) rfl (by kernel_rfl) (by kernel_rfl) (by kernel_rfl) (fun _ _ _ h => h) (yieldsIf_load_mid (by rfl) _ _ rfl _ _ rfl (n.map bv) _ (fun V hV => range_kept hrN hV (by simp)) Tryd.underlying25 rfl hiN) h2 ?_
  (try simp only [Act.put, List.setIfInBounds_toArray, List.set_cons_zero, List.set_cons_succ])
  refine wpAnyH_take (i := 6) (oi := { dst := some 22, op := Op.move (Operand.tmp 2), type := _, pos := _, after := _, guard := _ }) (v := .int .u32 (wz c)) rfl (by kernel_rfl) (by kernel_rfl) (by kernel_rfl) (fun _ _ _ h => h) (Or.inl ⟨by rfl, fun V (hV : w3.grownBy V none) => by go_simp⟩) h2 ?_
  (try simp only [Act.put, List.setIfInBounds_toArray, List.set_cons_zero, List.set_cons_succ])
  refine wpAnyH_take (i := 7) (oi := { dst := some 23, op := Op.binOp BinOp.add 26 (Operand.tmp 22) (Operand.const (Value.int IntKind.u32 1)) 26, type := _, pos := _, after := _, guard := _ }) (v := .int .u32 (wz c1)) rfl (by kernel_rfl) (by kernel_rfl) (by kernel_rfl) (fun _ _ _ h => h) (Or.inl ⟨by rfl, fun V (hV : w3.grownBy V none) => by go_simp⟩) h2 ?_
  (try simp only [Act.put, List.setIfInBounds_toArray, List.set_cons_zero, List.set_cons_succ])
  refine wpAnyH_take (i := 9) (oi := { dst := some 25, op := Op.load 23 (Operand.tmp 3), type := _, pos := _, after := _, guard := _ }) (v := .agg (k.map bv).toArray) rfl (by kernel_rfl) (by kernel_rfl) (by kernel_rfl) (fun _ _ _ h => h) (yieldsIf_load_mid (by rfl) _ _ rfl _ _ rfl (k.map bv) _ (fun V hV => range_kept hrK hV (by simp)) Tryd.underlying23 rfl hiK) h2 ?_
  (try simp only [Act.put, List.setIfInBounds_toArray, List.set_cons_zero, List.set_cons_succ])
  refine wpAnyH_take (i := 10) (oi := { dst := some 26, op := Op.load 25 (Operand.tmp 4), type := _, pos := _, after := _, guard := _ }) (v := .agg (n.map bv).toArray) rfl (by kernel_rfl) (by kernel_rfl) (by kernel_rfl) (fun _ _ _ h => h) (yieldsIf_load_mid (by rfl) _ _ rfl _ _ rfl (n.map bv) _ (fun V hV => range_kept hrN hV (by simp)) Tryd.underlying25 rfl hiN) h2 ?_
  (try simp only [Act.put, List.setIfInBounds_toArray, List.set_cons_zero, List.set_cons_succ])
  refine wpAnyH_take (i := 11) (oi := { dst := some 27, op := Op.move (Operand.tmp 2), type := _, pos := _, after := _, guard := _ }) (v := .int .u32 (wz c)) rfl (by kernel_rfl) (by kernel_rfl) (by kernel_rfl) (fun _ _ _ h => h) (Or.inl ⟨by rfl, fun V (hV : w3.grownBy V none) => by go_simp⟩) h2 ?_
  (try simp only [Act.put, List.setIfInBounds_toArray, List.set_cons_zero, List.set_cons_succ])
  refine wpAnyH_take (i := 12) (oi := { dst := some 28, op := Op.binOp BinOp.add 26 (Operand.tmp 27) (Operand.const (Value.int IntKind.u32 2)) 26, type := _, pos := _, after := _, guard := _ }) (v := .int .u32 (wz c2)) rfl (by kernel_rfl) (by kernel_rfl) (by kernel_rfl) (fun _ _ _ h => h) (Or.inl ⟨by rfl, fun V (hV : w3.grownBy V none) => by go_simp⟩) h2 ?_
  (try simp only [Act.put, List.setIfInBounds_toArray, List.set_cons_zero, List.set_cons_succ])
  obtain ⟨Y64, hY64⟩ : ∃ A : Array Value, A = ((List.replicate 64 (0 : UInt8)).map bv).toArray := ⟨_, rfl⟩
  have hyz := zero64b
  rw [← hY64] at hyz
  have HY64 := hide hY64
  clear hY64
  have cb0 : ∀ V, w3.grownBy V none → Calls Tryd.prog 9 #[.agg (k.map bv).toArray, .agg (n.map bv).toArray, .int .u32 (wz c)] V fun e w' => e = .returned (.agg (y0.map bv).toArray) ∧ V.grownBy w' none := fun V gV => by
    rw [unhide HY0]; exact block_any V k n c (unhide HK) (unhide HN) (hT3.kept0 gV)
  have cb1 : ∀ V, w3.grownBy V none → Calls Tryd.prog 9 #[.agg (k.map bv).toArray, .agg (n.map bv).toArray, .int .u32 (wz c1)] V fun e w' => e = .returned (.agg (y1.map bv).toArray) ∧ V.grownBy w' none := fun V gV => by
    rw [unhide HY1]; exact block_any V k n c1 (unhide HK) (unhide HN) (hT3.kept0 gV)
  have cb2 : ∀ V, w3.grownBy V none → Calls Tryd.prog 9 #[.agg (k.map bv).toArray, .agg (n.map bv).toArray, .int .u32 (wz c2)] V fun e w' => e = .returned (.agg (y2.map bv).toArray) ∧ V.grownBy w' none := fun V gV => by
    rw [unhide HY2]; exact block_any V k n c2 (unhide HK) (unhide HN) (hT3.kept0 gV)
  refine wpAnyH_states (laysI k n c c1 c2 w.heap.size NX W1.heap.size y0 y1 y2 w3) ?_ _ _ _ _ ⟨0, none, none, none, by omega, by kernel_rfl, by kernel_rfl, by kernel_rfl, ⟨h2, fun _ e => (by cases e), fun _ e => (by cases e), fun _ e => (by cases e), fun _ e => (by cases e), fun _ e => (by cases e), fun _ e => (by cases e)⟩⟩
  intro fuel listed a V hI
  obtain ⟨nc, q8, q9, q10, hnc, rfl, rfl, rfl, hF⟩ := hI
  rcases (show nc = 0 ∨ nc = 1 ∨ nc = 2 ∨ nc = 3 by omega) with rfl | rfl | rfl | rfl <;> rcases q8 with _ | b8 <;> rcases q9 with _ | b9 <;> rcases q10 with _ | b10
  · refine states_ready [3, 14, 15, 16] (by kernel_rfl) (by simp) ?_
    refine AllStates.cons (o := { dst := some 19, op := Op.call { callee := Callee.value (Operand.func 9), args := #[(Operand.tmp 16), (Operand.tmp 17), (Operand.tmp 18)], argTypes := #[23, 25, 26] }, type := _, pos := _, after := _, guard := _ }) rfl (fun K9 hK9 => ?_) (AllStates.cons (o := { dst := some 8, op := Op.alloc 27, type := _, pos := _, after := _, guard := _ }) rfl (fun K9 hK9 => ?_) (AllStates.cons (o := { dst := some 9, op := Op.alloc 27, type := _, pos := _, after := _, guard := _ }) rfl (fun K9 hK9 => ?_) (AllStates.cons (o := { dst := some 10, op := Op.alloc 27, type := _, pos := _, after := _, guard := _ }) rfl (fun K9 hK9 => ?_) (AllStates.nil))))
    all_goals dsimp only [laysA, optP, res1, res2, res3]
    · go_simp
      go_at_call 9
      refine (cb0 _ hF.g).mono ?_
      rintro e w9 ⟨rfl, g9⟩
      go_wp2_with fail
      exact hK9.out _ _ (hF.kept g9).g ⟨1, none, none, none, by omega, rfl, rfl, rfl, hF.kept g9⟩
    · go_simp
      exact hK9.out _ _ (hF.new8 (unhide HY64)).g ⟨0, some V.heap.size, none, none, by omega, rfl, rfl, rfl, hF.new8 (unhide HY64)⟩
    · go_simp
      exact hK9.out _ _ (hF.new9 (unhide HY64)).g ⟨0, none, some V.heap.size, none, by omega, rfl, rfl, rfl, hF.new9 (unhide HY64)⟩
    · go_simp
      exact hK9.out _ _ (hF.new10 (unhide HY64)).g ⟨0, none, none, some V.heap.size, by omega, rfl, rfl, rfl, hF.new10 (unhide HY64)⟩
  · refine states_ready [3, 14, 15] (by kernel_rfl) (by simp) ?_
    refine AllStates.cons (o := { dst := some 19, op := Op.call { callee := Callee.value (Operand.func 9), args := #[(Operand.tmp 16), (Operand.tmp 17), (Operand.tmp 18)], argTypes := #[23, 25, 26] }, type := _, pos := _, after := _, guard := _ }) rfl (fun K9 hK9 => ?_) (AllStates.cons (o := { dst := some 8, op := Op.alloc 27, type := _, pos := _, after := _, guard := _ }) rfl (fun K9 hK9 => ?_) (AllStates.cons (o := { dst := some 9, op := Op.alloc 27, type := _, pos := _, after := _, guard := _ }) rfl (fun K9 hK9 => ?_) (AllStates.nil)))
    all_goals dsimp only [laysA, optP, res1, res2, res3]
    · go_simp
      go_at_call 9
      refine (cb0 _ hF.g).mono ?_
      rintro e w9 ⟨rfl, g9⟩
      go_wp2_with fail
      exact hK9.out _ _ (hF.kept g9).g ⟨1, none, none, some b10, by omega, rfl, rfl, rfl, hF.kept g9⟩
    · go_simp
      exact hK9.out _ _ (hF.new8 (unhide HY64)).g ⟨0, some V.heap.size, none, some b10, by omega, rfl, rfl, rfl, hF.new8 (unhide HY64)⟩
    · go_simp
      exact hK9.out _ _ (hF.new9 (unhide HY64)).g ⟨0, none, some V.heap.size, some b10, by omega, rfl, rfl, rfl, hF.new9 (unhide HY64)⟩
  · refine states_ready [3, 14, 16] (by kernel_rfl) (by simp) ?_
    refine AllStates.cons (o := { dst := some 19, op := Op.call { callee := Callee.value (Operand.func 9), args := #[(Operand.tmp 16), (Operand.tmp 17), (Operand.tmp 18)], argTypes := #[23, 25, 26] }, type := _, pos := _, after := _, guard := _ }) rfl (fun K9 hK9 => ?_) (AllStates.cons (o := { dst := some 8, op := Op.alloc 27, type := _, pos := _, after := _, guard := _ }) rfl (fun K9 hK9 => ?_) (AllStates.cons (o := { dst := some 10, op := Op.alloc 27, type := _, pos := _, after := _, guard := _ }) rfl (fun K9 hK9 => ?_) (AllStates.nil)))
    all_goals dsimp only [laysA, optP, res1, res2, res3]
    · go_simp
      go_at_call 9
      refine (cb0 _ hF.g).mono ?_
      rintro e w9 ⟨rfl, g9⟩
      go_wp2_with fail
      exact hK9.out _ _ (hF.kept g9).g ⟨1, none, some b9, none, by omega, rfl, rfl, rfl, hF.kept g9⟩
    · go_simp
      exact hK9.out _ _ (hF.new8 (unhide HY64)).g ⟨0, some V.heap.size, some b9, none, by omega, rfl, rfl, rfl, hF.new8 (unhide HY64)⟩
    · go_simp
      exact hK9.out _ _ (hF.new10 (unhide HY64)).g ⟨0, none, some b9, some V.heap.size, by omega, rfl, rfl, rfl, hF.new10 (unhide HY64)⟩
  · refine states_ready [3, 14] (by kernel_rfl) (by simp) ?_
    refine AllStates.cons (o := { dst := some 19, op := Op.call { callee := Callee.value (Operand.func 9), args := #[(Operand.tmp 16), (Operand.tmp 17), (Operand.tmp 18)], argTypes := #[23, 25, 26] }, type := _, pos := _, after := _, guard := _ }) rfl (fun K9 hK9 => ?_) (AllStates.cons (o := { dst := some 8, op := Op.alloc 27, type := _, pos := _, after := _, guard := _ }) rfl (fun K9 hK9 => ?_) (AllStates.nil))
    all_goals dsimp only [laysA, optP, res1, res2, res3]
    · go_simp
      go_at_call 9
      refine (cb0 _ hF.g).mono ?_
      rintro e w9 ⟨rfl, g9⟩
      go_wp2_with fail
      exact hK9.out _ _ (hF.kept g9).g ⟨1, none, some b9, some b10, by omega, rfl, rfl, rfl, hF.kept g9⟩
    · go_simp
      exact hK9.out _ _ (hF.new8 (unhide HY64)).g ⟨0, some V.heap.size, some b9, some b10, by omega, rfl, rfl, rfl, hF.new8 (unhide HY64)⟩
  · refine states_ready [3, 15, 16] (by kernel_rfl) (by simp) ?_
    refine AllStates.cons (o := { dst := some 19, op := Op.call { callee := Callee.value (Operand.func 9), args := #[(Operand.tmp 16), (Operand.tmp 17), (Operand.tmp 18)], argTypes := #[23, 25, 26] }, type := _, pos := _, after := _, guard := _ }) rfl (fun K9 hK9 => ?_) (AllStates.cons (o := { dst := some 9, op := Op.alloc 27, type := _, pos := _, after := _, guard := _ }) rfl (fun K9 hK9 => ?_) (AllStates.cons (o := { dst := some 10, op := Op.alloc 27, type := _, pos := _, after := _, guard := _ }) rfl (fun K9 hK9 => ?_) (AllStates.nil)))
    all_goals dsimp only [laysA, optP, res1, res2, res3]
    · go_simp
      go_at_call 9
      refine (cb0 _ hF.g).mono ?_
      rintro e w9 ⟨rfl, g9⟩
      go_wp2_with fail
      exact hK9.out _ _ (hF.kept g9).g ⟨1, some b8, none, none, by omega, rfl, rfl, rfl, hF.kept g9⟩
    · go_simp
      exact hK9.out _ _ (hF.new9 (unhide HY64)).g ⟨0, some b8, some V.heap.size, none, by omega, rfl, rfl, rfl, hF.new9 (unhide HY64)⟩
    · go_simp
      exact hK9.out _ _ (hF.new10 (unhide HY64)).g ⟨0, some b8, none, some V.heap.size, by omega, rfl, rfl, rfl, hF.new10 (unhide HY64)⟩
  · refine states_ready [3, 15] (by kernel_rfl) (by simp) ?_
    refine AllStates.cons (o := { dst := some 19, op := Op.call { callee := Callee.value (Operand.func 9), args := #[(Operand.tmp 16), (Operand.tmp 17), (Operand.tmp 18)], argTypes := #[23, 25, 26] }, type := _, pos := _, after := _, guard := _ }) rfl (fun K9 hK9 => ?_) (AllStates.cons (o := { dst := some 9, op := Op.alloc 27, type := _, pos := _, after := _, guard := _ }) rfl (fun K9 hK9 => ?_) (AllStates.nil))
    all_goals dsimp only [laysA, optP, res1, res2, res3]
    · go_simp
      go_at_call 9
      refine (cb0 _ hF.g).mono ?_
      rintro e w9 ⟨rfl, g9⟩
      go_wp2_with fail
      exact hK9.out _ _ (hF.kept g9).g ⟨1, some b8, none, some b10, by omega, rfl, rfl, rfl, hF.kept g9⟩
    · go_simp
      exact hK9.out _ _ (hF.new9 (unhide HY64)).g ⟨0, some b8, some V.heap.size, some b10, by omega, rfl, rfl, rfl, hF.new9 (unhide HY64)⟩
  · refine states_ready [3, 16] (by kernel_rfl) (by simp) ?_
    refine AllStates.cons (o := { dst := some 19, op := Op.call { callee := Callee.value (Operand.func 9), args := #[(Operand.tmp 16), (Operand.tmp 17), (Operand.tmp 18)], argTypes := #[23, 25, 26] }, type := _, pos := _, after := _, guard := _ }) rfl (fun K9 hK9 => ?_) (AllStates.cons (o := { dst := some 10, op := Op.alloc 27, type := _, pos := _, after := _, guard := _ }) rfl (fun K9 hK9 => ?_) (AllStates.nil))
    all_goals dsimp only [laysA, optP, res1, res2, res3]
    · go_simp
      go_at_call 9
      refine (cb0 _ hF.g).mono ?_
      rintro e w9 ⟨rfl, g9⟩
      go_wp2_with fail
      exact hK9.out _ _ (hF.kept g9).g ⟨1, some b8, some b9, none, by omega, rfl, rfl, rfl, hF.kept g9⟩
    · go_simp
      exact hK9.out _ _ (hF.new10 (unhide HY64)).g ⟨0, some b8, some b9, some V.heap.size, by omega, rfl, rfl, rfl, hF.new10 (unhide HY64)⟩
  · refine states_ready [3] (by kernel_rfl) (by simp) ?_
    refine AllStates.cons (o := { dst := some 19, op := Op.call { callee := Callee.value (Operand.func 9), args := #[(Operand.tmp 16), (Operand.tmp 17), (Operand.tmp 18)], argTypes := #[23, 25, 26] }, type := _, pos := _, after := _, guard := _ }) rfl (fun K9 hK9 => ?_) (AllStates.nil)
    all_goals dsimp only [laysA, optP, res1, res2, res3]
    · go_simp
      go_at_call 9
      refine (cb0 _ hF.g).mono ?_
      rintro e w9 ⟨rfl, g9⟩
      go_wp2_with fail
      exact hK9.out _ _ (hF.kept g9).g ⟨1, some b8, some b9, some b10, by omega, rfl, rfl, rfl, hF.kept g9⟩
  · refine states_ready [8, 14, 15, 16] (by kernel_rfl) (by simp) ?_
    refine AllStates.cons (o := { dst := some 24, op := Op.call { callee := Callee.value (Operand.func 9), args := #[(Operand.tmp 20), (Operand.tmp 21), (Operand.tmp 23)], argTypes := #[23, 25, 26] }, type := _, pos := _, after := _, guard := _ }) rfl (fun K9 hK9 => ?_) (AllStates.cons (o := { dst := some 8, op := Op.alloc 27, type := _, pos := _, after := _, guard := _ }) rfl (fun K9 hK9 => ?_) (AllStates.cons (o := { dst := some 9, op := Op.alloc 27, type := _, pos := _, after := _, guard := _ }) rfl (fun K9 hK9 => ?_) (AllStates.cons (o := { dst := some 10, op := Op.alloc 27, type := _, pos := _, after := _, guard := _ }) rfl (fun K9 hK9 => ?_) (AllStates.nil))))
    all_goals dsimp only [laysA, optP, res1, res2, res3]
    · go_simp
      go_at_call 9
      refine (cb1 _ hF.g).mono ?_
      rintro e w9 ⟨rfl, g9⟩
      go_wp2_with fail
      exact hK9.out _ _ (hF.kept g9).g ⟨2, none, none, none, by omega, rfl, rfl, rfl, hF.kept g9⟩
    · go_simp
      exact hK9.out _ _ (hF.new8 (unhide HY64)).g ⟨1, some V.heap.size, none, none, by omega, rfl, rfl, rfl, hF.new8 (unhide HY64)⟩
    · go_simp
      exact hK9.out _ _ (hF.new9 (unhide HY64)).g ⟨1, none, some V.heap.size, none, by omega, rfl, rfl, rfl, hF.new9 (unhide HY64)⟩
    · go_simp
      exact hK9.out _ _ (hF.new10 (unhide HY64)).g ⟨1, none, none, some V.heap.size, by omega, rfl, rfl, rfl, hF.new10 (unhide HY64)⟩
  · refine states_ready [8, 14, 15] (by kernel_rfl) (by simp) ?_
    refine AllStates.cons (o := { dst := some 24, op := Op.call { callee := Callee.value (Operand.func 9), args := #[(Operand.tmp 20), (Operand.tmp 21), (Operand.tmp 23)], argTypes := #[23, 25, 26] }, type := _, pos := _, after := _, guard := _ }) rfl (fun K9 hK9 => ?_) (AllStates.cons (o := { dst := some 8, op := Op.alloc 27, type := _, pos := _, after := _, guard := _ }) rfl (fun K9 hK9 => ?_) (AllStates.cons (o := { dst := some 9, op := Op.alloc 27, type := _, pos := _, after := _, guard := _ }) rfl (fun K9 hK9 => ?_) (AllStates.nil)))
    all_goals dsimp only [laysA, optP, res1, res2, res3]
    · go_simp
      go_at_call 9
      refine (cb1 _ hF.g).mono ?_
      rintro e w9 ⟨rfl, g9⟩
      go_wp2_with fail
      exact hK9.out _ _ (hF.kept g9).g ⟨2, none, none, some b10, by omega, rfl, rfl, rfl, hF.kept g9⟩
    · go_simp
      exact hK9.out _ _ (hF.new8 (unhide HY64)).g ⟨1, some V.heap.size, none, some b10, by omega, rfl, rfl, rfl, hF.new8 (unhide HY64)⟩
    · go_simp
      exact hK9.out _ _ (hF.new9 (unhide HY64)).g ⟨1, none, some V.heap.size, some b10, by omega, rfl, rfl, rfl, hF.new9 (unhide HY64)⟩
  · refine states_ready [8, 14, 16] (by kernel_rfl) (by simp) ?_
    refine AllStates.cons (o := { dst := some 24, op := Op.call { callee := Callee.value (Operand.func 9), args := #[(Operand.tmp 20), (Operand.tmp 21), (Operand.tmp 23)], argTypes := #[23, 25, 26] }, type := _, pos := _, after := _, guard := _ }) rfl (fun K9 hK9 => ?_) (AllStates.cons (o := { dst := some 8, op := Op.alloc 27, type := _, pos := _, after := _, guard := _ }) rfl (fun K9 hK9 => ?_) (AllStates.cons (o := { dst := some 10, op := Op.alloc 27, type := _, pos := _, after := _, guard := _ }) rfl (fun K9 hK9 => ?_) (AllStates.nil)))
    all_goals dsimp only [laysA, optP, res1, res2, res3]
    · go_simp
      go_at_call 9
      refine (cb1 _ hF.g).mono ?_
      rintro e w9 ⟨rfl, g9⟩
      go_wp2_with fail
      exact hK9.out _ _ (hF.kept g9).g ⟨2, none, some b9, none, by omega, rfl, rfl, rfl, hF.kept g9⟩
    · go_simp
      exact hK9.out _ _ (hF.new8 (unhide HY64)).g ⟨1, some V.heap.size, some b9, none, by omega, rfl, rfl, rfl, hF.new8 (unhide HY64)⟩
    · go_simp
      exact hK9.out _ _ (hF.new10 (unhide HY64)).g ⟨1, none, some b9, some V.heap.size, by omega, rfl, rfl, rfl, hF.new10 (unhide HY64)⟩
  · refine states_ready [8, 14] (by kernel_rfl) (by simp) ?_
    refine AllStates.cons (o := { dst := some 24, op := Op.call { callee := Callee.value (Operand.func 9), args := #[(Operand.tmp 20), (Operand.tmp 21), (Operand.tmp 23)], argTypes := #[23, 25, 26] }, type := _, pos := _, after := _, guard := _ }) rfl (fun K9 hK9 => ?_) (AllStates.cons (o := { dst := some 8, op := Op.alloc 27, type := _, pos := _, after := _, guard := _ }) rfl (fun K9 hK9 => ?_) (AllStates.nil))
    all_goals dsimp only [laysA, optP, res1, res2, res3]
    · go_simp
      go_at_call 9
      refine (cb1 _ hF.g).mono ?_
      rintro e w9 ⟨rfl, g9⟩
      go_wp2_with fail
      exact hK9.out _ _ (hF.kept g9).g ⟨2, none, some b9, some b10, by omega, rfl, rfl, rfl, hF.kept g9⟩
    · go_simp
      exact hK9.out _ _ (hF.new8 (unhide HY64)).g ⟨1, some V.heap.size, some b9, some b10, by omega, rfl, rfl, rfl, hF.new8 (unhide HY64)⟩
  · refine states_ready [8, 15, 16] (by kernel_rfl) (by simp) ?_
    refine AllStates.cons (o := { dst := some 24, op := Op.call { callee := Callee.value (Operand.func 9), args := #[(Operand.tmp 20), (Operand.tmp 21), (Operand.tmp 23)], argTypes := #[23, 25, 26] }, type := _, pos := _, after := _, guard := _ }) rfl (fun K9 hK9 => ?_) (AllStates.cons (o := { dst := some 9, op := Op.alloc 27, type := _, pos := _, after := _, guard := _ }) rfl (fun K9 hK9 => ?_) (AllStates.cons (o := { dst := some 10, op := Op.alloc 27, type := _, pos := _, after := _, guard := _ }) rfl (fun K9 hK9 => ?_) (AllStates.nil)))
    all_goals dsimp only [laysA, optP, res1, res2, res3]
    · go_simp
      go_at_call 9
      refine (cb1 _ hF.g).mono ?_
      rintro e w9 ⟨rfl, g9⟩
      go_wp2_with fail
      exact hK9.out _ _ (hF.kept g9).g ⟨2, some b8, none, none, by omega, rfl, rfl, rfl, hF.kept g9⟩
    · go_simp
      exact hK9.out _ _ (hF.new9 (unhide HY64)).g ⟨1, some b8, some V.heap.size, none, by omega, rfl, rfl, rfl, hF.new9 (unhide HY64)⟩
    · go_simp
      exact hK9.out _ _ (hF.new10 (unhide HY64)).g ⟨1, some b8, none, some V.heap.size, by omega, rfl, rfl, rfl, hF.new10 (unhide HY64)⟩
  · refine states_ready [8, 15] (by kernel_rfl) (by simp) ?_
    refine AllStates.cons (o := { dst := some 24, op := Op.call { callee := Callee.value (Operand.func 9), args := #[(Operand.tmp 20), (Operand.tmp 21), (Operand.tmp 23)], argTypes := #[23, 25, 26] }, type := _, pos := _, after := _, guard := _ }) rfl (fun K9 hK9 => ?_) (AllStates.cons (o := { dst := some 9, op := Op.alloc 27, type := _, pos := _, after := _, guard := _ }) rfl (fun K9 hK9 => ?_) (AllStates.nil))
    all_goals dsimp only [laysA, optP, res1, res2, res3]
    · go_simp
      go_at_call 9
      refine (cb1 _ hF.g).mono ?_
      rintro e w9 ⟨rfl, g9⟩
      go_wp2_with fail
      exact hK9.out _ _ (hF.kept g9).g ⟨2, some b8, none, some b10, by omega, rfl, rfl, rfl, hF.kept g9⟩
    · go_simp
      exact hK9.out _ _ (hF.new9 (unhide HY64)).g ⟨1, some b8, some V.heap.size, some b10, by omega, rfl, rfl, rfl, hF.new9 (unhide HY64)⟩
  · refine states_ready [8, 16] (by kernel_rfl) (by simp) ?_
    refine AllStates.cons (o := { dst := some 24, op := Op.call { callee := Callee.value (Operand.func 9), args := #[(Operand.tmp 20), (Operand.tmp 21), (Operand.tmp 23)], argTypes := #[23, 25, 26] }, type := _, pos := _, after := _, guard := _ }) rfl (fun K9 hK9 => ?_) (AllStates.cons (o := { dst := some 10, op := Op.alloc 27, type := _, pos := _, after := _, guard := _ }) rfl (fun K9 hK9 => ?_) (AllStates.nil))
    all_goals dsimp only [laysA, optP, res1, res2, res3]
    · go_simp
      go_at_call 9
      refine (cb1 _ hF.g).mono ?_
      rintro e w9 ⟨rfl, g9⟩
      go_wp2_with fail
      exact hK9.out _ _ (hF.kept g9).g ⟨2, some b8, some b9, none, by omega, rfl, rfl, rfl, hF.kept g9⟩
    · go_simp
      exact hK9.out _ _ (hF.new10 (unhide HY64)).g ⟨1, some b8, some b9, some V.heap.size, by omega, rfl, rfl, rfl, hF.new10 (unhide HY64)⟩
  · refine states_ready [8] (by kernel_rfl) (by simp) ?_
    refine AllStates.cons (o := { dst := some 24, op := Op.call { callee := Callee.value (Operand.func 9), args := #[(Operand.tmp 20), (Operand.tmp 21), (Operand.tmp 23)], argTypes := #[23, 25, 26] }, type := _, pos := _, after := _, guard := _ }) rfl (fun K9 hK9 => ?_) (AllStates.nil)
    all_goals dsimp only [laysA, optP, res1, res2, res3]
    · go_simp
      go_at_call 9
      refine (cb1 _ hF.g).mono ?_
      rintro e w9 ⟨rfl, g9⟩
      go_wp2_with fail
      exact hK9.out _ _ (hF.kept g9).g ⟨2, some b8, some b9, some b10, by omega, rfl, rfl, rfl, hF.kept g9⟩
  · refine states_ready [13, 14, 15, 16] (by kernel_rfl) (by simp) ?_
    refine AllStates.cons (o := { dst := some 29, op := Op.call { callee := Callee.value (Operand.func 9), args := #[(Operand.tmp 25), (Operand.tmp 26), (Operand.tmp 28)], argTypes := #[23, 25, 26] }, type := _, pos := _, after := _, guard := _ }) rfl (fun K9 hK9 => ?_) (AllStates.cons (o := { dst := some 8, op := Op.alloc 27, type := _, pos := _, after := _, guard := _ }) rfl (fun K9 hK9 => ?_) (AllStates.cons (o := { dst := some 9, op := Op.alloc 27, type := _, pos := _, after := _, guard := _ }) rfl (fun K9 hK9 => ?_) (AllStates.cons (o := { dst := some 10, op := Op.alloc 27, type := _, pos := _, after := _, guard := _ }) rfl (fun K9 hK9 => ?_) (AllStates.nil))))
    all_goals dsimp only [laysA, optP, res1, res2, res3]
    · go_simp
      go_at_call 9
      refine (cb2 _ hF.g).mono ?_
      rintro e w9 ⟨rfl, g9⟩
      go_wp2_with fail
      exact hK9.out _ _ (hF.kept g9).g ⟨3, none, none, none, by omega, rfl, rfl, rfl, hF.kept g9⟩
    · go_simp
      exact hK9.out _ _ (hF.new8 (unhide HY64)).g ⟨2, some V.heap.size, none, none, by omega, rfl, rfl, rfl, hF.new8 (unhide HY64)⟩
    · go_simp
      exact hK9.out _ _ (hF.new9 (unhide HY64)).g ⟨2, none, some V.heap.size, none, by omega, rfl, rfl, rfl, hF.new9 (unhide HY64)⟩
    · go_simp
      exact hK9.out _ _ (hF.new10 (unhide HY64)).g ⟨2, none, none, some V.heap.size, by omega, rfl, rfl, rfl, hF.new10 (unhide HY64)⟩
  · refine states_ready [13, 14, 15] (by kernel_rfl) (by simp) ?_
    refine AllStates.cons (o := { dst := some 29, op := Op.call { callee := Callee.value (Operand.func 9), args := #[(Operand.tmp 25), (Operand.tmp 26), (Operand.tmp 28)], argTypes := #[23, 25, 26] }, type := _, pos := _, after := _, guard := _ }) rfl (fun K9 hK9 => ?_) (AllStates.cons (o := { dst := some 8, op := Op.alloc 27, type := _, pos := _, after := _, guard := _ }) rfl (fun K9 hK9 => ?_) (AllStates.cons (o := { dst := some 9, op := Op.alloc 27, type := _, pos := _, after := _, guard := _ }) rfl (fun K9 hK9 => ?_) (AllStates.nil)))
    all_goals dsimp only [laysA, optP, res1, res2, res3]
    · go_simp
      go_at_call 9
      refine (cb2 _ hF.g).mono ?_
      rintro e w9 ⟨rfl, g9⟩
      go_wp2_with fail
      exact hK9.out _ _ (hF.kept g9).g ⟨3, none, none, some b10, by omega, rfl, rfl, rfl, hF.kept g9⟩
    · go_simp
      exact hK9.out _ _ (hF.new8 (unhide HY64)).g ⟨2, some V.heap.size, none, some b10, by omega, rfl, rfl, rfl, hF.new8 (unhide HY64)⟩
    · go_simp
      exact hK9.out _ _ (hF.new9 (unhide HY64)).g ⟨2, none, some V.heap.size, some b10, by omega, rfl, rfl, rfl, hF.new9 (unhide HY64)⟩
  · refine states_ready [13, 14, 16] (by kernel_rfl) (by simp) ?_
    refine AllStates.cons (o := { dst := some 29, op := Op.call { callee := Callee.value (Operand.func 9), args := #[(Operand.tmp 25), (Operand.tmp 26), (Operand.tmp 28)], argTypes := #[23, 25, 26] }, type := _, pos := _, after := _, guard := _ }) rfl (fun K9 hK9 => ?_) (AllStates.cons (o := { dst := some 8, op := Op.alloc 27, type := _, pos := _, after := _, guard := _ }) rfl (fun K9 hK9 => ?_) (AllStates.cons (o := { dst := some 10, op := Op.alloc 27, type := _, pos := _, after := _, guard := _ }) rfl (fun K9 hK9 => ?_) (AllStates.nil)))
    all_goals dsimp only [laysA, optP, res1, res2, res3]
    · go_simp
      go_at_call 9
      refine (cb2 _ hF.g).mono ?_
      rintro e w9 ⟨rfl, g9⟩
      go_wp2_with fail
      exact hK9.out _ _ (hF.kept g9).g ⟨3, none, some b9, none, by omega, rfl, rfl, rfl, hF.kept g9⟩
    · go_simp
      exact hK9.out _ _ (hF.new8 (unhide HY64)).g ⟨2, some V.heap.size, some b9, none, by omega, rfl, rfl, rfl, hF.new8 (unhide HY64)⟩
    · go_simp
      exact hK9.out _ _ (hF.new10 (unhide HY64)).g ⟨2, none, some b9, some V.heap.size, by omega, rfl, rfl, rfl, hF.new10 (unhide HY64)⟩
  · refine states_ready [13, 14] (by kernel_rfl) (by simp) ?_
    refine AllStates.cons (o := { dst := some 29, op := Op.call { callee := Callee.value (Operand.func 9), args := #[(Operand.tmp 25), (Operand.tmp 26), (Operand.tmp 28)], argTypes := #[23, 25, 26] }, type := _, pos := _, after := _, guard := _ }) rfl (fun K9 hK9 => ?_) (AllStates.cons (o := { dst := some 8, op := Op.alloc 27, type := _, pos := _, after := _, guard := _ }) rfl (fun K9 hK9 => ?_) (AllStates.nil))
    all_goals dsimp only [laysA, optP, res1, res2, res3]
    · go_simp
      go_at_call 9
      refine (cb2 _ hF.g).mono ?_
      rintro e w9 ⟨rfl, g9⟩
      go_wp2_with fail
      exact hK9.out _ _ (hF.kept g9).g ⟨3, none, some b9, some b10, by omega, rfl, rfl, rfl, hF.kept g9⟩
    · go_simp
      exact hK9.out _ _ (hF.new8 (unhide HY64)).g ⟨2, some V.heap.size, some b9, some b10, by omega, rfl, rfl, rfl, hF.new8 (unhide HY64)⟩
  · refine states_ready [13, 15, 16] (by kernel_rfl) (by simp) ?_
    refine AllStates.cons (o := { dst := some 29, op := Op.call { callee := Callee.value (Operand.func 9), args := #[(Operand.tmp 25), (Operand.tmp 26), (Operand.tmp 28)], argTypes := #[23, 25, 26] }, type := _, pos := _, after := _, guard := _ }) rfl (fun K9 hK9 => ?_) (AllStates.cons (o := { dst := some 9, op := Op.alloc 27, type := _, pos := _, after := _, guard := _ }) rfl (fun K9 hK9 => ?_) (AllStates.cons (o := { dst := some 10, op := Op.alloc 27, type := _, pos := _, after := _, guard := _ }) rfl (fun K9 hK9 => ?_) (AllStates.nil)))
    all_goals dsimp only [laysA, optP, res1, res2, res3]
    · go_simp
      go_at_call 9
      refine (cb2 _ hF.g).mono ?_
      rintro e w9 ⟨rfl, g9⟩
      go_wp2_with fail
      exact hK9.out _ _ (hF.kept g9).g ⟨3, some b8, none, none, by omega, rfl, rfl, rfl, hF.kept g9⟩
    · go_simp
      exact hK9.out _ _ (hF.new9 (unhide HY64)).g ⟨2, some b8, some V.heap.size, none, by omega, rfl, rfl, rfl, hF.new9 (unhide HY64)⟩
    · go_simp
      exact hK9.out _ _ (hF.new10 (unhide HY64)).g ⟨2, some b8, none, some V.heap.size, by omega, rfl, rfl, rfl, hF.new10 (unhide HY64)⟩
  · refine states_ready [13, 15] (by kernel_rfl) (by simp) ?_
    refine AllStates.cons (o := { dst := some 29, op := Op.call { callee := Callee.value (Operand.func 9), args := #[(Operand.tmp 25), (Operand.tmp 26), (Operand.tmp 28)], argTypes := #[23, 25, 26] }, type := _, pos := _, after := _, guard := _ }) rfl (fun K9 hK9 => ?_) (AllStates.cons (o := { dst := some 9, op := Op.alloc 27, type := _, pos := _, after := _, guard := _ }) rfl (fun K9 hK9 => ?_) (AllStates.nil))
    all_goals dsimp only [laysA, optP, res1, res2, res3]
    · go_simp
      go_at_call 9
      refine (cb2 _ hF.g).mono ?_
      rintro e w9 ⟨rfl, g9⟩
      go_wp2_with fail
      exact hK9.out _ _ (hF.kept g9).g ⟨3, some b8, none, some b10, by omega, rfl, rfl, rfl, hF.kept g9⟩
    · go_simp
      exact hK9.out _ _ (hF.new9 (unhide HY64)).g ⟨2, some b8, some V.heap.size, some b10, by omega, rfl, rfl, rfl, hF.new9 (unhide HY64)⟩
  · refine states_ready [13, 16] (by kernel_rfl) (by simp) ?_
    refine AllStates.cons (o := { dst := some 29, op := Op.call { callee := Callee.value (Operand.func 9), args := #[(Operand.tmp 25), (Operand.tmp 26), (Operand.tmp 28)], argTypes := #[23, 25, 26] }, type := _, pos := _, after := _, guard := _ }) rfl (fun K9 hK9 => ?_) (AllStates.cons (o := { dst := some 10, op := Op.alloc 27, type := _, pos := _, after := _, guard := _ }) rfl (fun K9 hK9 => ?_) (AllStates.nil))
    all_goals dsimp only [laysA, optP, res1, res2, res3]
    · go_simp
      go_at_call 9
      refine (cb2 _ hF.g).mono ?_
      rintro e w9 ⟨rfl, g9⟩
      go_wp2_with fail
      exact hK9.out _ _ (hF.kept g9).g ⟨3, some b8, some b9, none, by omega, rfl, rfl, rfl, hF.kept g9⟩
    · go_simp
      exact hK9.out _ _ (hF.new10 (unhide HY64)).g ⟨2, some b8, some b9, some V.heap.size, by omega, rfl, rfl, rfl, hF.new10 (unhide HY64)⟩
  · refine states_ready [13] (by kernel_rfl) (by simp) ?_
    refine AllStates.cons (o := { dst := some 29, op := Op.call { callee := Callee.value (Operand.func 9), args := #[(Operand.tmp 25), (Operand.tmp 26), (Operand.tmp 28)], argTypes := #[23, 25, 26] }, type := _, pos := _, after := _, guard := _ }) rfl (fun K9 hK9 => ?_) (AllStates.nil)
    all_goals dsimp only [laysA, optP, res1, res2, res3]
    · go_simp
      go_at_call 9
      refine (cb2 _ hF.g).mono ?_
      rintro e w9 ⟨rfl, g9⟩
      go_wp2_with fail
      exact hK9.out _ _ (hF.kept g9).g ⟨3, some b8, some b9, some b10, by omega, rfl, rfl, rfl, hF.kept g9⟩
  · refine states_ready [14, 15, 16] (by kernel_rfl) (by simp) ?_
    refine AllStates.cons (o := { dst := some 8, op := Op.alloc 27, type := _, pos := _, after := _, guard := _ }) rfl (fun K9 hK9 => ?_) (AllStates.cons (o := { dst := some 9, op := Op.alloc 27, type := _, pos := _, after := _, guard := _ }) rfl (fun K9 hK9 => ?_) (AllStates.cons (o := { dst := some 10, op := Op.alloc 27, type := _, pos := _, after := _, guard := _ }) rfl (fun K9 hK9 => ?_) (AllStates.nil)))
    all_goals dsimp only [laysA, optP, res1, res2, res3]
    · go_simp
      exact hK9.out _ _ (hF.new8 (unhide HY64)).g ⟨3, some V.heap.size, none, none, by omega, rfl, rfl, rfl, hF.new8 (unhide HY64)⟩
    · go_simp
      exact hK9.out _ _ (hF.new9 (unhide HY64)).g ⟨3, none, some V.heap.size, none, by omega, rfl, rfl, rfl, hF.new9 (unhide HY64)⟩
    · go_simp
      exact hK9.out _ _ (hF.new10 (unhide HY64)).g ⟨3, none, none, some V.heap.size, by omega, rfl, rfl, rfl, hF.new10 (unhide HY64)⟩
  · refine states_ready [14, 15] (by kernel_rfl) (by simp) ?_
    refine AllStates.cons (o := { dst := some 8, op := Op.alloc 27, type := _, pos := _, after := _, guard := _ }) rfl (fun K9 hK9 => ?_) (AllStates.cons (o := { dst := some 9, op := Op.alloc 27, type := _, pos := _, after := _, guard := _ }) rfl (fun K9 hK9 => ?_) (AllStates.nil))
    all_goals dsimp only [laysA, optP, res1, res2, res3]
    · go_simp
      exact hK9.out _ _ (hF.new8 (unhide HY64)).g ⟨3, some V.heap.size, none, some b10, by omega, rfl, rfl, rfl, hF.new8 (unhide HY64)⟩
    · go_simp
      exact hK9.out _ _ (hF.new9 (unhide HY64)).g ⟨3, none, some V.heap.size, some b10, by omega, rfl, rfl, rfl, hF.new9 (unhide HY64)⟩
  · refine states_ready [14, 16] (by kernel_rfl) (by simp) ?_
    refine AllStates.cons (o := { dst := some 8, op := Op.alloc 27, type := _, pos := _, after := _, guard := _ }) rfl (fun K9 hK9 => ?_) (AllStates.cons (o := { dst := some 10, op := Op.alloc 27, type := _, pos := _, after := _, guard := _ }) rfl (fun K9 hK9 => ?_) (AllStates.nil))
    all_goals dsimp only [laysA, optP, res1, res2, res3]
    · go_simp
      exact hK9.out _ _ (hF.new8 (unhide HY64)).g ⟨3, some V.heap.size, some b9, none, by omega, rfl, rfl, rfl, hF.new8 (unhide HY64)⟩
    · go_simp
      exact hK9.out _ _ (hF.new10 (unhide HY64)).g ⟨3, none, some b9, some V.heap.size, by omega, rfl, rfl, rfl, hF.new10 (unhide HY64)⟩
  · refine states_ready [14] (by kernel_rfl) (by simp) ?_
    refine AllStates.cons (o := { dst := some 8, op := Op.alloc 27, type := _, pos := _, after := _, guard := _ }) rfl (fun K9 hK9 => ?_) (AllStates.nil)
    all_goals dsimp only [laysA, optP, res1, res2, res3]
    · go_simp
      exact hK9.out _ _ (hF.new8 (unhide HY64)).g ⟨3, some V.heap.size, some b9, some b10, by omega, rfl, rfl, rfl, hF.new8 (unhide HY64)⟩
  · refine states_ready [15, 16] (by kernel_rfl) (by simp) ?_
    refine AllStates.cons (o := { dst := some 9, op := Op.alloc 27, type := _, pos := _, after := _, guard := _ }) rfl (fun K9 hK9 => ?_) (AllStates.cons (o := { dst := some 10, op := Op.alloc 27, type := _, pos := _, after := _, guard := _ }) rfl (fun K9 hK9 => ?_) (AllStates.nil))
    all_goals dsimp only [laysA, optP, res1, res2, res3]
    · go_simp
      exact hK9.out _ _ (hF.new9 (unhide HY64)).g ⟨3, some b8, some V.heap.size, none, by omega, rfl, rfl, rfl, hF.new9 (unhide HY64)⟩
    · go_simp
      exact hK9.out _ _ (hF.new10 (unhide HY64)).g ⟨3, some b8, none, some V.heap.size, by omega, rfl, rfl, rfl, hF.new10 (unhide HY64)⟩
  · refine states_ready [15] (by kernel_rfl) (by simp) ?_
    refine AllStates.cons (o := { dst := some 9, op := Op.alloc 27, type := _, pos := _, after := _, guard := _ }) rfl (fun K9 hK9 => ?_) (AllStates.nil)
    all_goals dsimp only [laysA, optP, res1, res2, res3]
    · go_simp
      exact hK9.out _ _ (hF.new9 (unhide HY64)).g ⟨3, some b8, some V.heap.size, some b10, by omega, rfl, rfl, rfl, hF.new9 (unhide HY64)⟩
  · refine states_ready [16] (by kernel_rfl) (by simp) ?_
    refine AllStates.cons (o := { dst := some 10, op := Op.alloc 27, type := _, pos := _, after := _, guard := _ }) rfl (fun K9 hK9 => ?_) (AllStates.nil)
    all_goals dsimp only [laysA, optP, res1, res2, res3]
    · go_simp
      exact hK9.out _ _ (hF.new10 (unhide HY64)).g ⟨3, some b8, some b9, some V.heap.size, by omega, rfl, rfl, rfl, hF.new10 (unhide HY64)⟩
  · refine Or.inl ?_
    dsimp only [laysA, optP, res1, res2, res3]
    obtain ⟨B8, s8⟩ := hF.b8 b8 rfl
    obtain ⟨B9, s9⟩ := hF.b9 b9 rfl
    obtain ⟨B10, s10⟩ := hF.b10 b10 rfl
    have d1 : b8 ≠ b9 := fun e => hF.n1 b8 rfl (by rw [e])
    have d2 : b8 ≠ b10 := fun e => hF.n2 b8 rfl (by rw [e])
    have d3 : b9 ≠ b10 := fun e => hF.n3 b9 rfl (by rw [e])
    have gU := hF.g
    clear hF
    have u1 : w3.grownBy (V.setRow b8 (y0.map bv).toArray) none := gb_row gU _ (Or.inl s8)
    have u2 : w3.grownBy ((V.setRow b8 (y0.map bv).toArray).setRow b9 (y1.map bv).toArray) none := gb_row u1 _ (Or.inl s9)
    have u3 : w3.grownBy (((V.setRow b8 (y0.map bv).toArray).setRow b9 (y1.map bv).toArray).setRow b10 (y2.map bv).toArray) none := gb_row u2 _ (Or.inl s10)
    have e9 := B9.row_other b8 (y0.map bv).toArray d1
    have e10 := (B10.row_other b8 (y0.map bv).toArray d2).row_other b9 (y1.map bv).toArray d3
    have f8 := ((B8.row (y0.map bv)).row_other b9 (y1.map bv).toArray (fun e => d1 e.symm)).row_other b10 (y2.map bv).toArray (fun e => d2 e.symm)
    have f9 := (e9.row (y1.map bv)).row_other b10 (y2.map bv).toArray (fun e => d3 e.symm)
    have f10 := e10.row (y2.map bv)
    refine wpAnyH_ready (rs := [17]) (by kernel_rfl) (by simp) ?_
    refine AllReadyH.cons (o := { dst := none, op := Op.store 27 (Operand.tmp 8) (Operand.tmp 19), type := _, pos := _, after := _, guard := _ }) rfl (fun K9 hK9 => ?_) AllReadyH.nil
    rw [if_pos (by rfl)]
    refine wp_store_row 27 _ _ rfl b8 _ rfl rfl _ _ B8 ?_ ?_ ?_ ?_
    · rw [show ((y0.map bv).toArray).size = 64 by simp [unhide HL0]]; exact hi64
    · rw [show ((y0.map bv).toArray).size = 64 by simp [unhide HL0]]; rfl
    · exact all_oneCell_toArray (bv_one _)
    refine hK9.out _ _ u1 (fun _ => ?_)
    clear hK9 K9
    (try simp only [Act.put, List.setIfInBounds_toArray, List.set_cons_zero, List.set_cons_succ])
    refine wpAnyH_ready (rs := [18]) (by kernel_rfl) (by simp) ?_
    refine AllReadyH.cons (o := { dst := none, op := Op.store 27 (Operand.tmp 9) (Operand.tmp 24), type := _, pos := _, after := _, guard := _ }) rfl (fun K9 hK9 => ?_) AllReadyH.nil
    rw [if_pos (by rfl)]
    refine wp_store_row 27 _ _ rfl b9 _ rfl rfl _ _ e9 ?_ ?_ ?_ ?_
    · rw [show ((y1.map bv).toArray).size = 64 by simp [unhide HL1]]; exact hi64
    · rw [show ((y1.map bv).toArray).size = 64 by simp [unhide HL1]]; rfl
    · exact all_oneCell_toArray (bv_one _)
    refine hK9.out _ _ u2 (fun _ => ?_)
    clear hK9 K9
    (try simp only [Act.put, List.setIfInBounds_toArray, List.set_cons_zero, List.set_cons_succ])
    refine wpAnyH_ready (rs := [19]) (by kernel_rfl) (by simp) ?_
    refine AllReadyH.cons (o := { dst := none, op := Op.store 27 (Operand.tmp 10) (Operand.tmp 29), type := _, pos := _, after := _, guard := _ }) rfl (fun K9 hK9 => ?_) AllReadyH.nil
    rw [if_pos (by rfl)]
    refine wp_store_row 27 _ _ rfl b10 _ rfl rfl _ _ e10 ?_ ?_ ?_ ?_
    · rw [show ((y2.map bv).toArray).size = 64 by simp [unhide HL2]]; exact hi64
    · rw [show ((y2.map bv).toArray).size = 64 by simp [unhide HL2]]; rfl
    · exact all_oneCell_toArray (bv_one _)
    refine hK9.out _ _ u3 (fun _ => ?_)
    clear hK9 K9
    (try simp only [Act.put, List.setIfInBounds_toArray, List.set_cons_zero, List.set_cons_succ])
    refine wpAnyH_done (by kernel_rfl) ?_ _
    refine NoPanic.normal ?_
    obtain ⟨U, hU⟩ : ∃ U, U = ((V.setRow b8 (y0.map bv).toArray).setRow b9 (y1.map bv).toArray).setRow b10 (y2.map bv).toArray := ⟨_, rfl⟩
    rw [← hU] at f8 f9 f10 u3
    have hXU := (unhide HX).kept u3 (by simp)
    have hTU := hT3.kept0 u3
    have hxl := unhide HXL
    have bX : Bts U (some ⟨NX, 0, none⟩) 150 xs := blk_bts hXU 150 (by rw [hxl]; exact Nat.le_refl _) (by unfold maxLen; omega)
    have up : ∀ {V : World} {a : Option Addr} {c : Nat} {l : List UInt8}, Bts U a c l → U.grownBy V none → Bts V a c l := fun h g => h.kept g (fun _ e => by cases e)
    have cvA : ∀ V, U.grownBy V none → (convert 30 9 (.slice (some ⟨NX, 0, none⟩) 64 150)).run Tryd.prog V = .ok (.string (str y0)) V := fun V gV => by
      have := conv_str ((up bX gV).take 64 (by omega))
      rw [unhide HX0, unhide HL0] at this
      exact this
    have cvB : ∀ V, U.grownBy V none → (convert 30 9 (.slice (some ⟨NX, 64, none⟩) 64 86)).run Tryd.prog V = .ok (.string (str y1)) V := fun V gV => by
      have := conv_str (((up bX gV).drop 64 (by omega)).take 64 (by rw [List.length_drop]; omega))
      rw [unhide HX1, unhide HL1] at this
      exact this
    have cvC : ∀ V, U.grownBy V none → (convert 30 9 (.slice (some ⟨NX, 128, none⟩) 22 22)).run Tryd.prog V = .ok (.string (str (y2.take 22))) V := fun V gV => by
      have := conv_str ((up bX gV).drop 128 (by omega))
      rw [unhide HX2, show (y2.take 22).length = 22 by simp [unhide HL2]] at this
      exact this
    have cv8 : ∀ V, U.grownBy V none → (convert 30 9 (.slice (some ⟨b8, 0, none⟩) 64 64)).run Tryd.prog V = .ok (.string (str y0)) V := fun V gV => conv_blk f8 gV 64 (unhide HL0) (by omega)
    have cv9 : ∀ V, U.grownBy V none → (convert 30 9 (.slice (some ⟨b9, 0, none⟩) 64 64)).run Tryd.prog V = .ok (.string (str y1)) V := fun V gV => conv_blk f9 gV 64 (unhide HL1) (by omega)
    have cv10 : ∀ V, U.grownBy V none → (convert 30 9 (.slice (some ⟨b10, 0, none⟩) 22 64)).run Tryd.prog V = .ok (.string (str (y2.take 22))) V := fun V gV => by
      have := conv_str ((up (blk_bts f10 64 (by rw [unhide HL2]; exact Nat.le_refl _) (by unfold maxLen; omega)) gV).take 22 (by rw [unhide HL2]; omega))
      rw [show (y2.take 22).length = 22 by simp [unhide HL2]] at this
      exact this
    have sA : ∀ W, (Instr.slice 30 (.slice (some ⟨NX, 0, none⟩) 150 150) none (some (.int .i64 64)) none).run Tryd.prog W = .ok (.slice (some ⟨NX, 0, none⟩) 64 150) W := fun W => slice_to W _ _ Tryd.underlying30 size_byte _ 150 150 64 (by omega)
    have sB : ∀ W, (Instr.slice 30 (.slice (some ⟨NX, 0, none⟩) 150 150) (some (.int .i64 64)) (some (.int .i64 128)) none).run Tryd.prog W = .ok (.slice (some ⟨NX, 64, none⟩) 64 86) W := fun W => slice_mid W _ _ Tryd.underlying30 size_byte NX 150 150 64 128 (by omega) (by omega) (by omega)
    have sC : ∀ W, (Instr.slice 30 (.slice (some ⟨NX, 0, none⟩) 150 150) (some (.int .i64 128)) none none).run Tryd.prog W = .ok (.slice (some ⟨NX, 128, none⟩) 22 22) W := fun W => by
      have := slice_from W _ _ Tryd.underlying30 size_byte (some ⟨NX, 0, none⟩) 150 150 128 (by omega)
      rw [show cutA (some ⟨NX, 0, none⟩) 150 128 = some ⟨NX, 128, none⟩ by simp [cutA, Addr.add_lit]] at this
      exact this
    have s8 := slice_whole 27 5 64 Tryd.underlying27 size_byte b8 0 (by omega)
    have s9 := slice_whole 27 5 64 Tryd.underlying27 size_byte b9 0 (by omega)
    have s10 : ∀ W, (Instr.sliceAt 27 (.pointer (some ⟨b10, 0, none⟩)) none (some (.int .i64 22)) none).run Tryd.prog W = .ok (.slice (some ⟨b10, 0, none⟩) 22 64) W := fun W => slice_arr_to 27 5 64 Tryd.underlying27 size_byte b10 22 (by omega) (by omega) W
    have co : ∀ V, U.grownBy V none → Calls Tryd.prog 11 #[] V fun e w' => e = .returned (.bool true) ∧ U.grownBy w' none := fun V gV => (cone_any V (hTU.kept0 gV)).mono fun e w' ⟨he, hgw⟩ => ⟨he, tr gV hgw⟩
    have q1 : ((str y0).toList == (str y0).toList) = true := by simp
    have q2 : ((str y1).toList == (str y1).toList) = true := by simp
    obtain ⟨y2c, hy2c⟩ : ∃ y, y = y2.take 22 := ⟨_, rfl⟩
    rw [← hy2c] at cvC cv10
    have q3 : ((str y2c).toList == (str y2c).toList) = true := by simp
    have GU := tr (unhide HG1) (tr (unhide HG3) u3)
    have HGU := hide GU
    have h5 : U.grownBy U.drew none := gb_drew (gb_refl _ _)
    clear hy2c B8 B9 B10 gU u1 u2 u3 e9 e10 f8 f9 f10 hXU hTU hxl bX up GU d1 d2 d3
    rw [← hU]
    clear hU
    go_wp2_with fail
    refine wp_region_noPanic ?_
    refine wp_region_held_drew (S := fun V => U.grownBy V none) (by kernel_rfl) h5 (fun _ => ?_)
    refine wpAnyH_take (i := 0) (oi := { dst := some 30, op := Op.move (Operand.tmp 7), type := _, pos := _, after := _, guard := _ }) (v := .slice (some ⟨NX, 0, none⟩) 150 150) rfl (by kernel_rfl) (by kernel_rfl) (by kernel_rfl) (fun _ _ _ h => h) (Or.inl ⟨by rfl, fun V (hV : U.grownBy V none) => by go_simp⟩) h5 ?_
    (try simp only [Act.put, List.setIfInBounds_toArray, List.set_cons_zero, List.set_cons_succ])
    refine wpAnyH_take (i := 1) (oi := { dst := some 31, op := Op.call { callee := Callee.builtin Builtin.len, args := #[(Operand.tmp 30)], argTypes := #[30] }, type := _, pos := _, after := _, guard := _ }) (v := .int .i64 150) rfl (by kernel_rfl) (by kernel_rfl) (by kernel_rfl) (fun _ _ _ h => h) (Or.inl ⟨by rfl, fun V (hV : U.grownBy V none) => by go_simp⟩) h5 ?_
    (try simp only [Act.put, List.setIfInBounds_toArray, List.set_cons_zero, List.set_cons_succ])
    refine wpAnyH_take (i := 2) (oi := { dst := some 32, op := Op.binOp BinOp.eql 3 (Operand.tmp 31) (Operand.const (Value.int IntKind.i64 150)) 3, type := _, pos := _, after := _, guard := _ }) (v := .bool true) rfl (by kernel_rfl) (by kernel_rfl) (by kernel_rfl) (fun _ _ _ h => h) (Or.inl ⟨by rfl, fun V (hV : U.grownBy V none) => by go_simp⟩) h5 ?_
    (try simp only [Act.put, List.setIfInBounds_toArray, List.set_cons_zero, List.set_cons_succ])
    refine wpAnyH_take (i := 3) (oi := { dst := some 33, op := Op.move (Operand.tmp 32), type := _, pos := _, after := _, guard := _ }) (v := .bool true) rfl (by kernel_rfl) (by kernel_rfl) (by kernel_rfl) (fun _ _ _ h => h) (Or.inl ⟨by rfl, fun V (hV : U.grownBy V none) => by go_simp⟩) h5 ?_
    (try simp only [Act.put, List.setIfInBounds_toArray, List.set_cons_zero, List.set_cons_succ])
    refine wpAnyH_take (i := 4) (oi := { dst := some 34, op := Op.move (Operand.tmp 7), type := _, pos := _, after := _, guard := _ }) (v := .slice (some ⟨NX, 0, none⟩) 150 150) rfl (by kernel_rfl) (by kernel_rfl) (by kernel_rfl) (fun _ _ _ h => h) (Or.inl ⟨by rfl, fun V (hV : U.grownBy V none) => by go_simp⟩) h5 ?_
    (try simp only [Act.put, List.setIfInBounds_toArray, List.set_cons_zero, List.set_cons_succ])
    refine wpAnyH_take (i := 5) (oi := { dst := some 35, op := Op.slice 30 (Operand.tmp 34) none (some (Operand.const (Value.int IntKind.i64 64))) none, type := _, pos := _, after := _, guard := _ }) (v := .slice (some ⟨NX, 0, none⟩) 64 150) rfl (by kernel_rfl) (by kernel_rfl) (by kernel_rfl) (fun _ _ _ h => h) (Or.inl ⟨by rfl, fun V (hV : U.grownBy V none) => by go_simp⟩) h5 ?_
    (try simp only [Act.put, List.setIfInBounds_toArray, List.set_cons_zero, List.set_cons_succ])
    refine wpAnyH_take (i := 6) (oi := { dst := some 36, op := Op.convert 30 9 (Operand.tmp 35), type := _, pos := _, after := _, guard := _ }) (v := .string (str y0)) rfl (by kernel_rfl) (by kernel_rfl) (by kernel_rfl) (fun _ _ _ h => h) (Or.inl ⟨by rfl, fun V (hV : U.grownBy V none) => by go_simp⟩) h5 ?_
    (try simp only [Act.put, List.setIfInBounds_toArray, List.set_cons_zero, List.set_cons_succ])
    refine wpAnyH_take (i := 7) (oi := { dst := some 37, op := Op.slice 27 (Operand.tmp 8) none none none, type := _, pos := _, after := _, guard := _ }) (v := .slice (some ⟨b8, 0, none⟩) 64 64) rfl (by kernel_rfl) (by kernel_rfl) (by kernel_rfl) (fun _ _ _ h => h) (Or.inl ⟨by rfl, fun V (hV : U.grownBy V none) => by go_simp⟩) h5 ?_
    (try simp only [Act.put, List.setIfInBounds_toArray, List.set_cons_zero, List.set_cons_succ])
    refine wpAnyH_take (i := 8) (oi := { dst := some 38, op := Op.convert 30 9 (Operand.tmp 37), type := _, pos := _, after := _, guard := _ }) (v := .string (str y0)) rfl (by kernel_rfl) (by kernel_rfl) (by kernel_rfl) (fun _ _ _ h => h) (Or.inl ⟨by rfl, fun V (hV : U.grownBy V none) => by go_simp⟩) h5 ?_
    (try simp only [Act.put, List.setIfInBounds_toArray, List.set_cons_zero, List.set_cons_succ])
    refine wpAnyH_take (i := 9) (oi := { dst := some 39, op := Op.binOp BinOp.eql 9 (Operand.tmp 36) (Operand.tmp 38) 9, type := _, pos := _, after := _, guard := _ }) (v := .bool true) rfl (by kernel_rfl) (by kernel_rfl) (by kernel_rfl) (fun _ _ _ h => h) (Or.inl ⟨by rfl, fun V (hV : U.grownBy V none) => by go_simp⟩) h5 ?_
    (try simp only [Act.put, List.setIfInBounds_toArray, List.set_cons_zero, List.set_cons_succ])
    refine wpAnyH_take (i := 10) (oi := { dst := some 40, op := Op.pick (Operand.tmp 33) (Operand.tmp 39) (Operand.const (Value.bool false)), type := _, pos := _, after := _, guard := _ }) (v := .bool true) rfl (by kernel_rfl) (by kernel_rfl) (by kernel_rfl) (fun _ _ _ h => h) (Or.inl ⟨by rfl, fun V (hV : U.grownBy V none) => by go_simp⟩) h5 ?_
    (try simp only [Act.put, List.setIfInBounds_toArray, List.set_cons_zero, List.set_cons_succ])
    refine wpAnyH_take (i := 11) (oi := { dst := some 41, op := Op.move (Operand.tmp 40), type := _, pos := _, after := _, guard := _ }) (v := .bool true) rfl (by kernel_rfl) (by kernel_rfl) (by kernel_rfl) (fun _ _ _ h => h) (Or.inl ⟨by rfl, fun V (hV : U.grownBy V none) => by go_simp⟩) h5 ?_
    (try simp only [Act.put, List.setIfInBounds_toArray, List.set_cons_zero, List.set_cons_succ])
    refine wpAnyH_take (i := 12) (oi := { dst := some 42, op := Op.move (Operand.tmp 7), type := _, pos := _, after := _, guard := _ }) (v := .slice (some ⟨NX, 0, none⟩) 150 150) rfl (by kernel_rfl) (by kernel_rfl) (by kernel_rfl) (fun _ _ _ h => h) (Or.inl ⟨by rfl, fun V (hV : U.grownBy V none) => by go_simp⟩) h5 ?_
    (try simp only [Act.put, List.setIfInBounds_toArray, List.set_cons_zero, List.set_cons_succ])
    refine wpAnyH_take (i := 13) (oi := { dst := some 43, op := Op.slice 30 (Operand.tmp 42) (some (Operand.const (Value.int IntKind.i64 64))) (some (Operand.const (Value.int IntKind.i64 128))) none, type := _, pos := _, after := _, guard := _ }) (v := .slice (some ⟨NX, 64, none⟩) 64 86) rfl (by kernel_rfl) (by kernel_rfl) (by kernel_rfl) (fun _ _ _ h => h) (Or.inl ⟨by rfl, fun V (hV : U.grownBy V none) => by go_simp⟩) h5 ?_
    (try simp only [Act.put, List.setIfInBounds_toArray, List.set_cons_zero, List.set_cons_succ])
    refine wpAnyH_take (i := 14) (oi := { dst := some 44, op := Op.convert 30 9 (Operand.tmp 43), type := _, pos := _, after := _, guard := _ }) (v := .string (str y1)) rfl (by kernel_rfl) (by kernel_rfl) (by kernel_rfl) (fun _ _ _ h => h) (Or.inl ⟨by rfl, fun V (hV : U.grownBy V none) => by go_simp⟩) h5 ?_
    (try simp only [Act.put, List.setIfInBounds_toArray, List.set_cons_zero, List.set_cons_succ])
    refine wpAnyH_take (i := 15) (oi := { dst := some 45, op := Op.slice 27 (Operand.tmp 9) none none none, type := _, pos := _, after := _, guard := _ }) (v := .slice (some ⟨b9, 0, none⟩) 64 64) rfl (by kernel_rfl) (by kernel_rfl) (by kernel_rfl) (fun _ _ _ h => h) (Or.inl ⟨by rfl, fun V (hV : U.grownBy V none) => by go_simp⟩) h5 ?_
    (try simp only [Act.put, List.setIfInBounds_toArray, List.set_cons_zero, List.set_cons_succ])
    refine wpAnyH_take (i := 16) (oi := { dst := some 46, op := Op.convert 30 9 (Operand.tmp 45), type := _, pos := _, after := _, guard := _ }) (v := .string (str y1)) rfl (by kernel_rfl) (by kernel_rfl) (by kernel_rfl) (fun _ _ _ h => h) (Or.inl ⟨by rfl, fun V (hV : U.grownBy V none) => by go_simp⟩) h5 ?_
    (try simp only [Act.put, List.setIfInBounds_toArray, List.set_cons_zero, List.set_cons_succ])
    refine wpAnyH_take (i := 17) (oi := { dst := some 47, op := Op.binOp BinOp.eql 9 (Operand.tmp 44) (Operand.tmp 46) 9, type := _, pos := _, after := _, guard := _ }) (v := .bool true) rfl (by kernel_rfl) (by kernel_rfl) (by kernel_rfl) (fun _ _ _ h => h) (Or.inl ⟨by rfl, fun V (hV : U.grownBy V none) => by go_simp⟩) h5 ?_
    (try simp only [Act.put, List.setIfInBounds_toArray, List.set_cons_zero, List.set_cons_succ])
    refine wpAnyH_take (i := 18) (oi := { dst := some 48, op := Op.pick (Operand.tmp 41) (Operand.tmp 47) (Operand.const (Value.bool false)), type := _, pos := _, after := _, guard := _ }) (v := .bool true) rfl (by kernel_rfl) (by kernel_rfl) (by kernel_rfl) (fun _ _ _ h => h) (Or.inl ⟨by rfl, fun V (hV : U.grownBy V none) => by go_simp⟩) h5 ?_
    (try simp only [Act.put, List.setIfInBounds_toArray, List.set_cons_zero, List.set_cons_succ])
    refine wpAnyH_take (i := 19) (oi := { dst := some 49, op := Op.move (Operand.tmp 48), type := _, pos := _, after := _, guard := _ }) (v := .bool true) rfl (by kernel_rfl) (by kernel_rfl) (by kernel_rfl) (fun _ _ _ h => h) (Or.inl ⟨by rfl, fun V (hV : U.grownBy V none) => by go_simp⟩) h5 ?_
    (try simp only [Act.put, List.setIfInBounds_toArray, List.set_cons_zero, List.set_cons_succ])
    refine wpAnyH_take (i := 20) (oi := { dst := some 50, op := Op.move (Operand.tmp 7), type := _, pos := _, after := _, guard := _ }) (v := .slice (some ⟨NX, 0, none⟩) 150 150) rfl (by kernel_rfl) (by kernel_rfl) (by kernel_rfl) (fun _ _ _ h => h) (Or.inl ⟨by rfl, fun V (hV : U.grownBy V none) => by go_simp⟩) h5 ?_
    (try simp only [Act.put, List.setIfInBounds_toArray, List.set_cons_zero, List.set_cons_succ])
    refine wpAnyH_take (i := 21) (oi := { dst := some 51, op := Op.slice 30 (Operand.tmp 50) (some (Operand.const (Value.int IntKind.i64 128))) none none, type := _, pos := _, after := _, guard := _ }) (v := .slice (some ⟨NX, 128, none⟩) 22 22) rfl (by kernel_rfl) (by kernel_rfl) (by kernel_rfl) (fun _ _ _ h => h) (Or.inl ⟨by rfl, fun V (hV : U.grownBy V none) => by go_simp⟩) h5 ?_
    (try simp only [Act.put, List.setIfInBounds_toArray, List.set_cons_zero, List.set_cons_succ])
    refine wpAnyH_take (i := 22) (oi := { dst := some 52, op := Op.convert 30 9 (Operand.tmp 51), type := _, pos := _, after := _, guard := _ }) (v := .string (str y2c)) rfl (by kernel_rfl) (by kernel_rfl) (by kernel_rfl) (fun _ _ _ h => h) (Or.inl ⟨by rfl, fun V (hV : U.grownBy V none) => by go_simp⟩) h5 ?_
    (try simp only [Act.put, List.setIfInBounds_toArray, List.set_cons_zero, List.set_cons_succ])
    refine wpAnyH_take (i := 23) (oi := { dst := some 53, op := Op.slice 27 (Operand.tmp 10) none (some (Operand.const (Value.int IntKind.i64 22))) none, type := _, pos := _, after := _, guard := _ }) (v := .slice (some ⟨b10, 0, none⟩) 22 64) rfl (by kernel_rfl) (by kernel_rfl) (by kernel_rfl) (fun _ _ _ h => h) (Or.inl ⟨by rfl, fun V (hV : U.grownBy V none) => by go_simp⟩) h5 ?_
    (try simp only [Act.put, List.setIfInBounds_toArray, List.set_cons_zero, List.set_cons_succ])
    refine wpAnyH_take (i := 24) (oi := { dst := some 54, op := Op.convert 30 9 (Operand.tmp 53), type := _, pos := _, after := _, guard := _ }) (v := .string (str y2c)) rfl (by kernel_rfl) (by kernel_rfl) (by kernel_rfl) (fun _ _ _ h => h) (Or.inl ⟨by rfl, fun V (hV : U.grownBy V none) => by go_simp⟩) h5 ?_
    (try simp only [Act.put, List.setIfInBounds_toArray, List.set_cons_zero, List.set_cons_succ])
    refine wpAnyH_take (i := 25) (oi := { dst := some 55, op := Op.binOp BinOp.eql 9 (Operand.tmp 52) (Operand.tmp 54) 9, type := _, pos := _, after := _, guard := _ }) (v := .bool true) rfl (by kernel_rfl) (by kernel_rfl) (by kernel_rfl) (fun _ _ _ h => h) (Or.inl ⟨by rfl, fun V (hV : U.grownBy V none) => by go_simp⟩) h5 ?_
    (try simp only [Act.put, List.setIfInBounds_toArray, List.set_cons_zero, List.set_cons_succ])
    refine wpAnyH_take (i := 26) (oi := { dst := some 56, op := Op.pick (Operand.tmp 49) (Operand.tmp 55) (Operand.const (Value.bool false)), type := _, pos := _, after := _, guard := _ }) (v := .bool true) rfl (by kernel_rfl) (by kernel_rfl) (by kernel_rfl) (fun _ _ _ h => h) (Or.inl ⟨by rfl, fun V (hV : U.grownBy V none) => by go_simp⟩) h5 ?_
    (try simp only [Act.put, List.setIfInBounds_toArray, List.set_cons_zero, List.set_cons_succ])
    refine wpAnyH_take (i := 27) (oi := { dst := some 57, op := Op.move (Operand.tmp 56), type := _, pos := _, after := _, guard := _ }) (v := .bool true) rfl (by kernel_rfl) (by kernel_rfl) (by kernel_rfl) (fun _ _ _ h => h) (Or.inl ⟨by rfl, fun V (hV : U.grownBy V none) => by go_simp⟩) h5 ?_
    (try simp only [Act.put, List.setIfInBounds_toArray, List.set_cons_zero, List.set_cons_succ])
    refine wpAnyH_ready (rs := [28]) (by kernel_rfl) (by simp) ?_
    refine AllReadyH.cons (o := { dst := some 58, op := Op.call { callee := Callee.value (Operand.func 11), args := #[], argTypes := #[] }, type := _, pos := _, after := _, guard := _ }) rfl (fun K9 hK9 => ?_) AllReadyH.nil
    go_simp
    go_at_call 11
    refine (co _ h5).mono ?_
    rintro e w7 ⟨rfl, g7⟩
    go_wp2_with fail
    refine hK9.out _ _ g7 (fun _ => ?_)
    clear hK9 K9
    (try simp only [Act.put, List.setIfInBounds_toArray, List.set_cons_zero, List.set_cons_succ])
    refine wpAnyH_take (i := 29) (oi := { dst := some 59, op := Op.pick (Operand.tmp 57) (Operand.tmp 58) (Operand.const (Value.bool false)), type := _, pos := _, after := _, guard := _ }) (v := .bool true) rfl (by kernel_rfl) (by kernel_rfl) (by kernel_rfl) (fun _ _ _ h => h) (Or.inl ⟨by rfl, fun V (hV : U.grownBy V none) => by go_simp⟩) g7 ?_
    (try simp only [Act.put, List.setIfInBounds_toArray, List.set_cons_zero, List.set_cons_succ])
    refine wpAnyH_take (i := 30) (oi := { dst := some 6, op := Op.assign (Operand.tmp 59), type := _, pos := _, after := _, guard := _ }) (v := .bool true) rfl (by kernel_rfl) (by kernel_rfl) (by kernel_rfl) (fun _ _ _ h => h) (Or.inl ⟨by rfl, fun V (hV : U.grownBy V none) => by go_simp⟩) g7 ?_
    (try simp only [Act.put, List.setIfInBounds_toArray, List.set_cons_zero, List.set_cons_succ])
    refine wpAnyH_done (by kernel_rfl) ?_ _
    refine NoPanic.normal ?_
    go_wp2
    go_ret
    exact ⟨rfl, tr (unhide HGU) g7⟩

end Go.Proofs.YtikdpifacokfpaaDoor
