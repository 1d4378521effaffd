/- ChachaTwice's walk: whatever the key, the count and the text, the call returns true and nothing that was in memory has changed; where the table holds what it is laid with. -/
import Derived.Test.YtikdpifacokfpaaDoorCStream
import Derived.Test.YtikdpifacokfpaaDoorMStr
import Derived.Deep.DrawnRows
import Derived.Deep.MidRow
namespace Go.Proofs.YtikdpifacokfpaaDoor
open Go.RowKit
attribute [local go_sem ↓] Go.wp_at_zero Go.wp_at_succ

def nn3 : List UInt8 := [0, 3, 0, 0, 0, 0, 0, 0, 0, 0, 0, 0]

theorem blk_range {w : World} {b : Nat} {t : TypeId} {vs : List Value} (h : Blk w b t vs) : w.rangeAt b 0 vs := by
  have : Blk w b t ([] ++ (vs ++ [])) := by simpa using h
  exact this.range

set_option maxRecDepth 100000 in
set_option maxHeartbeats 4000000 in
theorem chachaTwice_any (w : World) (k : List UInt8) (hk : k.length = 32) (c : W) (ao : Option Addr) (cap : Nat) (l : List UInt8) (hb : Bts w ao cap l) (hT : CTab w) :
    Calls Tryd.prog 5 #[.agg (k.map bv).toArray, .int .u32 (wz c), .slice ao l.length cap] w fun e w' => e = .returned (.bool true) ∧ w.grownBy w' none := by
  have hi32 : (Tryd.prog.info? 23).map (·.size) = some 32 := by kernel_rfl
  have hi12 : (Tryd.prog.info? 25).map (·.size) = some 12 := by kernel_rfl
  obtain ⟨l0, hl0⟩ : ∃ l0, l0 = l.take 2000 := ⟨_, rfl⟩
  have hb0 : Bts w ao cap l0 := by
    rw [hl0]
    by_cases hn : 2000 ≤ l.length
    · exact hb.take 2000 hn
    · rw [List.take_of_length_le (by omega)]; exact hb
  obtain ⟨L, hL⟩ : ∃ L, L = l0.length := ⟨_, rfl⟩
  have hL2 : L ≤ 2000 := by rw [hL, hl0]; simp; omega
  obtain ⟨n0, hn0⟩ : ∃ n0, n0 = nn3 := ⟨_, rfl⟩
  have hn12 : n0.length = 12 := by rw [hn0]; rfl
  obtain ⟨xs, hxs⟩ : ∃ xs, xs = streamL k n0 c l0 := ⟨_, rfl⟩
  have hxl : xs.length = L := by rw [hxs, streamL_length, hL]
  obtain ⟨W1, hW1⟩ : ∃ W1, W1 = (w.alloc (.cells (k.map bv).toArray 23)).alloc (.cells #[.int .u8 0, .int .u8 3, .int .u8 0, .int .u8 0, .int .u8 0, .int .u8 0, .int .u8 0, .int .u8 0, .int .u8 0, .int .u8 0, .int .u8 0, .int .u8 0] 25) := ⟨_, rfl⟩
  have hW1' : W1 = (w.alloc (.cells (k.map bv).toArray 23)).alloc (.cells (n0.map bv).toArray 25) := by
    rw [hW1, hn0, show (nn3.map bv).toArray = #[.int .u8 0, .int .u8 3, .int .u8 0, .int .u8 0, .int .u8 0, .int .u8 0, .int .u8 0, .int .u8 0, .int .u8 0, .int .u8 0, .int .u8 0, .int .u8 0] by kernel_rfl]
  have hg1 : w.grownBy W1 none := by rw [hW1]; exact gb_alloc (gb_alloc (gb_refl _ _) _) _
  have hK1 : Blk W1 w.heap.size 23 (k.map bv) := by rw [hW1']; exact (Blk.new w 23 (k.map bv)).alloc _
  have hN1 : Blk W1 (w.heap.size + 1) 25 (n0.map bv) := by
    have := Blk.new (w.alloc (.cells (k.map bv).toArray 23)) 25 (n0.map bv)
    rw [World.size_alloc] at this
    rw [hW1']; exact this
  have hrK := blk_range hK1
  have hrN := blk_range hN1
  have hiK : (Tryd.prog.info? 23).map (·.size) = some (k.map bv).length := by rw [List.length_map, hk]; exact hi32
  have hiN : (Tryd.prog.info? 25).map (·.size) = some (n0.map bv).length := by rw [List.length_map, hn12]; exact hi12
  have hKZ : ((k.map bv).toArray).size = 32 := by simp [hk]
  have hNZ : ((n0.map bv).toArray).size = 12 := by simp [hn12]
  have hst := stream_any W1 k n0 c hk hn12 ao cap l0 (hb0.kept hg1 (fun _ e => by cases e)) (by omega) (hT.kept0 hg1)
  obtain ⟨NX, hNX⟩ : ∃ N, N = W1.heap.size + 2 := ⟨_, rfl⟩
  rw [← hNX, ← hL, ← hxs] at hst
  obtain ⟨hf, hhf⟩ : ∃ hf : Nat, hf = L / 2 := ⟨_, rfl⟩
  obtain ⟨d, hd⟩ : ∃ d : Nat, d = hf / 64 := ⟨_, rfl⟩
  obtain ⟨wh, hwh⟩ : ∃ wh : Nat, wh = 64 * d := ⟨_, rfl⟩
  obtain ⟨cd, hcd⟩ : ∃ cd, cd = (BitVec.ofNat 32 d : W) := ⟨_, rfl⟩
  obtain ⟨AW, hAW⟩ : ∃ A, A = cutA ao cap wh := ⟨_, rfl⟩
  obtain ⟨XW, hXW⟩ : ∃ A, A = cutA (some ⟨NX, 0, none⟩) L wh := ⟨_, rfl⟩
  obtain ⟨LW, hLW⟩ : ∃ A, A = L - wh := ⟨_, rfl⟩
  obtain ⟨CW, hCW⟩ : ∃ A, A = cap - wh := ⟨_, rfl⟩
  obtain ⟨xh, hxh⟩ : ∃ A, A = xs.take hf := ⟨_, rfl⟩
  obtain ⟨xw, hxw⟩ : ∃ A, A = xs.drop wh := ⟨_, rfl⟩
  have HK := hide hk
  have HN := hide hn12
  have HL0 := hide hL.symm
  have HXL := hide hxl
  have HXS := hide hxs
  have HXH := hide hxh
  have HXW := hide hxw
  have HXWA := hide hXW
  have HAW := hide hAW
  have HCW := hide hCW
  have HLW := hide hLW
  have HWD := hide hwh
  have HCD := hide hcd
  have HB0 := hide hb0
  have HT := hide hT
  have HG1 := hide hg1
  have HRK := hide hrK
  have HRN := hide hrN
  have HKZ := hide hKZ
  have HNZ := hide hNZ
  have HK1 := hide hK1
  have HN1 := hide hN1
  have HW1 := hide hW1
  have HHF := hide hhf
  have HDD := hide hd
  have hfit := hb.fits
  clear hhf hd hwh hLW hk hn12 hxl hxs hxh hxw hXW hAW hCW hcd hb0 hT hg1 hrK hrN hKZ hNZ hK1 hN1 hW1 hW1' hn0 hNX
  by_cases hlen : 2000 < l.length
  · have hLe : L = 2000 := by rw [hL, hl0]; simp; omega
    have hsl : ∀ W, (Instr.slice 30 (.slice ao l.length cap) none (some (.int .i64 2000)) none).run Tryd.prog W = .ok (.slice ao L cap) W := fun W => by
      rw [hLe]; exact slice_to W _ _ Tryd.underlying30 size_byte ao l.length cap 2000 (by omega)
    obtain ⟨M, hM⟩ : ∃ M, M = l.length := ⟨_, rfl⟩
    have hg : (2000 : Int) < (M : Int) := by omega
    rw [← hM] at hsl ⊢
    clear hM hl0 hL hLe hb hlen hfit
    go_enter Tryd.func5, Tryd.ntmps5
    go_wp2_with (first | (rw [← unhide HW1]; refine wpList_load_row rfl 23 _ rfl w.heap.size rfl _ _ _ _ (unhide HK1) Tryd.underlying23 rfl ?_ ?_; (rw [unhide HKZ]; exact hi32)) | (refine wpList_load_row rfl 25 _ rfl (w.heap.size + 1) rfl _ _ _ _ (unhide HN1) Tryd.underlying25 rfl ?_ ?_; (rw [unhide HNZ]; exact hi12)))
    refine hst.mono ?_
    rintro e w2 ⟨rfl, hX, g2⟩
    have tr : ∀ {x y z : World}, x.grownBy y none → y.grownBy z none → x.grownBy z none := fun h k => gb_trans h k (fun _ e => by cases e)
    have G2 := tr (unhide HG1) g2
    have hrK : w2.rangeAt w.heap.size 0 (k.map bv) := range_kept (unhide HRK) g2 (by simp)
    have hrN : w2.rangeAt (w.heap.size + 1) 0 (n0.map bv) := range_kept (unhide HRN) g2 (by simp)
    have hbL : Bts w2 ao cap l0 := (unhide HB0).kept G2 (fun _ e => by cases e)
    have hT2 := (unhide HT).kept0 G2
    have hbX : Bts w2 (some ⟨NX, 0, none⟩) L xs := blk_bts hX L (by rw [unhide HXL]; exact Nat.le_refl _) (by unfold maxLen; omega)
    have hhf := unhide HHF
    have hd := unhide HDD
    have hwh := unhide HWD
    have hLW := unhide HLW
    have hk32 := unhide HK
    have hn12 := unhide HN
    have hL0 := unhide HL0
    have hXL := unhide HXL
    have up : ∀ {V : World} {a : Option Addr} {c : Nat} {l : List UInt8}, Bts w2 a c l → w2.grownBy V none → Bts V a c l := fun h g => h.kept g (fun _ e => by cases e)
    have st : ∀ (V : World) (cc : W) (a : Option Addr) (ca : Nat) (y : List UInt8), w2.grownBy V none → Bts V a ca y → y.length ≤ 2000 → Calls Tryd.prog 12 #[.agg (k.map bv).toArray, .agg (n0.map bv).toArray, .int .u32 (wz cc), .slice a y.length ca] V fun e w' => ∃ N, e = .returned (.slice (some ⟨N, 0, none⟩) y.length y.length) ∧ (convert 30 9 (.slice (some ⟨N, 0, none⟩) y.length y.length)).run Tryd.prog w' = .ok (.string (str (streamL k n0 cc y))) w' ∧ w2.grownBy w' none := by
      intro V cc a ca y gV hy hyl
      refine (stream_any V k n0 cc hk32 hn12 a ca y hy (by omega) (hT2.kept0 gV)).mono ?_
      rintro e w' ⟨rfl, hBl, gw⟩
      refine ⟨_, rfl, ?_, tr gV gw⟩
      have hl := streamL_length k n0 cc y
      have := conv_str (blk_bts hBl y.length (by rw [hl]; exact Nat.le_refl _) (by unfold maxLen; omega))
      rw [hl] at this
      exact this
    have sx : ∀ V, w2.grownBy V none → Calls Tryd.prog 12 #[.agg (k.map bv).toArray, .agg (n0.map bv).toArray, .int .u32 (wz c), .slice (some ⟨NX, 0, none⟩) L L] V fun e w' => ∃ N, e = .returned (.slice (some ⟨N, 0, none⟩) L L) ∧ (convert 30 9 (.slice (some ⟨N, 0, none⟩) L L)).run Tryd.prog w' = .ok (.string (str l0)) w' ∧ w2.grownBy w' none := by
      intro V gV
      have := st V c _ _ xs gV (up hbX gV) (by omega)
      rw [hXL, unhide HXS, streamL_twice] at this
      exact this
    have sh : ∀ V, w2.grownBy V none → Calls Tryd.prog 12 #[.agg (k.map bv).toArray, .agg (n0.map bv).toArray, .int .u32 (wz c), .slice ao hf cap] V fun e w' => ∃ N, e = .returned (.slice (some ⟨N, 0, none⟩) hf hf) ∧ (convert 30 9 (.slice (some ⟨N, 0, none⟩) hf hf)).run Tryd.prog w' = .ok (.string (str xh)) w' ∧ w2.grownBy w' none := by
      intro V gV
      have := st V c _ _ (l0.take hf) gV ((up hbL gV).take hf (by omega)) (by simp; omega)
      rw [show (l0.take hf).length = hf by simp; omega, streamL_take, ← unhide HXS, ← unhide HXH] at this
      exact this
    have sw : ∀ V, w2.grownBy V none → Calls Tryd.prog 12 #[.agg (k.map bv).toArray, .agg (n0.map bv).toArray, .int .u32 (wz (c + cd)), .slice AW LW CW] V fun e w' => ∃ N, e = .returned (.slice (some ⟨N, 0, none⟩) LW LW) ∧ (convert 30 9 (.slice (some ⟨N, 0, none⟩) LW LW)).run Tryd.prog w' = .ok (.string (str xw)) w' ∧ w2.grownBy w' none := by
      intro V gV
      have := st V (c + cd) _ _ (l0.drop wh) gV ((up hbL gV).drop wh (by omega)) (by simp; omega)
      rw [show (l0.drop wh).length = LW by rw [List.length_drop]; omega, ← unhide HAW, ← unhide HCW, unhide HWD, unhide HCD, streamL_drop, ← unhide HXS, ← unhide HWD, ← unhide HCD, ← unhide HXW] at this
      exact this
    have c1 : ∀ V, w2.grownBy V none → Calls Tryd.prog 11 #[] V fun e w' => e = .returned (.bool true) ∧ w2.grownBy w' none := fun V gV => (cone_any V (hT2.kept0 gV)).mono fun e w' ⟨he, hgw⟩ => ⟨he, tr gV hgw⟩
    have cL : ∀ V, w2.grownBy V none → (convert 30 9 (.slice ao L cap)).run Tryd.prog V = .ok (.string (str l0)) V := fun V gV => by
      have := conv_str (up hbL gV)
      rw [hL0] at this
      exact this
    have cH : ∀ V, w2.grownBy V none → (convert 30 9 (.slice (some ⟨NX, 0, none⟩) hf L)).run Tryd.prog V = .ok (.string (str xh)) V := fun V gV => by
      have := conv_str ((up hbX gV).take hf (by omega))
      rw [show (xs.take hf).length = hf by simp; omega, ← unhide HXH] at this
      exact this
    have cW : ∀ V, w2.grownBy V none → (convert 30 9 (.slice XW LW LW)).run Tryd.prog V = .ok (.string (str xw)) V := fun V gV => by
      have := conv_str ((up hbX gV).drop wh (by omega))
      rw [show (xs.drop wh).length = LW by rw [List.length_drop]; omega, ← unhide HXWA, ← unhide HXW, ← unhide HLW] at this
      exact this
    have hlh : hf ≤ L := by omega
    have hlw : wh ≤ L := by omega
    have sl1 : ∀ W, (Instr.slice 30 (.slice ao L cap) none (some (.int .i64 (hf : Int))) none).run Tryd.prog W = .ok (.slice ao hf cap) W := fun W => slice_to W _ _ Tryd.underlying30 size_byte ao L cap hf (by have := hbL.fits; omega)
    have sl2 : ∀ W, (Instr.slice 30 (.slice (some ⟨NX, 0, none⟩) L L) none (some (.int .i64 (hf : Int))) none).run Tryd.prog W = .ok (.slice (some ⟨NX, 0, none⟩) hf L) W := fun W => slice_to W _ _ Tryd.underlying30 size_byte _ L L hf hlh
    have sl3 : ∀ W, (Instr.slice 30 (.slice ao L cap) (some (.int .i64 (wh : Int))) none none).run Tryd.prog W = .ok (.slice AW LW CW) W := fun W => by
      rw [slice_from W _ _ Tryd.underlying30 size_byte ao L cap wh hlw, unhide HAW, unhide HLW, unhide HCW]
    have sl4 : ∀ W, (Instr.slice 30 (.slice (some ⟨NX, 0, none⟩) L L) (some (.int .i64 (wh : Int))) none none).run Tryd.prog W = .ok (.slice XW LW LW) W := fun W => by
      rw [slice_from W _ _ Tryd.underlying30 size_byte _ L L wh hlw, unhide HXWA, unhide HLW]
    have e1 : ((str l0).toList == (str l0).toList) = true := by simp
    have e2 : ((str xh).toList == (str xh).toList) = true := by simp
    have e3 : ((str xw).toList == (str xw).toList) = true := by simp
    have i0 : (0 : Int) ≤ (L : Int) := by omega
    have d1 : (L : Int) / 2 = (hf : Int) := by omega
    have d2 : Int.tdiv (L : Int) 2 = (hf : Int) := by rw [Int.tdiv_eq_ediv_of_nonneg (by omega)]; omega
    have d3 : (hf : Int) / 64 = (d : Int) := by omega
    have d4 : Int.tdiv (hf : Int) 64 = (d : Int) := by rw [Int.tdiv_eq_ediv_of_nonneg (by omega)]; omega
    have d5 : (d : Int) * 64 = (wh : Int) := by omega
    have d6 : IntKind.i64.wrap (wh : Int) = (wh : Int) := by rw [IntKind.wrap_i64]; omega
    have d7 : (wh : Int) / 64 = (d : Int) := by omega
    have d8 : Int.tdiv (wh : Int) 64 = (d : Int) := by rw [Int.tdiv_eq_ediv_of_nonneg (by omega)]; omega
    have d9 : IntKind.i64.wrap (d : Int) = (d : Int) := by rw [IntKind.wrap_i64]; omega
    have d10 : IntKind.i64.wrap (hf : Int) = (hf : Int) := by rw [IntKind.wrap_i64]; omega
    have hwc : IntKind.u32.wrap (d : Int) = wz cd := by rw [unhide HCD]; exact wz_count d
    have ha := w_add
    have ham := w_addm
    have h0 : w2.grownBy w2.drew none := gb_drew (gb_refl _ _)
    have HG2 := hide G2
    have HLW2 := hide hlw
    have HLH2 := hide hlh
    clear st hT2 hbX hbL hX g2 hst tr G2 hk32 hn12 hL0 hXL up hhf hd hwh hLW
    go_wp2_with fail
    refine wp_region_noPanic ?_
    refine wp_region_held_drew (S := fun V => w2.grownBy V none) (by kernel_rfl) h0 (fun _ => ?_)
    refine wpAnyH_take (i := 0) (oi := { dst := some 22, op := Op.move (Operand.tmp 8), type := _, pos := _, after := _, guard := _ }) (v := .slice (some ⟨NX, 0, none⟩) L L) rfl (by kernel_rfl) (by kernel_rfl) (by kernel_rfl) (fun _ _ _ h => h) (Or.inl ⟨by rfl, fun V (hV : w2.grownBy V none) => by go_simp⟩) h0 ?_
    (try simp only [Act.put, List.setIfInBounds_toArray, List.set_cons_zero, List.set_cons_succ])
    refine wpAnyH_take (i := 1) (oi := { dst := some 23, op := Op.call { callee := Callee.builtin Builtin.len, args := #[(Operand.tmp 22)], argTypes := #[30] }, type := _, pos := _, after := _, guard := _ }) (v := .int .i64 (L : Int)) rfl (by kernel_rfl) (by kernel_rfl) (by kernel_rfl) (fun _ _ _ h => h) (Or.inl ⟨by rfl, fun V (hV : w2.grownBy V none) => by go_simp⟩) h0 ?_
    (try simp only [Act.put, List.setIfInBounds_toArray, List.set_cons_zero, List.set_cons_succ])
    refine wpAnyH_take (i := 2) (oi := { dst := some 24, op := Op.move (Operand.tmp 2), type := _, pos := _, after := _, guard := _ }) (v := .slice ao L cap) rfl (by kernel_rfl) (by kernel_rfl) (by kernel_rfl) (fun _ _ _ h => h) (Or.inl ⟨by rfl, fun V (hV : w2.grownBy V none) => by go_simp⟩) h0 ?_
    (try simp only [Act.put, List.setIfInBounds_toArray, List.set_cons_zero, List.set_cons_succ])
    refine wpAnyH_take (i := 3) (oi := { dst := some 25, op := Op.call { callee := Callee.builtin Builtin.len, args := #[(Operand.tmp 24)], argTypes := #[30] }, type := _, pos := _, after := _, guard := _ }) (v := .int .i64 (L : Int)) rfl (by kernel_rfl) (by kernel_rfl) (by kernel_rfl) (fun _ _ _ h => h) (Or.inl ⟨by rfl, fun V (hV : w2.grownBy V none) => by go_simp⟩) h0 ?_
    (try simp only [Act.put, List.setIfInBounds_toArray, List.set_cons_zero, List.set_cons_succ])
    refine wpAnyH_take (i := 4) (oi := { dst := some 26, op := Op.binOp BinOp.neq 3 (Operand.tmp 23) (Operand.tmp 25) 3, type := _, pos := _, after := _, guard := _ }) (v := .bool false) rfl (by kernel_rfl) (by kernel_rfl) (by kernel_rfl) (fun _ _ _ h => h) (Or.inl ⟨by rfl, fun V (hV : w2.grownBy V none) => by go_simp⟩) h0 ?_
    (try simp only [Act.put, List.setIfInBounds_toArray, List.set_cons_zero, List.set_cons_succ])
    refine wpAnyH_take (i := 5) (oi := { dst := some 27, op := Op.move (Operand.tmp 26), type := _, pos := _, after := _, guard := _ }) (v := .bool false) rfl (by kernel_rfl) (by kernel_rfl) (by kernel_rfl) (fun _ _ _ h => h) (Or.inl ⟨by rfl, fun V (hV : w2.grownBy V none) => by go_simp⟩) h0 ?_
    (try simp only [Act.put, List.setIfInBounds_toArray, List.set_cons_zero, List.set_cons_succ])
    refine wpAnyH_take (i := 6) (oi := { dst := some 28, op := Op.load 23 (Operand.tmp 3), type := _, pos := _, after := _, guard := _ }) (v := .agg (k.map bv).toArray) rfl (by kernel_rfl) (by kernel_rfl) (by kernel_rfl) (fun _ _ _ h => h) (yieldsIf_load_mid (by rfl) _ _ rfl _ _ rfl (k.map bv) _ (fun V hV => range_kept hrK hV (by simp)) Tryd.underlying23 rfl hiK) h0 ?_
    (try simp only [Act.put, List.setIfInBounds_toArray, List.set_cons_zero, List.set_cons_succ])
    refine wpAnyH_take (i := 7) (oi := { dst := some 29, op := Op.load 25 (Operand.tmp 7), type := _, pos := _, after := _, guard := _ }) (v := .agg (n0.map bv).toArray) rfl (by kernel_rfl) (by kernel_rfl) (by kernel_rfl) (fun _ _ _ h => h) (yieldsIf_load_mid (by rfl) _ _ rfl _ _ rfl (n0.map bv) _ (fun V hV => range_kept hrN hV (by simp)) Tryd.underlying25 rfl hiN) h0 ?_
    (try simp only [Act.put, List.setIfInBounds_toArray, List.set_cons_zero, List.set_cons_succ])
    refine wpAnyH_take (i := 8) (oi := { dst := some 30, op := Op.move (Operand.tmp 1), type := _, pos := _, after := _, guard := _ }) (v := .int .u32 (wz c)) rfl (by kernel_rfl) (by kernel_rfl) (by kernel_rfl) (fun _ _ _ h => h) (Or.inl ⟨by rfl, fun V (hV : w2.grownBy V none) => by go_simp⟩) h0 ?_
    (try simp only [Act.put, List.setIfInBounds_toArray, List.set_cons_zero, List.set_cons_succ])
    refine wpAnyH_take (i := 9) (oi := { dst := some 31, op := Op.move (Operand.tmp 8), type := _, pos := _, after := _, guard := _ }) (v := .slice (some ⟨NX, 0, none⟩) L L) rfl (by kernel_rfl) (by kernel_rfl) (by kernel_rfl) (fun _ _ _ h => h) (Or.inl ⟨by rfl, fun V (hV : w2.grownBy V none) => by go_simp⟩) h0 ?_
    (try simp only [Act.put, List.setIfInBounds_toArray, List.set_cons_zero, List.set_cons_succ])
    refine wpAnyH_take (i := 12) (oi := { dst := some 34, op := Op.move (Operand.tmp 2), type := _, pos := _, after := _, guard := _ }) (v := .slice ao L cap) rfl (by kernel_rfl) (by kernel_rfl) (by kernel_rfl) (fun _ _ _ h => h) (Or.inl ⟨by rfl, fun V (hV : w2.grownBy V none) => by go_simp⟩) h0 ?_
    (try simp only [Act.put, List.setIfInBounds_toArray, List.set_cons_zero, List.set_cons_succ])
    refine wpAnyH_take (i := 13) (oi := { dst := some 35, op := Op.convert 30 9 (Operand.tmp 34), type := _, pos := _, after := _, guard := _ }) (v := .string (str l0)) rfl (by kernel_rfl) (by kernel_rfl) (by kernel_rfl) (fun _ _ _ h => h) (Or.inl ⟨by rfl, fun V (hV : w2.grownBy V none) => by go_simp⟩) h0 ?_
    (try simp only [Act.put, List.setIfInBounds_toArray, List.set_cons_zero, List.set_cons_succ])
    refine wpAnyH_ready (rs := [10]) (by kernel_rfl) (by simp) ?_
    refine AllReadyH.cons (o := { dst := some 32, op := Op.call { callee := Callee.value (Operand.func 12), args := #[(Operand.tmp 28), (Operand.tmp 29), (Operand.tmp 30), (Operand.tmp 31)], argTypes := #[23, 25, 26, 30] }, type := _, pos := _, after := _, guard := _ }) rfl (fun K9 hK9 => ?_) AllReadyH.nil
    go_simp
    go_at_call 12
    refine (sx _ h0).mono ?_
    rintro e w3 ⟨N3, rfl, cv3, g3⟩
    go_wp2_with fail
    refine hK9.out _ _ g3 (fun _ => ?_)
    clear hK9 K9
    (try simp only [Act.put, List.setIfInBounds_toArray, List.set_cons_zero, List.set_cons_succ])
    refine wpAnyH_ready (rs := [11]) (by kernel_rfl) (by simp) ?_
    refine AllReadyH.cons (o := { dst := some 33, op := Op.convert 30 9 (Operand.tmp 32), type := _, pos := _, after := _, guard := _ }) rfl (fun K9 hK9 => ?_) AllReadyH.nil
    go_simp
    refine hK9.out _ _ g3 (fun _ => ?_)
    clear hK9 K9
    (try simp only [Act.put, List.setIfInBounds_toArray, List.set_cons_zero, List.set_cons_succ])
    refine wpAnyH_take (i := 14) (oi := { dst := some 36, op := Op.binOp BinOp.neq 9 (Operand.tmp 33) (Operand.tmp 35) 9, type := _, pos := _, after := _, guard := _ }) (v := .bool false) rfl (by kernel_rfl) (by kernel_rfl) (by kernel_rfl) (fun _ _ _ h => h) (Or.inl ⟨by rfl, fun V (hV : w2.grownBy V none) => by go_simp⟩) g3 ?_
    (try simp only [Act.put, List.setIfInBounds_toArray, List.set_cons_zero, List.set_cons_succ])
    refine wpAnyH_take (i := 15) (oi := { dst := some 37, op := Op.pick (Operand.tmp 27) (Operand.const (Value.bool true)) (Operand.tmp 36), type := _, pos := _, after := _, guard := _ }) (v := .bool false) rfl (by kernel_rfl) (by kernel_rfl) (by kernel_rfl) (fun _ _ _ h => h) (Or.inl ⟨by rfl, fun V (hV : w2.grownBy V none) => by go_simp⟩) g3 ?_
    (try simp only [Act.put, List.setIfInBounds_toArray, List.set_cons_zero, List.set_cons_succ])
    refine wpAnyH_done (by kernel_rfl) ?_ _
    refine NoPanic.normal ?_
    go_wp2_with fail
    have h1 : w2.grownBy w3.drew none := gb_drew g3
    refine wp_region_noPanic ?_
    refine wp_region_held_drew (S := fun V => w2.grownBy V none) (by kernel_rfl) h1 (fun _ => ?_)
    refine wpAnyH_take (i := 0) (oi := { dst := some 41, op := Op.load 23 (Operand.tmp 3), type := _, pos := _, after := _, guard := _ }) (v := .agg (k.map bv).toArray) rfl (by kernel_rfl) (by kernel_rfl) (by kernel_rfl) (fun _ _ _ h => h) (yieldsIf_load_mid (by rfl) _ _ rfl _ _ rfl (k.map bv) _ (fun V hV => range_kept hrK hV (by simp)) Tryd.underlying23 rfl hiK) h1 ?_
    (try simp only [Act.put, List.setIfInBounds_toArray, List.set_cons_zero, List.set_cons_succ])
    refine wpAnyH_take (i := 1) (oi := { dst := some 42, op := Op.load 25 (Operand.tmp 7), type := _, pos := _, after := _, guard := _ }) (v := .agg (n0.map bv).toArray) rfl (by kernel_rfl) (by kernel_rfl) (by kernel_rfl) (fun _ _ _ h => h) (yieldsIf_load_mid (by rfl) _ _ rfl _ _ rfl (n0.map bv) _ (fun V hV => range_kept hrN hV (by simp)) Tryd.underlying25 rfl hiN) h1 ?_
    (try simp only [Act.put, List.setIfInBounds_toArray, List.set_cons_zero, List.set_cons_succ])
    refine wpAnyH_take (i := 2) (oi := { dst := some 43, op := Op.move (Operand.tmp 1), type := _, pos := _, after := _, guard := _ }) (v := .int .u32 (wz c)) rfl (by kernel_rfl) (by kernel_rfl) (by kernel_rfl) (fun _ _ _ h => h) (Or.inl ⟨by rfl, fun V (hV : w2.grownBy V none) => by go_simp⟩) h1 ?_
    (try simp only [Act.put, List.setIfInBounds_toArray, List.set_cons_zero, List.set_cons_succ])
    refine wpAnyH_take (i := 3) (oi := { dst := some 44, op := Op.move (Operand.tmp 2), type := _, pos := _, after := _, guard := _ }) (v := .slice ao L cap) rfl (by kernel_rfl) (by kernel_rfl) (by kernel_rfl) (fun _ _ _ h => h) (Or.inl ⟨by rfl, fun V (hV : w2.grownBy V none) => by go_simp⟩) h1 ?_
    (try simp only [Act.put, List.setIfInBounds_toArray, List.set_cons_zero, List.set_cons_succ])
    refine wpAnyH_take (i := 4) (oi := { dst := some 45, op := Op.move (Operand.tmp 9), type := _, pos := _, after := _, guard := _ }) (v := .int .i64 (hf : Int)) rfl (by kernel_rfl) (by kernel_rfl) (by kernel_rfl) (fun _ _ _ h => h) (Or.inl ⟨by rfl, fun V (hV : w2.grownBy V none) => by go_simp⟩) h1 ?_
    (try simp only [Act.put, List.setIfInBounds_toArray, List.set_cons_zero, List.set_cons_succ])
    refine wpAnyH_take (i := 5) (oi := { dst := some 46, op := Op.slice 30 (Operand.tmp 44) none (some (Operand.tmp 45)) none, type := _, pos := _, after := _, guard := _ }) (v := .slice ao hf cap) rfl (by kernel_rfl) (by kernel_rfl) (by kernel_rfl) (fun _ _ _ h => h) (Or.inl ⟨by rfl, fun V (hV : w2.grownBy V none) => by go_simp⟩) h1 ?_
    (try simp only [Act.put, List.setIfInBounds_toArray, List.set_cons_zero, List.set_cons_succ])
    refine wpAnyH_take (i := 8) (oi := { dst := some 49, op := Op.move (Operand.tmp 8), type := _, pos := _, after := _, guard := _ }) (v := .slice (some ⟨NX, 0, none⟩) L L) rfl (by kernel_rfl) (by kernel_rfl) (by kernel_rfl) (fun _ _ _ h => h) (Or.inl ⟨by rfl, fun V (hV : w2.grownBy V none) => by go_simp⟩) h1 ?_
    (try simp only [Act.put, List.setIfInBounds_toArray, List.set_cons_zero, List.set_cons_succ])
    refine wpAnyH_take (i := 9) (oi := { dst := some 50, op := Op.move (Operand.tmp 9), type := _, pos := _, after := _, guard := _ }) (v := .int .i64 (hf : Int)) rfl (by kernel_rfl) (by kernel_rfl) (by kernel_rfl) (fun _ _ _ h => h) (Or.inl ⟨by rfl, fun V (hV : w2.grownBy V none) => by go_simp⟩) h1 ?_
    (try simp only [Act.put, List.setIfInBounds_toArray, List.set_cons_zero, List.set_cons_succ])
    refine wpAnyH_take (i := 10) (oi := { dst := some 51, op := Op.slice 30 (Operand.tmp 49) none (some (Operand.tmp 50)) none, type := _, pos := _, after := _, guard := _ }) (v := .slice (some ⟨NX, 0, none⟩) hf L) rfl (by kernel_rfl) (by kernel_rfl) (by kernel_rfl) (fun _ _ _ h => h) (Or.inl ⟨by rfl, fun V (hV : w2.grownBy V none) => by go_simp⟩) h1 ?_
    (try simp only [Act.put, List.setIfInBounds_toArray, List.set_cons_zero, List.set_cons_succ])
    refine wpAnyH_take (i := 11) (oi := { dst := some 52, op := Op.convert 30 9 (Operand.tmp 51), type := _, pos := _, after := _, guard := _ }) (v := .string (str xh)) rfl (by kernel_rfl) (by kernel_rfl) (by kernel_rfl) (fun _ _ _ h => h) (Or.inl ⟨by rfl, fun V (hV : w2.grownBy V none) => by go_simp⟩) h1 ?_
    (try simp only [Act.put, List.setIfInBounds_toArray, List.set_cons_zero, List.set_cons_succ])
    refine wpAnyH_ready (rs := [6]) (by kernel_rfl) (by simp) ?_
    refine AllReadyH.cons (o := { dst := some 47, op := Op.call { callee := Callee.value (Operand.func 12), args := #[(Operand.tmp 41), (Operand.tmp 42), (Operand.tmp 43), (Operand.tmp 46)], argTypes := #[23, 25, 26, 30] }, type := _, pos := _, after := _, guard := _ }) rfl (fun K9 hK9 => ?_) AllReadyH.nil
    go_simp
    go_at_call 12
    refine (sh _ h1).mono ?_
    rintro e w4 ⟨N4, rfl, cv4, g4⟩
    go_wp2_with fail
    refine hK9.out _ _ g4 (fun _ => ?_)
    clear hK9 K9
    (try simp only [Act.put, List.setIfInBounds_toArray, List.set_cons_zero, List.set_cons_succ])
    refine wpAnyH_ready (rs := [7]) (by kernel_rfl) (by simp) ?_
    refine AllReadyH.cons (o := { dst := some 48, op := Op.convert 30 9 (Operand.tmp 47), type := _, pos := _, after := _, guard := _ }) rfl (fun K9 hK9 => ?_) AllReadyH.nil
    go_simp
    refine hK9.out _ _ g4 (fun _ => ?_)
    clear hK9 K9
    (try simp only [Act.put, List.setIfInBounds_toArray, List.set_cons_zero, List.set_cons_succ])
    refine wpAnyH_take (i := 12) (oi := { dst := some 53, op := Op.binOp BinOp.neq 9 (Operand.tmp 48) (Operand.tmp 52) 9, type := _, pos := _, after := _, guard := _ }) (v := .bool false) rfl (by kernel_rfl) (by kernel_rfl) (by kernel_rfl) (fun _ _ _ h => h) (Or.inl ⟨by rfl, fun V (hV : w2.grownBy V none) => by go_simp⟩) g4 ?_
    (try simp only [Act.put, List.setIfInBounds_toArray, List.set_cons_zero, List.set_cons_succ])
    refine wpAnyH_done (by kernel_rfl) ?_ _
    refine NoPanic.normal ?_
    go_wp2_with fail
    have h2 : w2.grownBy w4.drew none := gb_drew g4
    refine wp_region_noPanic ?_
    refine wp_region_held_drew (S := fun V => w2.grownBy V none) (by kernel_rfl) h2 (fun _ => ?_)
    refine wpAnyH_take (i := 0) (oi := { dst := some 57, op := Op.load 23 (Operand.tmp 3), type := _, pos := _, after := _, guard := _ }) (v := .agg (k.map bv).toArray) rfl (by kernel_rfl) (by kernel_rfl) (by kernel_rfl) (fun _ _ _ h => h) (yieldsIf_load_mid (by rfl) _ _ rfl _ _ rfl (k.map bv) _ (fun V hV => range_kept hrK hV (by simp)) Tryd.underlying23 rfl hiK) h2 ?_
    (try simp only [Act.put, List.setIfInBounds_toArray, List.set_cons_zero, List.set_cons_succ])
    refine wpAnyH_take (i := 1) (oi := { dst := some 58, op := Op.load 25 (Operand.tmp 7), type := _, pos := _, after := _, guard := _ }) (v := .agg (n0.map bv).toArray) rfl (by kernel_rfl) (by kernel_rfl) (by kernel_rfl) (fun _ _ _ h => h) (yieldsIf_load_mid (by rfl) _ _ rfl _ _ rfl (n0.map bv) _ (fun V hV => range_kept hrN hV (by simp)) Tryd.underlying25 rfl hiN) h2 ?_
    (try simp only [Act.put, List.setIfInBounds_toArray, List.set_cons_zero, List.set_cons_succ])
    refine wpAnyH_take (i := 2) (oi := { dst := some 59, op := Op.move (Operand.tmp 1), type := _, pos := _, after := _, guard := _ }) (v := .int .u32 (wz c)) rfl (by kernel_rfl) (by kernel_rfl) (by kernel_rfl) (fun _ _ _ h => h) (Or.inl ⟨by rfl, fun V (hV : w2.grownBy V none) => by go_simp⟩) h2 ?_
    (try simp only [Act.put, List.setIfInBounds_toArray, List.set_cons_zero, List.set_cons_succ])
    refine wpAnyH_take (i := 3) (oi := { dst := some 60, op := Op.move (Operand.tmp 10), type := _, pos := _, after := _, guard := _ }) (v := .int .i64 (wh : Int)) rfl (by kernel_rfl) (by kernel_rfl) (by kernel_rfl) (fun _ _ _ h => h) (Or.inl ⟨by rfl, fun V (hV : w2.grownBy V none) => by go_simp⟩) h2 ?_
    (try simp only [Act.put, List.setIfInBounds_toArray, List.set_cons_zero, List.set_cons_succ])
    refine wpAnyH_take (i := 4) (oi := { dst := some 61, op := Op.binOp BinOp.quo 3 (Operand.tmp 60) (Operand.const (Value.int IntKind.i64 64)) 3, type := _, pos := _, after := _, guard := _ }) (v := .int .i64 (d : Int)) rfl (by kernel_rfl) (by kernel_rfl) (by kernel_rfl) (fun _ _ _ h => h) (Or.inl ⟨by rfl, fun V (hV : w2.grownBy V none) => by go_simp⟩) h2 ?_
    (try simp only [Act.put, List.setIfInBounds_toArray, List.set_cons_zero, List.set_cons_succ])
    refine wpAnyH_take (i := 5) (oi := { dst := some 62, op := Op.convert 3 26 (Operand.tmp 61), type := _, pos := _, after := _, guard := _ }) (v := .int .u32 (wz cd)) rfl (by kernel_rfl) (by kernel_rfl) (by kernel_rfl) (fun _ _ _ h => h) (Or.inl ⟨by rfl, fun V (hV : w2.grownBy V none) => by go_simp⟩) h2 ?_
    (try simp only [Act.put, List.setIfInBounds_toArray, List.set_cons_zero, List.set_cons_succ])
    refine wpAnyH_take (i := 6) (oi := { dst := some 63, op := Op.binOp BinOp.add 26 (Operand.tmp 59) (Operand.tmp 62) 26, type := _, pos := _, after := _, guard := _ }) (v := .int .u32 (wz (c + cd))) rfl (by kernel_rfl) (by kernel_rfl) (by kernel_rfl) (fun _ _ _ h => h) (Or.inl ⟨by rfl, fun V (hV : w2.grownBy V none) => by go_simp⟩) h2 ?_
    (try simp only [Act.put, List.setIfInBounds_toArray, List.set_cons_zero, List.set_cons_succ])
    refine wpAnyH_take (i := 7) (oi := { dst := some 64, op := Op.move (Operand.tmp 2), type := _, pos := _, after := _, guard := _ }) (v := .slice ao L cap) rfl (by kernel_rfl) (by kernel_rfl) (by kernel_rfl) (fun _ _ _ h => h) (Or.inl ⟨by rfl, fun V (hV : w2.grownBy V none) => by go_simp⟩) h2 ?_
    (try simp only [Act.put, List.setIfInBounds_toArray, List.set_cons_zero, List.set_cons_succ])
    refine wpAnyH_take (i := 8) (oi := { dst := some 65, op := Op.move (Operand.tmp 10), type := _, pos := _, after := _, guard := _ }) (v := .int .i64 (wh : Int)) rfl (by kernel_rfl) (by kernel_rfl) (by kernel_rfl) (fun _ _ _ h => h) (Or.inl ⟨by rfl, fun V (hV : w2.grownBy V none) => by go_simp⟩) h2 ?_
    (try simp only [Act.put, List.setIfInBounds_toArray, List.set_cons_zero, List.set_cons_succ])
    refine wpAnyH_take (i := 9) (oi := { dst := some 66, op := Op.slice 30 (Operand.tmp 64) (some (Operand.tmp 65)) none none, type := _, pos := _, after := _, guard := _ }) (v := .slice AW LW CW) rfl (by kernel_rfl) (by kernel_rfl) (by kernel_rfl) (fun _ _ _ h => h) (Or.inl ⟨by rfl, fun V (hV : w2.grownBy V none) => by go_simp⟩) h2 ?_
    (try simp only [Act.put, List.setIfInBounds_toArray, List.set_cons_zero, List.set_cons_succ])
    refine wpAnyH_take (i := 12) (oi := { dst := some 69, op := Op.move (Operand.tmp 8), type := _, pos := _, after := _, guard := _ }) (v := .slice (some ⟨NX, 0, none⟩) L L) rfl (by kernel_rfl) (by kernel_rfl) (by kernel_rfl) (fun _ _ _ h => h) (Or.inl ⟨by rfl, fun V (hV : w2.grownBy V none) => by go_simp⟩) h2 ?_
    (try simp only [Act.put, List.setIfInBounds_toArray, List.set_cons_zero, List.set_cons_succ])
    refine wpAnyH_take (i := 13) (oi := { dst := some 70, op := Op.move (Operand.tmp 10), type := _, pos := _, after := _, guard := _ }) (v := .int .i64 (wh : Int)) rfl (by kernel_rfl) (by kernel_rfl) (by kernel_rfl) (fun _ _ _ h => h) (Or.inl ⟨by rfl, fun V (hV : w2.grownBy V none) => by go_simp⟩) h2 ?_
    (try simp only [Act.put, List.setIfInBounds_toArray, List.set_cons_zero, List.set_cons_succ])
    refine wpAnyH_take (i := 14) (oi := { dst := some 71, op := Op.slice 30 (Operand.tmp 69) (some (Operand.tmp 70)) none none, type := _, pos := _, after := _, guard := _ }) (v := .slice XW LW LW) rfl (by kernel_rfl) (by kernel_rfl) (by kernel_rfl) (fun _ _ _ h => h) (Or.inl ⟨by rfl, fun V (hV : w2.grownBy V none) => by go_simp⟩) h2 ?_
    (try simp only [Act.put, List.setIfInBounds_toArray, List.set_cons_zero, List.set_cons_succ])
    refine wpAnyH_take (i := 15) (oi := { dst := some 72, op := Op.convert 30 9 (Operand.tmp 71), type := _, pos := _, after := _, guard := _ }) (v := .string (str xw)) rfl (by kernel_rfl) (by kernel_rfl) (by kernel_rfl) (fun _ _ _ h => h) (Or.inl ⟨by rfl, fun V (hV : w2.grownBy V none) => by go_simp⟩) h2 ?_
    (try simp only [Act.put, List.setIfInBounds_toArray, List.set_cons_zero, List.set_cons_succ])
    refine wpAnyH_ready (rs := [10]) (by kernel_rfl) (by simp) ?_
    refine AllReadyH.cons (o := { dst := some 67, op := Op.call { callee := Callee.value (Operand.func 12), args := #[(Operand.tmp 57), (Operand.tmp 58), (Operand.tmp 63), (Operand.tmp 66)], argTypes := #[23, 25, 26, 30] }, type := _, pos := _, after := _, guard := _ }) rfl (fun K9 hK9 => ?_) AllReadyH.nil
    go_simp
    go_at_call 12
    refine (sw _ h2).mono ?_
    rintro e w5 ⟨N5, rfl, cv5, g5⟩
    go_wp2_with fail
    refine hK9.out _ _ g5 (fun _ => ?_)
    clear hK9 K9
    (try simp only [Act.put, List.setIfInBounds_toArray, List.set_cons_zero, List.set_cons_succ])
    refine wpAnyH_ready (rs := [11]) (by kernel_rfl) (by simp) ?_
    refine AllReadyH.cons (o := { dst := some 68, op := Op.convert 30 9 (Operand.tmp 67), type := _, pos := _, after := _, guard := _ }) rfl (fun K9 hK9 => ?_) AllReadyH.nil
    go_simp
    refine hK9.out _ _ g5 (fun _ => ?_)
    clear hK9 K9
    (try simp only [Act.put, List.setIfInBounds_toArray, List.set_cons_zero, List.set_cons_succ])
    refine wpAnyH_take (i := 16) (oi := { dst := some 73, op := Op.binOp BinOp.eql 9 (Operand.tmp 68) (Operand.tmp 72) 9, type := _, pos := _, after := _, guard := _ }) (v := .bool true) rfl (by kernel_rfl) (by kernel_rfl) (by kernel_rfl) (fun _ _ _ h => h) (Or.inl ⟨by rfl, fun V (hV : w2.grownBy V none) => by go_simp⟩) g5 ?_
    (try simp only [Act.put, List.setIfInBounds_toArray, List.set_cons_zero, List.set_cons_succ])
    refine wpAnyH_take (i := 17) (oi := { dst := some 74, op := Op.move (Operand.tmp 73), type := _, pos := _, after := _, guard := _ }) (v := .bool true) rfl (by kernel_rfl) (by kernel_rfl) (by kernel_rfl) (fun _ _ _ h => h) (Or.inl ⟨by rfl, fun V (hV : w2.grownBy V none) => by go_simp⟩) g5 ?_
    (try simp only [Act.put, List.setIfInBounds_toArray, List.set_cons_zero, List.set_cons_succ])
    refine wpAnyH_ready (rs := [18]) (by kernel_rfl) (by simp) ?_
    refine AllReadyH.cons (o := { dst := some 75, op := Op.call { callee := Callee.value (Operand.func 11), args := #[], argTypes := #[] }, type := _, pos := _, after := _, guard := _ }) rfl (fun K9 hK9 => ?_) AllReadyH.nil
    go_simp
    go_at_call 11
    refine (c1 _ g5).mono ?_
    rintro e w6 ⟨rfl, g6⟩
    go_wp2_with fail
    refine hK9.out _ _ g6 (fun _ => ?_)
    clear hK9 K9
    (try simp only [Act.put, List.setIfInBounds_toArray, List.set_cons_zero, List.set_cons_succ])
    refine wpAnyH_take (i := 19) (oi := { dst := some 76, op := Op.pick (Operand.tmp 74) (Operand.tmp 75) (Operand.const (Value.bool false)), type := _, pos := _, after := _, guard := _ }) (v := .bool true) rfl (by kernel_rfl) (by kernel_rfl) (by kernel_rfl) (fun _ _ _ h => h) (Or.inl ⟨by rfl, fun V (hV : w2.grownBy V none) => by go_simp⟩) g6 ?_
    (try simp only [Act.put, List.setIfInBounds_toArray, List.set_cons_zero, List.set_cons_succ])
    refine wpAnyH_take (i := 20) (oi := { dst := some 6, op := Op.assign (Operand.tmp 76), type := _, pos := _, after := _, guard := _ }) (v := .bool true) rfl (by kernel_rfl) (by kernel_rfl) (by kernel_rfl) (fun _ _ _ h => h) (Or.inl ⟨by rfl, fun V (hV : w2.grownBy V none) => by go_simp⟩) g6 ?_
    (try simp only [Act.put, List.setIfInBounds_toArray, List.set_cons_zero, List.set_cons_succ])
    refine wpAnyH_done (by kernel_rfl) ?_ _
    refine NoPanic.normal ?_
    go_wp2
    go_ret
    exact ⟨rfl, gb_trans (unhide HG2) g6 (fun _ e => by cases e)⟩
  · rw [show l.length = L by rw [hL, hl0, List.take_of_length_le (by omega)]]
    have hg : ¬ (2000 : Int) < (L : Int) := by omega
    clear hl0 hL hb hlen hfit
    go_enter Tryd.func5, Tryd.ntmps5
    go_wp2_with (first | (rw [← unhide HW1]; refine wpList_load_row rfl 23 _ rfl w.heap.size rfl _ _ _ _ (unhide HK1) Tryd.underlying23 rfl ?_ ?_; (rw [unhide HKZ]; exact hi32)) | (refine wpList_load_row rfl 25 _ rfl (w.heap.size + 1) rfl _ _ _ _ (unhide HN1) Tryd.underlying25 rfl ?_ ?_; (rw [unhide HNZ]; exact hi12)))
    refine hst.mono ?_
    rintro e w2 ⟨rfl, hX, g2⟩
    have tr : ∀ {x y z : World}, x.grownBy y none → y.grownBy z none → x.grownBy z none := fun h k => gb_trans h k (fun _ e => by cases e)
    have G2 := tr (unhide HG1) g2
    have hrK : w2.rangeAt w.heap.size 0 (k.map bv) := range_kept (unhide HRK) g2 (by simp)
    have hrN : w2.rangeAt (w.heap.size + 1) 0 (n0.map bv) := range_kept (unhide HRN) g2 (by simp)
    have hbL : Bts w2 ao cap l0 := (unhide HB0).kept G2 (fun _ e => by cases e)
    have hT2 := (unhide HT).kept0 G2
    have hbX : Bts w2 (some ⟨NX, 0, none⟩) L xs := blk_bts hX L (by rw [unhide HXL]; exact Nat.le_refl _) (by unfold maxLen; omega)
    have hhf := unhide HHF
    have hd := unhide HDD
    have hwh := unhide HWD
    have hLW := unhide HLW
    have hk32 := unhide HK
    have hn12 := unhide HN
    have hL0 := unhide HL0
    have hXL := unhide HXL
    have up : ∀ {V : World} {a : Option Addr} {c : Nat} {l : List UInt8}, Bts w2 a c l → w2.grownBy V none → Bts V a c l := fun h g => h.kept g (fun _ e => by cases e)
    have st : ∀ (V : World) (cc : W) (a : Option Addr) (ca : Nat) (y : List UInt8), w2.grownBy V none → Bts V a ca y → y.length ≤ 2000 → Calls Tryd.prog 12 #[.agg (k.map bv).toArray, .agg (n0.map bv).toArray, .int .u32 (wz cc), .slice a y.length ca] V fun e w' => ∃ N, e = .returned (.slice (some ⟨N, 0, none⟩) y.length y.length) ∧ (convert 30 9 (.slice (some ⟨N, 0, none⟩) y.length y.length)).run Tryd.prog w' = .ok (.string (str (streamL k n0 cc y))) w' ∧ w2.grownBy w' none := by
      intro V cc a ca y gV hy hyl
      refine (stream_any V k n0 cc hk32 hn12 a ca y hy (by omega) (hT2.kept0 gV)).mono ?_
      rintro e w' ⟨rfl, hBl, gw⟩
      refine ⟨_, rfl, ?_, tr gV gw⟩
      have hl := streamL_length k n0 cc y
      have := conv_str (blk_bts hBl y.length (by rw [hl]; exact Nat.le_refl _) (by unfold maxLen; omega))
      rw [hl] at this
      exact this
    have sx : ∀ V, w2.grownBy V none → Calls Tryd.prog 12 #[.agg (k.map bv).toArray, .agg (n0.map bv).toArray, .int .u32 (wz c), .slice (some ⟨NX, 0, none⟩) L L] V fun e w' => ∃ N, e = .returned (.slice (some ⟨N, 0, none⟩) L L) ∧ (convert 30 9 (.slice (some ⟨N, 0, none⟩) L L)).run Tryd.prog w' = .ok (.string (str l0)) w' ∧ w2.grownBy w' none := by
      intro V gV
      have := st V c _ _ xs gV (up hbX gV) (by omega)
      rw [hXL, unhide HXS, streamL_twice] at this
      exact this
    have sh : ∀ V, w2.grownBy V none → Calls Tryd.prog 12 #[.agg (k.map bv).toArray, .agg (n0.map bv).toArray, .int .u32 (wz c), .slice ao hf cap] V fun e w' => ∃ N, e = .returned (.slice (some ⟨N, 0, none⟩) hf hf) ∧ (convert 30 9 (.slice (some ⟨N, 0, none⟩) hf hf)).run Tryd.prog w' = .ok (.string (str xh)) w' ∧ w2.grownBy w' none := by
      intro V gV
      have := st V c _ _ (l0.take hf) gV ((up hbL gV).take hf (by omega)) (by simp; omega)
      rw [show (l0.take hf).length = hf by simp; omega, streamL_take, ← unhide HXS, ← unhide HXH] at this
      exact this
    have sw : ∀ V, w2.grownBy V none → Calls Tryd.prog 12 #[.agg (k.map bv).toArray, .agg (n0.map bv).toArray, .int .u32 (wz (c + cd)), .slice AW LW CW] V fun e w' => ∃ N, e = .returned (.slice (some ⟨N, 0, none⟩) LW LW) ∧ (convert 30 9 (.slice (some ⟨N, 0, none⟩) LW LW)).run Tryd.prog w' = .ok (.string (str xw)) w' ∧ w2.grownBy w' none := by
      intro V gV
      have := st V (c + cd) _ _ (l0.drop wh) gV ((up hbL gV).drop wh (by omega)) (by simp; omega)
      rw [show (l0.drop wh).length = LW by rw [List.length_drop]; omega, ← unhide HAW, ← unhide HCW, unhide HWD, unhide HCD, streamL_drop, ← unhide HXS, ← unhide HWD, ← unhide HCD, ← unhide HXW] at this
      exact this
    have c1 : ∀ V, w2.grownBy V none → Calls Tryd.prog 11 #[] V fun e w' => e = .returned (.bool true) ∧ w2.grownBy w' none := fun V gV => (cone_any V (hT2.kept0 gV)).mono fun e w' ⟨he, hgw⟩ => ⟨he, tr gV hgw⟩
    have cL : ∀ V, w2.grownBy V none → (convert 30 9 (.slice ao L cap)).run Tryd.prog V = .ok (.string (str l0)) V := fun V gV => by
      have := conv_str (up hbL gV)
      rw [hL0] at this
      exact this
    have cH : ∀ V, w2.grownBy V none → (convert 30 9 (.slice (some ⟨NX, 0, none⟩) hf L)).run Tryd.prog V = .ok (.string (str xh)) V := fun V gV => by
      have := conv_str ((up hbX gV).take hf (by omega))
      rw [show (xs.take hf).length = hf by simp; omega, ← unhide HXH] at this
      exact this
    have cW : ∀ V, w2.grownBy V none → (convert 30 9 (.slice XW LW LW)).run Tryd.prog V = .ok (.string (str xw)) V := fun V gV => by
      have := conv_str ((up hbX gV).drop wh (by omega))
      rw [show (xs.drop wh).length = LW by rw [List.length_drop]; omega, ← unhide HXWA, ← unhide HXW, ← unhide HLW] at this
      exact this
    have hlh : hf ≤ L := by omega
    have hlw : wh ≤ L := by omega
    have sl1 : ∀ W, (Instr.slice 30 (.slice ao L cap) none (some (.int .i64 (hf : Int))) none).run Tryd.prog W = .ok (.slice ao hf cap) W := fun W => slice_to W _ _ Tryd.underlying30 size_byte ao L cap hf (by have := hbL.fits; omega)
    have sl2 : ∀ W, (Instr.slice 30 (.slice (some ⟨NX, 0, none⟩) L L) none (some (.int .i64 (hf : Int))) none).run Tryd.prog W = .ok (.slice (some ⟨NX, 0, none⟩) hf L) W := fun W => slice_to W _ _ Tryd.underlying30 size_byte _ L L hf hlh
    have sl3 : ∀ W, (Instr.slice 30 (.slice ao L cap) (some (.int .i64 (wh : Int))) none none).run Tryd.prog W = .ok (.slice AW LW CW) W := fun W => by
      rw [slice_from W _ _ Tryd.underlying30 size_byte ao L cap wh hlw, unhide HAW, unhide HLW, unhide HCW]
    have sl4 : ∀ W, (Instr.slice 30 (.slice (some ⟨NX, 0, none⟩) L L) (some (.int .i64 (wh : Int))) none none).run Tryd.prog W = .ok (.slice XW LW LW) W := fun W => by
      rw [slice_from W _ _ Tryd.underlying30 size_byte _ L L wh hlw, unhide HXWA, unhide HLW]
    have e1 : ((str l0).toList == (str l0).toList) = true := by simp
    have e2 : ((str xh).toList == (str xh).toList) = true := by simp
    have e3 : ((str xw).toList == (str xw).toList) = true := by simp
    have i0 : (0 : Int) ≤ (L : Int) := by omega
    have d1 : (L : Int) / 2 = (hf : Int) := by omega
    have d2 : Int.tdiv (L : Int) 2 = (hf : Int) := by rw [Int.tdiv_eq_ediv_of_nonneg (by omega)]; omega
    have d3 : (hf : Int) / 64 = (d : Int) := by omega
    have d4 : Int.tdiv (hf : Int) 64 = (d : Int) := by rw [Int.tdiv_eq_ediv_of_nonneg (by omega)]; omega
    have d5 : (d : Int) * 64 = (wh : Int) := by omega
    have d6 : IntKind.i64.wrap (wh : Int) = (wh : Int) := by rw [IntKind.wrap_i64]; omega
    have d7 : (wh : Int) / 64 = (d : Int) := by omega
    have d8 : Int.tdiv (wh : Int) 64 = (d : Int) := by rw [Int.tdiv_eq_ediv_of_nonneg (by omega)]; omega
    have d9 : IntKind.i64.wrap (d : Int) = (d : Int) := by rw [IntKind.wrap_i64]; omega
    have d10 : IntKind.i64.wrap (hf : Int) = (hf : Int) := by rw [IntKind.wrap_i64]; omega
    have hwc : IntKind.u32.wrap (d : Int) = wz cd := by rw [unhide HCD]; exact wz_count d
    have ha := w_add
    have ham := w_addm
    have h0 : w2.grownBy w2.drew none := gb_drew (gb_refl _ _)
    have HG2 := hide G2
    have HLW2 := hide hlw
    have HLH2 := hide hlh
    clear st hT2 hbX hbL hX g2 hst tr G2 hk32 hn12 hL0 hXL up hhf hd hwh hLW
    go_wp2_with fail
    refine wp_region_noPanic ?_
    refine wp_region_held_drew (S := fun V => w2.grownBy V none) (by kernel_rfl) h0 (fun _ => ?_)
    refine wpAnyH_take (i := 0) (oi := { dst := some 22, op := Op.move (Operand.tmp 8), type := _, pos := _, after := _, guard := _ }) (v := .slice (some ⟨NX, 0, none⟩) L L) rfl (by kernel_rfl) (by kernel_rfl) (by kernel_rfl) (fun _ _ _ h => h) (Or.inl ⟨by rfl, fun V (hV : w2.grownBy V none) => by go_simp⟩) h0 ?_
    (try simp only [Act.put, List.setIfInBounds_toArray, List.set_cons_zero, List.set_cons_succ])
    refine wpAnyH_take (i := 1) (oi := { dst := some 23, op := Op.call { callee := Callee.builtin Builtin.len, args := #[(Operand.tmp 22)], argTypes := #[30] }, type := _, pos := _, after := _, guard := _ }) (v := .int .i64 (L : Int)) rfl (by kernel_rfl) (by kernel_rfl) (by kernel_rfl) (fun _ _ _ h => h) (Or.inl ⟨by rfl, fun V (hV : w2.grownBy V none) => by go_simp⟩) h0 ?_
    (try simp only [Act.put, List.setIfInBounds_toArray, List.set_cons_zero, List.set_cons_succ])
    refine wpAnyH_take (i := 2) (oi := { dst := some 24, op := Op.move (Operand.tmp 2), type := _, pos := _, after := _, guard := _ }) (v := .slice ao L cap) rfl (by kernel_rfl) (by kernel_rfl) (by kernel_rfl) (fun _ _ _ h => h) (Or.inl ⟨by rfl, fun V (hV : w2.grownBy V none) => by go_simp⟩) h0 ?_
    (try simp only [Act.put, List.setIfInBounds_toArray, List.set_cons_zero, List.set_cons_succ])
    refine wpAnyH_take (i := 3) (oi := { dst := some 25, op := Op.call { callee := Callee.builtin Builtin.len, args := #[(Operand.tmp 24)], argTypes := #[30] }, type := _, pos := _, after := _, guard := _ }) (v := .int .i64 (L : Int)) rfl (by kernel_rfl) (by kernel_rfl) (by kernel_rfl) (fun _ _ _ h => h) (Or.inl ⟨by rfl, fun V (hV : w2.grownBy V none) => by go_simp⟩) h0 ?_
    (try simp only [Act.put, List.setIfInBounds_toArray, List.set_cons_zero, List.set_cons_succ])
    refine wpAnyH_take (i := 4) (oi := { dst := some 26, op := Op.binOp BinOp.neq 3 (Operand.tmp 23) (Operand.tmp 25) 3, type := _, pos := _, after := _, guard := _ }) (v := .bool false) rfl (by kernel_rfl) (by kernel_rfl) (by kernel_rfl) (fun _ _ _ h => h) (Or.inl ⟨by rfl, fun V (hV : w2.grownBy V none) => by go_simp⟩) h0 ?_
    (try simp only [Act.put, List.setIfInBounds_toArray, List.set_cons_zero, List.set_cons_succ])
    refine wpAnyH_take (i := 5) (oi := { dst := some 27, op := Op.move (Operand.tmp 26), type := _, pos := _, after := _, guard := _ }) (v := .bool false) rfl (by kernel_rfl) (by kernel_rfl) (by kernel_rfl) (fun _ _ _ h => h) (Or.inl ⟨by rfl, fun V (hV : w2.grownBy V none) => by go_simp⟩) h0 ?_
    (try simp only [Act.put, List.setIfInBounds_toArray, List.set_cons_zero, List.set_cons_succ])
    refine wpAnyH_take (i := 6) (oi := { dst := some 28, op := Op.load 23 (Operand.tmp 3), type := _, pos := _, after := _, guard := _ }) (v := .agg (k.map bv).toArray) rfl (by kernel_rfl) (by kernel_rfl) (by kernel_rfl) (fun _ _ _ h => h) (yieldsIf_load_mid (by rfl) _ _ rfl _ _ rfl (k.map bv) _ (fun V hV => range_kept hrK hV (by simp)) Tryd.underlying23 rfl hiK) h0 ?_
    (try simp only [Act.put, List.setIfInBounds_toArray, List.set_cons_zero, List.set_cons_succ])
    refine wpAnyH_take (i := 7) (oi := { dst := some 29, op := Op.load 25 (Operand.tmp 7), type := _, pos := _, after := _, guard := _ }) (v := .agg (n0.map bv).toArray) rfl (by kernel_rfl) (by kernel_rfl) (by kernel_rfl) (fun _ _ _ h => h) (yieldsIf_load_mid (by rfl) _ _ rfl _ _ rfl (n0.map bv) _ (fun V hV => range_kept hrN hV (by simp)) Tryd.underlying25 rfl hiN) h0 ?_
    (try simp only [Act.put, List.setIfInBounds_toArray, List.set_cons_zero, List.set_cons_succ])
    refine wpAnyH_take (i := 8) (oi := { dst := some 30, op := Op.move (Operand.tmp 1), type := _, pos := _, after := _, guard := _ }) (v := .int .u32 (wz c)) rfl (by kernel_rfl) (by kernel_rfl) (by kernel_rfl) (fun _ _ _ h => h) (Or.inl ⟨by rfl, fun V (hV : w2.grownBy V none) => by go_simp⟩) h0 ?_
    (try simp only [Act.put, List.setIfInBounds_toArray, List.set_cons_zero, List.set_cons_succ])
    refine wpAnyH_take (i := 9) (oi := { dst := some 31, op := Op.move (Operand.tmp 8), type := _, pos := _, after := _, guard := _ }) (v := .slice (some ⟨NX, 0, none⟩) L L) rfl (by kernel_rfl) (by kernel_rfl) (by kernel_rfl) (fun _ _ _ h => h) (Or.inl ⟨by rfl, fun V (hV : w2.grownBy V none) => by go_simp⟩) h0 ?_
    (try simp only [Act.put, List.setIfInBounds_toArray, List.set_cons_zero, List.set_cons_succ])
    refine wpAnyH_take (i := 12) (oi := { dst := some 34, op := Op.move (Operand.tmp 2), type := _, pos := _, after := _, guard := _ }) (v := .slice ao L cap) rfl (by kernel_rfl) (by kernel_rfl) (by kernel_rfl) (fun _ _ _ h => h) (Or.inl ⟨by rfl, fun V (hV : w2.grownBy V none) => by go_simp⟩) h0 ?_
    (try simp only [Act.put, List.setIfInBounds_toArray, List.set_cons_zero, List.set_cons_succ])
    refine wpAnyH_take (i := 13) (oi := { dst := some 35, op := Op.convert 30 9 (Operand.tmp 34), type := _, pos := _, after := _, guard := _ }) (v := .string (str l0)) rfl (by kernel_rfl) (by kernel_rfl) (by kernel_rfl) (fun _ _ _ h => h) (Or.inl ⟨by rfl, fun V (hV : w2.grownBy V none) => by go_simp⟩) h0 ?_
    (try simp only [Act.put, List.setIfInBounds_toArray, List.set_cons_zero, List.set_cons_succ])
    refine wpAnyH_ready (rs := [10]) (by kernel_rfl) (by simp) ?_
    refine AllReadyH.cons (o := { dst := some 32, op := Op.call { callee := Callee.value (Operand.func 12), args := #[(Operand.tmp 28), (Operand.tmp 29), (Operand.tmp 30), (Operand.tmp 31)], argTypes := #[23, 25, 26, 30] }, type := _, pos := _, after := _, guard := _ }) rfl (fun K9 hK9 => ?_) AllReadyH.nil
    go_simp
    go_at_call 12
    refine (sx _ h0).mono ?_
    rintro e w3 ⟨N3, rfl, cv3, g3⟩
    go_wp2_with fail
    refine hK9.out _ _ g3 (fun _ => ?_)
    clear hK9 K9
    (try simp only [Act.put, List.setIfInBounds_toArray, List.set_cons_zero, List.set_cons_succ])
    refine wpAnyH_ready (rs := [11]) (by kernel_rfl) (by simp) ?_
    refine AllReadyH.cons (o := { dst := some 33, op := Op.convert 30 9 (Operand.tmp 32), type := _, pos := _, after := _, guard := _ }) rfl (fun K9 hK9 => ?_) AllReadyH.nil
    go_simp
    refine hK9.out _ _ g3 (fun _ => ?_)
    clear hK9 K9
    (try simp only [Act.put, List.setIfInBounds_toArray, List.set_cons_zero, List.set_cons_succ])
    refine wpAnyH_take (i := 14) (oi := { dst := some 36, op := Op.binOp BinOp.neq 9 (Operand.tmp 33) (Operand.tmp 35) 9, type := _, pos := _, after := _, guard := _ }) (v := .bool false) rfl (by kernel_rfl) (by kernel_rfl) (by kernel_rfl) (fun _ _ _ h => h) (Or.inl ⟨by rfl, fun V (hV : w2.grownBy V none) => by go_simp⟩) g3 ?_
    (try simp only [Act.put, List.setIfInBounds_toArray, List.set_cons_zero, List.set_cons_succ])
    refine wpAnyH_take (i := 15) (oi := { dst := some 37, op := Op.pick (Operand.tmp 27) (Operand.const (Value.bool true)) (Operand.tmp 36), type := _, pos := _, after := _, guard := _ }) (v := .bool false) rfl (by kernel_rfl) (by kernel_rfl) (by kernel_rfl) (fun _ _ _ h => h) (Or.inl ⟨by rfl, fun V (hV : w2.grownBy V none) => by go_simp⟩) g3 ?_
    (try simp only [Act.put, List.setIfInBounds_toArray, List.set_cons_zero, List.set_cons_succ])
    refine wpAnyH_done (by kernel_rfl) ?_ _
    refine NoPanic.normal ?_
    go_wp2_with fail
    have h1 : w2.grownBy w3.drew none := gb_drew g3
    refine wp_region_noPanic ?_
    refine wp_region_held_drew (S := fun V => w2.grownBy V none) (by kernel_rfl) h1 (fun _ => ?_)
    refine wpAnyH_take (i := 0) (oi := { dst := some 41, op := Op.load 23 (Operand.tmp 3), type := _, pos := _, after := _, guard := _ }) (v := .agg (k.map bv).toArray) rfl (by kernel_rfl) (by kernel_rfl) (by kernel_rfl) (fun _ _ _ h => h) (yieldsIf_load_mid (by rfl) _ _ rfl _ _ rfl (k.map bv) _ (fun V hV => range_kept hrK hV (by simp)) Tryd.underlying23 rfl hiK) h1 ?_
    (try simp only [Act.put, List.setIfInBounds_toArray, List.set_cons_zero, List.set_cons_succ])
    refine wpAnyH_take (i := 1) (oi := { dst := some 42, op := Op.load 25 (Operand.tmp 7), type := _, pos := _, after := _, guard := _ }) (v := .agg (n0.map bv).toArray) rfl (by kernel_rfl) (by kernel_rfl) (by kernel_rfl) (fun _ _ _ h => h) (yieldsIf_load_mid (by rfl) _ _ rfl _ _ rfl (n0.map bv) _ (fun V hV => range_kept hrN hV (by simp)) Tryd.underlying25 rfl hiN) h1 ?_
    (try simp only [Act.put, List.setIfInBounds_toArray, List.set_cons_zero, List.set_cons_succ])
    refine wpAnyH_take (i := 2) (oi := { dst := some 43, op := Op.move (Operand.tmp 1), type := _, pos := _, after := _, guard := _ }) (v := .int .u32 (wz c)) rfl (by kernel_rfl) (by kernel_rfl) (by kernel_rfl) (fun _ _ _ h => h) (Or.inl ⟨by rfl, fun V (hV : w2.grownBy V none) => by go_simp⟩) h1 ?_
    (try simp only [Act.put, List.setIfInBounds_toArray, List.set_cons_zero, List.set_cons_succ])
    refine wpAnyH_take (i := 3) (oi := { dst := some 44, op := Op.move (Operand.tmp 2), type := _, pos := _, after := _, guard := _ }) (v := .slice ao L cap) rfl (by kernel_rfl) (by kernel_rfl) (by kernel_rfl) (fun _ _ _ h => h) (Or.inl ⟨by rfl, fun V (hV : w2.grownBy V none) => by go_simp⟩) h1 ?_
    (try simp only [Act.put, List.setIfInBounds_toArray, List.set_cons_zero, List.set_cons_succ])
    refine wpAnyH_take (i := 4) (oi := { dst := some 45, op := Op.move (Operand.tmp 9), type := _, pos := _, after := _, guard := _ }) (v := .int .i64 (hf : Int)) rfl (by kernel_rfl) (by kernel_rfl) (by kernel_rfl) (fun _ _ _ h => h) (Or.inl ⟨by rfl, fun V (hV : w2.grownBy V none) => by go_simp⟩) h1 ?_
    (try simp only [Act.put, List.setIfInBounds_toArray, List.set_cons_zero, List.set_cons_succ])
    refine wpAnyH_take (i := 5) (oi := { dst := some 46, op := Op.slice 30 (Operand.tmp 44) none (some (Operand.tmp 45)) none, type := _, pos := _, after := _, guard := _ }) (v := .slice ao hf cap) rfl (by kernel_rfl) (by kernel_rfl) (by kernel_rfl) (fun _ _ _ h => h) (Or.inl ⟨by rfl, fun V (hV : w2.grownBy V none) => by go_simp⟩) h1 ?_
    (try simp only [Act.put, List.setIfInBounds_toArray, List.set_cons_zero, List.set_cons_succ])
    refine wpAnyH_take (i := 8) (oi := { dst := some 49, op := Op.move (Operand.tmp 8), type := _, pos := _, after := _, guard := _ }) (v := .slice (some ⟨NX, 0, none⟩) L L) rfl (by kernel_rfl) (by kernel_rfl) (by kernel_rfl) (fun _ _ _ h => h) (Or.inl ⟨by rfl, fun V (hV : w2.grownBy V none) => by go_simp⟩) h1 ?_
    (try simp only [Act.put, List.setIfInBounds_toArray, List.set_cons_zero, List.set_cons_succ])
    refine wpAnyH_take (i := 9) (oi := { dst := some 50, op := Op.move (Operand.tmp 9), type := _, pos := _, after := _, guard := _ }) (v := .int .i64 (hf : Int)) rfl (by kernel_rfl) (by kernel_rfl) (by kernel_rfl) (fun _ _ _ h => h) (Or.inl ⟨by rfl, fun V (hV : w2.grownBy V none) => by go_simp⟩) h1 ?_
    (try simp only [Act.put, List.setIfInBounds_toArray, List.set_cons_zero, List.set_cons_succ])
    refine wpAnyH_take (i := 10) (oi := { dst := some 51, op := Op.slice 30 (Operand.tmp 49) none (some (Operand.tmp 50)) none, type := _, pos := _, after := _, guard := _ }) (v := .slice (some ⟨NX, 0, none⟩) hf L) rfl (by kernel_rfl) (by kernel_rfl) (by kernel_rfl) (fun _ _ _ h => h) (Or.inl ⟨by rfl, fun V (hV : w2.grownBy V none) => by go_simp⟩) h1 ?_
    (try simp only [Act.put, List.setIfInBounds_toArray, List.set_cons_zero, List.set_cons_succ])
    refine wpAnyH_take (i := 11) (oi := { dst := some 52, op := Op.convert 30 9 (Operand.tmp 51), type := _, pos := _, after := _, guard := _ }) (v := .string (str xh)) rfl (by kernel_rfl) (by kernel_rfl) (by kernel_rfl) (fun _ _ _ h => h) (Or.inl ⟨by rfl, fun V (hV : w2.grownBy V none) => by go_simp⟩) h1 ?_
    (try simp only [Act.put, List.setIfInBounds_toArray, List.set_cons_zero, List.set_cons_succ])
    refine wpAnyH_ready (rs := [6]) (by kernel_rfl) (by simp) ?_
    refine AllReadyH.cons (o := { dst := some 47, op := Op.call { callee := Callee.value (Operand.func 12), args := #[(Operand.tmp 41), (Operand.tmp 42), (Operand.tmp 43), (Operand.tmp 46)], argTypes := #[23, 25, 26, 30] }, type := _, pos := _, after := _, guard := _ }) rfl (fun K9 hK9 => ?_) AllReadyH.nil
    go_simp
    go_at_call 12
    refine (sh _ h1).mono ?_
    rintro e w4 ⟨N4, rfl, cv4, g4⟩
    go_wp2_with fail
    refine hK9.out _ _ g4 (fun _ => ?_)
    clear hK9 K9
    (try simp only [Act.put, List.setIfInBounds_toArray, List.set_cons_zero, List.set_cons_succ])
    refine wpAnyH_ready (rs := [7]) (by kernel_rfl) (by simp) ?_
    refine AllReadyH.cons (o := { dst := some 48, op := Op.convert 30 9 (Operand.tmp 47), type := _, pos := _, after := _, guard := _ }) rfl (fun K9 hK9 => ?_) AllReadyH.nil
    go_simp
    refine hK9.out _ _ g4 (fun _ => ?_)
    clear hK9 K9
    (try simp only [Act.put, List.setIfInBounds_toArray, List.set_cons_zero, List.set_cons_succ])
    refine wpAnyH_take (i := 12) (oi := { dst := some 53, op := Op.binOp BinOp.neq 9 (Operand.tmp 48) (Operand.tmp 52) 9, type := _, pos := _, after := _, guard := _ }) (v := .bool false) rfl (by kernel_rfl) (by kernel_rfl) (by kernel_rfl) (fun _ _ _ h => h) (Or.inl ⟨by rfl, fun V (hV : w2.grownBy V none) => by go_simp⟩) g4 ?_
    (try simp only [Act.put, List.setIfInBounds_toArray, List.set_cons_zero, List.set_cons_succ])
    refine wpAnyH_done (by kernel_rfl) ?_ _
    refine NoPanic.normal ?_
    go_wp2_with fail
    have h2 : w2.grownBy w4.drew none := gb_drew g4
    refine wp_region_noPanic ?_
    refine wp_region_held_drew (S := fun V => w2.grownBy V none) (by kernel_rfl) h2 (fun _ => ?_)
    refine wpAnyH_take (i := 0) (oi := { dst := some 57, op := Op.load 23 (Operand.tmp 3), type := _, pos := _, after := _, guard := _ }) (v := .agg (k.map bv).toArray) rfl (by kernel_rfl) (by kernel_rfl) (by kernel_rfl) (fun _ _ _ h => h) (yieldsIf_load_mid (by rfl) _ _ rfl _ _ rfl (k.map bv) _ (fun V hV => range_kept hrK hV (by simp)) Tryd.underlying23 rfl hiK) h2 ?_
    (try simp only [Act.put, List.setIfInBounds_toArray, List.set_cons_zero, List.set_cons_succ])
    refine wpAnyH_take (i := 1) (oi := { dst := some 58, op := Op.load 25 (Operand.tmp 7), type := _, pos := _, after := _, guard := _ }) (v := .agg (n0.map bv).toArray) rfl (by kernel_rfl) (by kernel_rfl) (by kernel_rfl) (fun _ _ _ h => h) (yieldsIf_load_mid (by rfl) _ _ rfl _ _ rfl (n0.map bv) _ (fun V hV => range_kept hrN hV (by simp)) Tryd.underlying25 rfl hiN) h2 ?_
    (try simp only [Act.put, List.setIfInBounds_toArray, List.set_cons_zero, List.set_cons_succ])
    refine wpAnyH_take (i := 2) (oi := { dst := some 59, op := Op.move (Operand.tmp 1), type := _, pos := _, after := _, guard := _ }) (v := .int .u32 (wz c)) rfl (by kernel_rfl) (by kernel_rfl) (by kernel_rfl) (fun _ _ _ h => h) (Or.inl ⟨by rfl, fun V (hV : w2.grownBy V none) => by go_simp⟩) h2 ?_
    (try simp only [Act.put, List.setIfInBounds_toArray, List.set_cons_zero, List.set_cons_succ])
    refine wpAnyH_take (i := 3) (oi := { dst := some 60, op := Op.move (Operand.tmp 10), type := _, pos := _, after := _, guard := _ }) (v := .int .i64 (wh : Int)) rfl (by kernel_rfl) (by kernel_rfl) (by kernel_rfl) (fun _ _ _ h => h) (Or.inl ⟨by rfl, fun V (hV : w2.grownBy V none) => by go_simp⟩) h2 ?_
    (try simp only [Act.put, List.setIfInBounds_toArray, List.set_cons_zero, List.set_cons_succ])
    refine wpAnyH_take (i := 4) (oi := { dst := some 61, op := Op.binOp BinOp.quo 3 (Operand.tmp 60) (Operand.const (Value.int IntKind.i64 64)) 3, type := _, pos := _, after := _, guard := _ }) (v := .int .i64 (d : Int)) rfl (by kernel_rfl) (by kernel_rfl) (by kernel_rfl) (fun _ _ _ h => h) (Or.inl ⟨by rfl, fun V (hV : w2.grownBy V none) => by go_simp⟩) h2 ?_
    (try simp only [Act.put, List.setIfInBounds_toArray, List.set_cons_zero, List.set_cons_succ])
    refine wpAnyH_take (i := 5) (oi := { dst := some 62, op := Op.convert 3 26 (Operand.tmp 61), type := _, pos := _, after := _, guard := _ }) (v := .int .u32 (wz cd)) rfl (by kernel_rfl) (by kernel_rfl) (by kernel_rfl) (fun _ _ _ h => h) (Or.inl ⟨by rfl, fun V (hV : w2.grownBy V none) => by go_simp⟩) h2 ?_
    (try simp only [Act.put, List.setIfInBounds_toArray, List.set_cons_zero, List.set_cons_succ])
    refine wpAnyH_take (i := 6) (oi := { dst := some 63, op := Op.binOp BinOp.add 26 (Operand.tmp 59) (Operand.tmp 62) 26, type := _, pos := _, after := _, guard := _ }) (v := .int .u32 (wz (c + cd))) rfl (by kernel_rfl) (by kernel_rfl) (by kernel_rfl) (fun _ _ _ h => h) (Or.inl ⟨by rfl, fun V (hV : w2.grownBy V none) => by go_simp⟩) h2 ?_
    (try simp only [Act.put, List.setIfInBounds_toArray, List.set_cons_zero, List.set_cons_succ])
    refine wpAnyH_take (i := 7) (oi := { dst := some 64, op := Op.move (Operand.tmp 2), type := _, pos := _, after := _, guard := _ }) (v := .slice ao L cap) rfl (by kernel_rfl) (by kernel_rfl) (by kernel_rfl) (fun _ _ _ h => h) (Or.inl ⟨by rfl, fun V (hV : w2.grownBy V none) => by go_simp⟩) h2 ?_
    (try simp only [Act.put, List.setIfInBounds_toArray, List.set_cons_zero, List.set_cons_succ])
    refine wpAnyH_take (i := 8) (oi := { dst := some 65, op := Op.move (Operand.tmp 10), type := _, pos := _, after := _, guard := _ }) (v := .int .i64 (wh : Int)) rfl (by kernel_rfl) (by kernel_rfl) (by kernel_rfl) (fun _ _ _ h => h) (Or.inl ⟨by rfl, fun V (hV : w2.grownBy V none) => by go_simp⟩) h2 ?_
    (try simp only [Act.put, List.setIfInBounds_toArray, List.set_cons_zero, List.set_cons_succ])
    refine wpAnyH_take (i := 9) (oi := { dst := some 66, op := Op.slice 30 (Operand.tmp 64) (some (Operand.tmp 65)) none none, type := _, pos := _, after := _, guard := _ }) (v := .slice AW LW CW) rfl (by kernel_rfl) (by kernel_rfl) (by kernel_rfl) (fun _ _ _ h => h) (Or.inl ⟨by rfl, fun V (hV : w2.grownBy V none) => by go_simp⟩) h2 ?_
    (try simp only [Act.put, List.setIfInBounds_toArray, List.set_cons_zero, List.set_cons_succ])
    refine wpAnyH_take (i := 12) (oi := { dst := some 69, op := Op.move (Operand.tmp 8), type := _, pos := _, after := _, guard := _ }) (v := .slice (some ⟨NX, 0, none⟩) L L) rfl (by kernel_rfl) (by kernel_rfl) (by kernel_rfl) (fun _ _ _ h => h) (Or.inl ⟨by rfl, fun V (hV : w2.grownBy V none) => by go_simp⟩) h2 ?_
    (try simp only [Act.put, List.setIfInBounds_toArray, List.set_cons_zero, List.set_cons_succ])
    refine wpAnyH_take (i := 13) (oi := { dst := some 70, op := Op.move (Operand.tmp 10), type := _, pos := _, after := _, guard := _ }) (v := .int .i64 (wh : Int)) rfl (by kernel_rfl) (by kernel_rfl) (by kernel_rfl) (fun _ _ _ h => h) (Or.inl ⟨by rfl, fun V (hV : w2.grownBy V none) => by go_simp⟩) h2 ?_
    (try simp only [Act.put, List.setIfInBounds_toArray, List.set_cons_zero, List.set_cons_succ])
    refine wpAnyH_take (i := 14) (oi := { dst := some 71, op := Op.slice 30 (Operand.tmp 69) (some (Operand.tmp 70)) none none, type := _, pos := _, after := _, guard := _ }) (v := .slice XW LW LW) rfl (by kernel_rfl) (by kernel_rfl) (by kernel_rfl) (fun _ _ _ h => h) (Or.inl ⟨by rfl, fun V (hV : w2.grownBy V none) => by go_simp⟩) h2 ?_
    (try simp only [Act.put, List.setIfInBounds_toArray, List.set_cons_zero, List.set_cons_succ])
    refine wpAnyH_take (i := 15) (oi := { dst := some 72, op := Op.convert 30 9 (Operand.tmp 71), type := _, pos := _, after := _, guard := _ }) (v := .string (str xw)) rfl (by kernel_rfl) (by kernel_rfl) (by kernel_rfl) (fun _ _ _ h => h) (Or.inl ⟨by rfl, fun V (hV : w2.grownBy V none) => by go_simp⟩) h2 ?_
    (try simp only [Act.put, List.setIfInBounds_toArray, List.set_cons_zero, List.set_cons_succ])
    refine wpAnyH_ready (rs := [10]) (by kernel_rfl) (by simp) ?_
    refine AllReadyH.cons (o := { dst := some 67, op := Op.call { callee := Callee.value (Operand.func 12), args := #[(Operand.tmp 57), (Operand.tmp 58), (Operand.tmp 63), (Operand.tmp 66)], argTypes := #[23, 25, 26, 30] }, type := _, pos := _, after := _, guard := _ }) rfl (fun K9 hK9 => ?_) AllReadyH.nil
    go_simp
    go_at_call 12
    refine (sw _ h2).mono ?_
    rintro e w5 ⟨N5, rfl, cv5, g5⟩
    go_wp2_with fail
    refine hK9.out _ _ g5 (fun _ => ?_)
    clear hK9 K9
    (try simp only [Act.put, List.setIfInBounds_toArray, List.set_cons_zero, List.set_cons_succ])
    refine wpAnyH_ready (rs := [11]) (by kernel_rfl) (by simp) ?_
    refine AllReadyH.cons (o := { dst := some 68, op := Op.convert 30 9 (Operand.tmp 67), type := _, pos := _, after := _, guard := _ }) rfl (fun K9 hK9 => ?_) AllReadyH.nil
    go_simp
    refine hK9.out _ _ g5 (fun _ => ?_)
    clear hK9 K9
    (try simp only [Act.put, List.setIfInBounds_toArray, List.set_cons_zero, List.set_cons_succ])
    refine wpAnyH_take (i := 16) (oi := { dst := some 73, op := Op.binOp BinOp.eql 9 (Operand.tmp 68) (Operand.tmp 72) 9, type := _, pos := _, after := _, guard := _ }) (v := .bool true) rfl (by kernel_rfl) (by kernel_rfl) (by kernel_rfl) (fun _ _ _ h => h) (Or.inl ⟨by rfl, fun V (hV : w2.grownBy V none) => by go_simp⟩) g5 ?_
    (try simp only [Act.put, List.setIfInBounds_toArray, List.set_cons_zero, List.set_cons_succ])
    refine wpAnyH_take (i := 17) (oi := { dst := some 74, op := Op.move (Operand.tmp 73), type := _, pos := _, after := _, guard := _ }) (v := .bool true) rfl (by kernel_rfl) (by kernel_rfl) (by kernel_rfl) (fun _ _ _ h => h) (Or.inl ⟨by rfl, fun V (hV : w2.grownBy V none) => by go_simp⟩) g5 ?_
    (try simp only [Act.put, List.setIfInBounds_toArray, List.set_cons_zero, List.set_cons_succ])
    refine wpAnyH_ready (rs := [18]) (by kernel_rfl) (by simp) ?_
    refine AllReadyH.cons (o := { dst := some 75, op := Op.call { callee := Callee.value (Operand.func 11), args := #[], argTypes := #[] }, type := _, pos := _, after := _, guard := _ }) rfl (fun K9 hK9 => ?_) AllReadyH.nil
    go_simp
    go_at_call 11
    refine (c1 _ g5).mono ?_
    rintro e w6 ⟨rfl, g6⟩
    go_wp2_with fail
    refine hK9.out _ _ g6 (fun _ => ?_)
    clear hK9 K9
    (try simp only [Act.put, List.setIfInBounds_toArray, List.set_cons_zero, List.set_cons_succ])
    refine wpAnyH_take (i := 19) (oi := { dst := some 76, op := Op.pick (Operand.tmp 74) (Operand.tmp 75) (Operand.const (Value.bool false)), type := _, pos := _, after := _, guard := _ }) (v := .bool true) rfl (by kernel_rfl) (by kernel_rfl) (by kernel_rfl) (fun _ _ _ h => h) (Or.inl ⟨by rfl, fun V (hV : w2.grownBy V none) => by go_simp⟩) g6 ?_
    (try simp only [Act.put, List.setIfInBounds_toArray, List.set_cons_zero, List.set_cons_succ])
    refine wpAnyH_take (i := 20) (oi := { dst := some 6, op := Op.assign (Operand.tmp 76), type := _, pos := _, after := _, guard := _ }) (v := .bool true) rfl (by kernel_rfl) (by kernel_rfl) (by kernel_rfl) (fun _ _ _ h => h) (Or.inl ⟨by rfl, fun V (hV : w2.grownBy V none) => by go_simp⟩) g6 ?_
    (try simp only [Act.put, List.setIfInBounds_toArray, List.set_cons_zero, List.set_cons_succ])
    refine wpAnyH_done (by kernel_rfl) ?_ _
    refine NoPanic.normal ?_
    go_wp2
    go_ret
    exact ⟨rfl, gb_trans (unhide HG2) g6 (fun _ e => by cases e)⟩

end Go.Proofs.YtikdpifacokfpaaDoor
