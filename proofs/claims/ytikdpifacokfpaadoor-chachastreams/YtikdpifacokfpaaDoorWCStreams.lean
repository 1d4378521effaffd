/- ChachaStreams' walk: whatever the key, the count and the text, the call returns true and nothing that was in memory has changed; where the table holds what it is laid with. -/
import Derived.Test.YtikdpifacokfpaaDoorCRefS
import Derived.Test.YtikdpifacokfpaaDoorCAll
import Derived.Deep.DrawnRows
import Derived.Deep.MidRow
namespace Go.Proofs.YtikdpifacokfpaaDoor
open Go.RowKit
attribute [local go_sem ↓] Go.wp_at_zero Go.wp_at_succ

theorem low_byte (c : W) : IntKind.u8.wrap (wz c) = (((UInt8.ofNat c.toNat).toNat : Nat) : Int) := by
  rw [IntKind.wrap_u8, UInt8.toNat_ofNat']
  unfold wz
  omega

set_option maxRecDepth 100000 in
set_option maxHeartbeats 4000000 in
theorem chachaStreams_any (w : World) (k : List UInt8) (hk : k.length = 32) (c : W) (ao : Option Addr) (cap : Nat) (l : List UInt8) (hb : Bts w ao cap l) (hT : CTab w) :
    Calls Tryd.prog 4 #[.agg (k.map bv).toArray, .int .u32 (wz c), .slice ao l.length cap] w fun e w' => e = .returned (.bool true) ∧ w.grownBy w' none := by
  have hi32 : (Tryd.prog.info? 23).map (·.size) = some 32 := by kernel_rfl
  have hi12 : (Tryd.prog.info? 25).map (·.size) = some 12 := by kernel_rfl
  have tr : ∀ {x y z : World}, x.grownBy y none → y.grownBy z none → x.grownBy z none := fun h k => gb_trans h k (fun _ e => by cases e)
  obtain ⟨l0, hl0⟩ : ∃ l0, l0 = l.take 600 := ⟨_, rfl⟩
  have hb0 : Bts w ao cap l0 := by
    rw [hl0]
    by_cases hn : 600 ≤ l.length
    · exact hb.take 600 hn
    · rw [List.take_of_length_le (by omega)]; exact hb
  obtain ⟨L, hL⟩ : ∃ L, L = l0.length := ⟨_, rfl⟩
  have hL2 : L ≤ 600 := by rw [hL, hl0]; simp; omega
  obtain ⟨b5, hb5⟩ : ∃ b, b = UInt8.ofNat c.toNat := ⟨_, rfl⟩
  have hlow := low_byte c
  rw [← hb5] at hlow
  have hlowm : wz c % 256 = ((b5.toNat : Nat) : Int) := by rw [← hlow, IntKind.wrap_u8]
  obtain ⟨n0, hn0⟩ : ∃ n0 : List UInt8, n0 = [0, 0, 0, 0, 0, b5, 0, 0, 0, 0, 0, 0] := ⟨_, rfl⟩
  have hn12 : n0.length = 12 := by rw [hn0]; rfl
  obtain ⟨W1, hW1⟩ : ∃ W1, W1 = (w.alloc (.cells (k.map bv).toArray 23)).alloc (.cells #[.int .u8 0, .int .u8 0, .int .u8 0, .int .u8 0, .int .u8 0, .int .u8 ((b5.toNat : Nat) : Int), .int .u8 0, .int .u8 0, .int .u8 0, .int .u8 0, .int .u8 0, .int .u8 0] 25) := ⟨_, rfl⟩
  have hW1' : W1 = (w.alloc (.cells (k.map bv).toArray 23)).alloc (.cells (n0.map bv).toArray 25) := by
    rw [hW1, hn0]; rfl
  have hg1 : w.grownBy W1 none := by rw [hW1]; exact gb_alloc (gb_alloc (gb_refl _ _) _) _
  have hK1 : Blk W1 w.heap.size 23 (k.map bv) := by rw [hW1']; exact (Blk.new w 23 (k.map bv)).alloc _
  have hN1 : Blk W1 (w.heap.size + 1) 25 (n0.map bv) := by
    have := Blk.new (w.alloc (.cells (k.map bv).toArray 23)) 25 (n0.map bv)
    rw [World.size_alloc] at this
    rw [hW1']; exact this
  have hrK := blk_range0 hK1
  have hrN := blk_range0 hN1
  have hiK : (Tryd.prog.info? 23).map (·.size) = some (k.map bv).length := by rw [List.length_map, hk]; exact hi32
  have hiN : (Tryd.prog.info? 25).map (·.size) = some (n0.map bv).length := by rw [List.length_map, hn12]; exact hi12
  have hT1 := hT.kept0 hg1
  have hb1 := hb0.kept hg1 (fun _ e => by cases e)
  obtain ⟨xs, hxs⟩ : ∃ x, x = streamL k n0 c l0 := ⟨_, rfl⟩
  have hxl : xs.length = L := by rw [hxs, streamL_length, hL]
  have cK : ∀ V, W1.grownBy V none → (convert 30 9 (.slice (some ⟨w.heap.size, 0, none⟩) 32 32)).run Tryd.prog V = .ok (.string (str k)) V := fun V gV => conv_blk hK1 gV 32 hk (by omega)
  have cN : ∀ V, W1.grownBy V none → (convert 30 9 (.slice (some ⟨w.heap.size + 1, 0, none⟩) 12 12)).run Tryd.prog V = .ok (.string (str n0)) V := fun V gV => conv_blk hN1 gV 12 hn12 (by omega)
  have cL : ∀ V, W1.grownBy V none → (convert 30 9 (.slice ao L cap)).run Tryd.prog V = .ok (.string (str l0)) V := fun V gV => by
    have := conv_str (hb1.kept gV (fun _ e => by cases e))
    rw [← hL] at this
    exact this
  have slK := slice_whole 23 5 32 Tryd.underlying23 size_byte w.heap.size 0 (by omega)
  have slN := slice_whole 25 5 12 Tryd.underlying25 size_byte (w.heap.size + 1) 0 (by omega)
  have cs : ∀ V, W1.grownBy V none → Calls Tryd.prog 12 #[.agg (k.map bv).toArray, .agg (n0.map bv).toArray, .int .u32 (wz c), .slice ao L cap] V fun e w' => ∃ N, e = .returned (.slice (some ⟨N, 0, none⟩) L L) ∧ (∀ U, w'.grownBy U none → (convert 30 9 (.slice (some ⟨N, 0, none⟩) L L)).run Tryd.prog U = .ok (.string (str xs)) U) ∧ W1.grownBy w' none := by
    intro V gV
    have h := stream_any V k n0 c hk hn12 ao cap l0 (hb1.kept gV (fun _ e => by cases e)) (by omega) (hT1.kept0 gV)
    rw [← hL, ← hxs] at h
    exact h.mono fun e w' ⟨he, hBl, hgw⟩ => ⟨_, he, fun U gU => conv_blk hBl gU L hxl (by omega), tr gV hgw⟩
  have cr : ∀ V, Calls Tryd.prog 13 #[.string (str k), .string (str n0), .int .u32 (wz c), .string (str l0)] V fun e w' => e = .returned (.string (str xs)) ∧ V.grownBy w' none := by
    intro V
    rw [hxs]
    exact rstream_any V k n0 c hk hn12 l0 (by omega)
  have c1 : ∀ V, W1.grownBy V none → Calls Tryd.prog 11 #[] V fun e w' => e = .returned (.bool true) ∧ W1.grownBy w' none := fun V gV => (cone_any V (hT1.kept0 gV)).mono fun e w' ⟨he, hgw⟩ => ⟨he, tr gV hgw⟩
  have hse : ((str xs).toList == (str xs).toList) = true := by simp
  have h0 : W1.grownBy W1.drew none := gb_drew (gb_refl _ _)
  have HG1 := hide hg1
  have HW1 := hide hW1
  have hfit := hb.fits
  clear hg1 hW1 hW1' hK1 hN1 hT hT1 hxs hxl hk hn12 hn0 hb5 hb0 hb1
  by_cases hlen : 600 < l.length
  · have hLe : L = 600 := by rw [hL, hl0]; simp; omega
    have hsl : ∀ W, (Instr.slice 30 (.slice ao l.length cap) none (some (.int .i64 600)) none).run Tryd.prog W = .ok (.slice ao L cap) W := fun W => by
      rw [hLe]; exact slice_to W _ _ Tryd.underlying30 size_byte ao l.length cap 600 (by omega)
    obtain ⟨M, hM⟩ : ∃ M, M = l.length := ⟨_, rfl⟩
    have hg : (600 : Int) < (M : Int) := by omega
    rw [← hM] at hsl ⊢
    clear hM hl0 hL hLe hb hlen hfit
    go_enter Tryd.func4, Tryd.ntmps4
    go_wp2
    rw [← unhide HW1]
    refine wp_region_noPanic ?_
    refine wp_region_held_drew (S := fun V => W1.grownBy V none) (by kernel_rfl) h0 (fun _ => ?_)
    refine wpAnyH_take (i := 0) (oi := { dst := some 16, op := Op.load 23 (Operand.tmp 3), type := _, pos := _, after := _, guard := _ }) (v := .agg (k.map bv).toArray) rfl (by kernel_rfl) (by kernel_rfl) (by kernel_rfl) (fun _ _ _ h => h) (yieldsIf_load_mid (by rfl) _ _ rfl _ _ rfl (k.map bv) _ (fun V hV => range_kept hrK hV (by simp)) Tryd.underlying23 rfl hiK) h0 ?_
    (try simp only [Act.put, List.setIfInBounds_toArray, List.set_cons_zero, List.set_cons_succ])
    refine wpAnyH_take (i := 1) (oi := { dst := some 17, op := Op.load 25 (Operand.tmp 7), type := _, pos := _, after := _, guard := _ }) (v := .agg (n0.map bv).toArray) rfl (by kernel_rfl) (by kernel_rfl) (by kernel_rfl) (fun _ _ _ h => h) (yieldsIf_load_mid (by rfl) _ _ rfl _ _ rfl (n0.map bv) _ (fun V hV => range_kept hrN hV (by simp)) Tryd.underlying25 rfl hiN) h0 ?_
    (try simp only [Act.put, List.setIfInBounds_toArray, List.set_cons_zero, List.set_cons_succ])
    refine wpAnyH_take (i := 2) (oi := { dst := some 18, op := Op.move (Operand.tmp 1), type := _, pos := _, after := _, guard := _ }) (v := .int .u32 (wz c)) rfl (by kernel_rfl) (by kernel_rfl) (by kernel_rfl) (fun _ _ _ h => h) (Or.inl ⟨by rfl, fun V (hV : W1.grownBy V none) => by go_simp⟩) h0 ?_
    (try simp only [Act.put, List.setIfInBounds_toArray, List.set_cons_zero, List.set_cons_succ])
    refine wpAnyH_take (i := 3) (oi := { dst := some 19, op := Op.move (Operand.tmp 2), type := _, pos := _, after := _, guard := _ }) (v := .slice ao L cap) rfl (by kernel_rfl) (by kernel_rfl) (by kernel_rfl) (fun _ _ _ h => h) (Or.inl ⟨by rfl, fun V (hV : W1.grownBy V none) => by go_simp⟩) h0 ?_
    (try simp only [Act.put, List.setIfInBounds_toArray, List.set_cons_zero, List.set_cons_succ])
    refine wpAnyH_take (i := 6) (oi := { dst := some 22, op := Op.slice 23 (Operand.tmp 3) none none none, type := _, pos := _, after := _, guard := _ }) (v := .slice (some ⟨w.heap.size, 0, none⟩) 32 32) rfl (by kernel_rfl) (by kernel_rfl) (by kernel_rfl) (fun _ _ _ h => h) (Or.inl ⟨by rfl, fun V (hV : W1.grownBy V none) => by go_simp⟩) h0 ?_
    (try simp only [Act.put, List.setIfInBounds_toArray, List.set_cons_zero, List.set_cons_succ])
    refine wpAnyH_take (i := 7) (oi := { dst := some 23, op := Op.convert 30 9 (Operand.tmp 22), type := _, pos := _, after := _, guard := _ }) (v := .string (str k)) rfl (by kernel_rfl) (by kernel_rfl) (by kernel_rfl) (fun _ _ _ h => h) (Or.inl ⟨by rfl, fun V (hV : W1.grownBy V none) => by go_simp⟩) h0 ?_
    (try simp only [Act.put, List.setIfInBounds_toArray, List.set_cons_zero, List.set_cons_succ])
    refine wpAnyH_take (i := 8) (oi := { dst := some 24, op := Op.slice 25 (Operand.tmp 7) none none none, type := _, pos := _, after := _, guard := _ }) (v := .slice (some ⟨w.heap.size + 1, 0, none⟩) 12 12) rfl (by kernel_rfl) (by kernel_rfl) (by kernel_rfl) (fun _ _ _ h => h) (Or.inl ⟨by rfl, fun V (hV : W1.grownBy V none) => by go_simp⟩) h0 ?_
    (try simp only [Act.put, List.setIfInBounds_toArray, List.set_cons_zero, List.set_cons_succ])
    refine wpAnyH_take (i := 9) (oi := { dst := some 25, op := Op.convert 30 9 (Operand.tmp 24), type := _, pos := _, after := _, guard := _ }) (v := .string (str n0)) rfl (by kernel_rfl) (by kernel_rfl) (by kernel_rfl) (fun _ _ _ h => h) (Or.inl ⟨by rfl, fun V (hV : W1.grownBy V none) => by go_simp⟩) h0 ?_
    (try simp only [Act.put, List.setIfInBounds_toArray, List.set_cons_zero, List.set_cons_succ])
    refine wpAnyH_take (i := 10) (oi := { dst := some 26, op := Op.move (Operand.tmp 1), type := _, pos := _, after := _, guard := _ }) (v := .int .u32 (wz c)) rfl (by kernel_rfl) (by kernel_rfl) (by kernel_rfl) (fun _ _ _ h => h) (Or.inl ⟨by rfl, fun V (hV : W1.grownBy V none) => by go_simp⟩) h0 ?_
    (try simp only [Act.put, List.setIfInBounds_toArray, List.set_cons_zero, List.set_cons_succ])
    refine wpAnyH_take (i := 11) (oi := { dst := some 27, op := Op.move (Operand.tmp 2), type := _, pos := _, after := _, guard := _ }) (v := .slice ao L cap) rfl (by kernel_rfl) (by kernel_rfl) (by kernel_rfl) (fun _ _ _ h => h) (Or.inl ⟨by rfl, fun V (hV : W1.grownBy V none) => by go_simp⟩) h0 ?_
    (try simp only [Act.put, List.setIfInBounds_toArray, List.set_cons_zero, List.set_cons_succ])
    refine wpAnyH_take (i := 12) (oi := { dst := some 28, op := Op.convert 30 9 (Operand.tmp 27), type := _, pos := _, after := _, guard := _ }) (v := .string (str l0)) rfl (by kernel_rfl) (by kernel_rfl) (by kernel_rfl) (fun _ _ _ h => h) (Or.inl ⟨by rfl, fun V (hV : W1.grownBy V none) => by go_simp⟩) h0 ?_
    (try simp only [Act.put, List.setIfInBounds_toArray, List.set_cons_zero, List.set_cons_succ])
    refine wpAnyH_ready (rs := [4]) (by kernel_rfl) (by simp) ?_
    refine AllReadyH.cons (o := { dst := some 20, op := Op.call { callee := Callee.value (Operand.func 12), args := #[(Operand.tmp 16), (Operand.tmp 17), (Operand.tmp 18), (Operand.tmp 19)], argTypes := #[23, 25, 26, 30] }, type := _, pos := _, after := _, guard := _ }) rfl (fun K9 hK9 => ?_) AllReadyH.nil
    go_simp
    go_at_call 12
    refine (cs _ h0).mono ?_
    rintro e w3 ⟨N3, rfl, cv3, g3⟩
    go_wp2_with fail
    refine hK9.out _ _ g3 (fun _ => ?_)
    clear hK9 K9
    (try simp only [Act.put, List.setIfInBounds_toArray, List.set_cons_zero, List.set_cons_succ])
    refine wpAnyH_ready (rs := [5, 13]) (by kernel_rfl) (by simp) ?_
    refine AllReadyH.cons (o := { dst := some 21, op := Op.convert 30 9 (Operand.tmp 20), type := _, pos := _, after := _, guard := _ }) rfl (fun K9 hK9 => ?_) (AllReadyH.cons (o := { dst := some 29, op := Op.call { callee := Callee.value (Operand.func 13), args := #[(Operand.tmp 23), (Operand.tmp 25), (Operand.tmp 26), (Operand.tmp 28)], argTypes := #[9, 9, 26, 9] }, type := _, pos := _, after := _, guard := _ }) rfl (fun K9 hK9 => ?_) AllReadyH.nil)
    · have cv3a := cv3 w3 (gb_refl _ _)
      go_simp
      refine hK9.out _ _ g3 (fun _ => ?_)
      clear hK9 K9 cv3a
      (try simp only [Act.put, List.setIfInBounds_toArray, List.set_cons_zero, List.set_cons_succ])
      refine wpAnyH_ready (rs := [13]) (by kernel_rfl) (by simp) ?_
      refine AllReadyH.cons (o := { dst := some 29, op := Op.call { callee := Callee.value (Operand.func 13), args := #[(Operand.tmp 23), (Operand.tmp 25), (Operand.tmp 26), (Operand.tmp 28)], argTypes := #[9, 9, 26, 9] }, type := _, pos := _, after := _, guard := _ }) rfl (fun K9 hK9 => ?_) AllReadyH.nil
      go_simp
      go_at_call 13
      refine (cr _).mono ?_
      rintro e w4 ⟨rfl, g4⟩
      go_wp2_with fail
      refine hK9.out _ _ (tr g3 g4) (fun _ => ?_)
      clear hK9 K9
      (try simp only [Act.put, List.setIfInBounds_toArray, List.set_cons_zero, List.set_cons_succ])
      have g4 := tr g3 g4
      refine wpAnyH_take (i := 14) (oi := { dst := some 30, op := Op.binOp BinOp.eql 9 (Operand.tmp 21) (Operand.tmp 29) 9, type := _, pos := _, after := _, guard := _ }) (v := .bool true) rfl (by kernel_rfl) (by kernel_rfl) (by kernel_rfl) (fun _ _ _ h => h) (Or.inl ⟨by rfl, fun V (hV : W1.grownBy V none) => by go_simp⟩) g4 ?_
      (try simp only [Act.put, List.setIfInBounds_toArray, List.set_cons_zero, List.set_cons_succ])
      refine wpAnyH_take (i := 15) (oi := { dst := some 31, op := Op.move (Operand.tmp 30), type := _, pos := _, after := _, guard := _ }) (v := .bool true) rfl (by kernel_rfl) (by kernel_rfl) (by kernel_rfl) (fun _ _ _ h => h) (Or.inl ⟨by rfl, fun V (hV : W1.grownBy V none) => by go_simp⟩) g4 ?_
      (try simp only [Act.put, List.setIfInBounds_toArray, List.set_cons_zero, List.set_cons_succ])
      refine wpAnyH_ready (rs := [16]) (by kernel_rfl) (by simp) ?_
      refine AllReadyH.cons (o := { dst := some 32, op := Op.call { callee := Callee.value (Operand.func 11), args := #[], argTypes := #[] }, type := _, pos := _, after := _, guard := _ }) rfl (fun K9 hK9 => ?_) AllReadyH.nil
      go_simp
      go_at_call 11
      refine (c1 _ g4).mono ?_
      rintro e w5 ⟨rfl, g5⟩
      go_wp2_with fail
      refine hK9.out _ _ g5 (fun _ => ?_)
      clear hK9 K9
      (try simp only [Act.put, List.setIfInBounds_toArray, List.set_cons_zero, List.set_cons_succ])
      refine wpAnyH_take (i := 17) (oi := { dst := some 33, op := Op.pick (Operand.tmp 31) (Operand.tmp 32) (Operand.const (Value.bool false)), type := _, pos := _, after := _, guard := _ }) (v := .bool true) rfl (by kernel_rfl) (by kernel_rfl) (by kernel_rfl) (fun _ _ _ h => h) (Or.inl ⟨by rfl, fun V (hV : W1.grownBy V none) => by go_simp⟩) g5 ?_
      (try simp only [Act.put, List.setIfInBounds_toArray, List.set_cons_zero, List.set_cons_succ])
      refine wpAnyH_take (i := 18) (oi := { dst := some 6, op := Op.assign (Operand.tmp 33), type := _, pos := _, after := _, guard := _ }) (v := .bool true) rfl (by kernel_rfl) (by kernel_rfl) (by kernel_rfl) (fun _ _ _ h => h) (Or.inl ⟨by rfl, fun V (hV : W1.grownBy V none) => by go_simp⟩) g5 ?_
      (try simp only [Act.put, List.setIfInBounds_toArray, List.set_cons_zero, List.set_cons_succ])
      refine wpAnyH_done (by kernel_rfl) ?_ _
      refine NoPanic.normal ?_
      go_wp2
      go_ret
      exact ⟨rfl, gb_trans (unhide HG1) g5 (fun _ e => by cases e)⟩
    · go_simp
      go_at_call 13
      refine (cr _).mono ?_
      rintro e w4 ⟨rfl, g4⟩
      go_wp2_with fail
      refine hK9.out _ _ (tr g3 g4) (fun _ => ?_)
      clear hK9 K9
      (try simp only [Act.put, List.setIfInBounds_toArray, List.set_cons_zero, List.set_cons_succ])
      have cv3a := cv3 w4 g4
      refine wpAnyH_ready (rs := [5]) (by kernel_rfl) (by simp) ?_
      refine AllReadyH.cons (o := { dst := some 21, op := Op.convert 30 9 (Operand.tmp 20), type := _, pos := _, after := _, guard := _ }) rfl (fun K9 hK9 => ?_) AllReadyH.nil
      go_simp
      refine hK9.out _ _ (tr g3 g4) (fun _ => ?_)
      clear hK9 K9
      (try simp only [Act.put, List.setIfInBounds_toArray, List.set_cons_zero, List.set_cons_succ])
      clear cv3a
      have g4 := tr g3 g4
      refine wpAnyH_take (i := 14) (oi := { dst := some 30, op := Op.binOp BinOp.eql 9 (Operand.tmp 21) (Operand.tmp 29) 9, type := _, pos := _, after := _, guard := _ }) (v := .bool true) rfl (by kernel_rfl) (by kernel_rfl) (by kernel_rfl) (fun _ _ _ h => h) (Or.inl ⟨by rfl, fun V (hV : W1.grownBy V none) => by go_simp⟩) g4 ?_
      (try simp only [Act.put, List.setIfInBounds_toArray, List.set_cons_zero, List.set_cons_succ])
      refine wpAnyH_take (i := 15) (oi := { dst := some 31, op := Op.move (Operand.tmp 30), type := _, pos := _, after := _, guard := _ }) (v := .bool true) rfl (by kernel_rfl) (by kernel_rfl) (by kernel_rfl) (fun _ _ _ h => h) (Or.inl ⟨by rfl, fun V (hV : W1.grownBy V none) => by go_simp⟩) g4 ?_
      (try simp only [Act.put, List.setIfInBounds_toArray, List.set_cons_zero, List.set_cons_succ])
      refine wpAnyH_ready (rs := [16]) (by kernel_rfl) (by simp) ?_
      refine AllReadyH.cons (o := { dst := some 32, op := Op.call { callee := Callee.value (Operand.func 11), args := #[], argTypes := #[] }, type := _, pos := _, after := _, guard := _ }) rfl (fun K9 hK9 => ?_) AllReadyH.nil
      go_simp
      go_at_call 11
      refine (c1 _ g4).mono ?_
      rintro e w5 ⟨rfl, g5⟩
      go_wp2_with fail
      refine hK9.out _ _ g5 (fun _ => ?_)
      clear hK9 K9
      (try simp only [Act.put, List.setIfInBounds_toArray, List.set_cons_zero, List.set_cons_succ])
      refine wpAnyH_take (i := 17) (oi := { dst := some 33, op := Op.pick (Operand.tmp 31) (Operand.tmp 32) (Operand.const (Value.bool false)), type := _, pos := _, after := _, guard := _ }) (v := .bool true) rfl (by kernel_rfl) (by kernel_rfl) (by kernel_rfl) (fun _ _ _ h => h) (Or.inl ⟨by rfl, fun V (hV : W1.grownBy V none) => by go_simp⟩) g5 ?_
      (try simp only [Act.put, List.setIfInBounds_toArray, List.set_cons_zero, List.set_cons_succ])
      refine wpAnyH_take (i := 18) (oi := { dst := some 6, op := Op.assign (Operand.tmp 33), type := _, pos := _, after := _, guard := _ }) (v := .bool true) rfl (by kernel_rfl) (by kernel_rfl) (by kernel_rfl) (fun _ _ _ h => h) (Or.inl ⟨by rfl, fun V (hV : W1.grownBy V none) => by go_simp⟩) g5 ?_
      (try simp only [Act.put, List.setIfInBounds_toArray, List.set_cons_zero, List.set_cons_succ])
      refine wpAnyH_done (by kernel_rfl) ?_ _
      refine NoPanic.normal ?_
      go_wp2
      go_ret
      exact ⟨rfl, gb_trans (unhide HG1) g5 (fun _ e => by cases e)⟩
  · rw [show l.length = L by rw [hL, hl0, List.take_of_length_le (by omega)]]
    have hg : ¬ (600 : Int) < (L : Int) := by omega
    clear hl0 hL hb hlen hfit
    go_enter Tryd.func4, Tryd.ntmps4
    go_wp2
    rw [← unhide HW1]
    refine wp_region_noPanic ?_
    refine wp_region_held_drew (S := fun V => W1.grownBy V none) (by kernel_rfl) h0 (fun _ => ?_)
    refine wpAnyH_take (i := 0) (oi := { dst := some 16, op := Op.load 23 (Operand.tmp 3), type := _, pos := _, after := _, guard := _ }) (v := .agg (k.map bv).toArray) rfl (by kernel_rfl) (by kernel_rfl) (by kernel_rfl) (fun _ _ _ h => h) (yieldsIf_load_mid (by rfl) _ _ rfl _ _ rfl (k.map bv) _ (fun V hV => range_kept hrK hV (by simp)) Tryd.underlying23 rfl hiK) h0 ?_
    (try simp only [Act.put, List.setIfInBounds_toArray, List.set_cons_zero, List.set_cons_succ])
    refine wpAnyH_take (i := 1) (oi := { dst := some 17, op := Op.load 25 (Operand.tmp 7), type := _, pos := _, after := _, guard := _ }) (v := .agg (n0.map bv).toArray) rfl (by kernel_rfl) (by kernel_rfl) (by kernel_rfl) (fun _ _ _ h => h) (yieldsIf_load_mid (by rfl) _ _ rfl _ _ rfl (n0.map bv) _ (fun V hV => range_kept hrN hV (by simp)) Tryd.underlying25 rfl hiN) h0 ?_
    (try simp only [Act.put, List.setIfInBounds_toArray, List.set_cons_zero, List.set_cons_succ])
    refine wpAnyH_take (i := 2) (oi := { dst := some 18, op := Op.move (Operand.tmp 1), type := _, pos := _, after := _, guard := _ }) (v := .int .u32 (wz c)) rfl (by kernel_rfl) (by kernel_rfl) (by kernel_rfl) (fun _ _ _ h => h) (Or.inl ⟨by rfl, fun V (hV : W1.grownBy V none) => by go_simp⟩) h0 ?_
    (try simp only [Act.put, List.setIfInBounds_toArray, List.set_cons_zero, List.set_cons_succ])
    refine wpAnyH_take (i := 3) (oi := { dst := some 19, op := Op.move (Operand.tmp 2), type := _, pos := _, after := _, guard := _ }) (v := .slice ao L cap) rfl (by kernel_rfl) (by kernel_rfl) (by kernel_rfl) (fun _ _ _ h => h) (Or.inl ⟨by rfl, fun V (hV : W1.grownBy V none) => by go_simp⟩) h0 ?_
    (try simp only [Act.put, List.setIfInBounds_toArray, List.set_cons_zero, List.set_cons_succ])
    refine wpAnyH_take (i := 6) (oi := { dst := some 22, op := Op.slice 23 (Operand.tmp 3) none none none, type := _, pos := _, after := _, guard := _ }) (v := .slice (some ⟨w.heap.size, 0, none⟩) 32 32) rfl (by kernel_rfl) (by kernel_rfl) (by kernel_rfl) (fun _ _ _ h => h) (Or.inl ⟨by rfl, fun V (hV : W1.grownBy V none) => by go_simp⟩) h0 ?_
    (try simp only [Act.put, List.setIfInBounds_toArray, List.set_cons_zero, List.set_cons_succ])
    refine wpAnyH_take (i := 7) (oi := { dst := some 23, op := Op.convert 30 9 (Operand.tmp 22), type := _, pos := _, after := _, guard := _ }) (v := .string (str k)) rfl (by kernel_rfl) (by kernel_rfl) (by kernel_rfl) (fun _ _ _ h => h) (Or.inl ⟨by rfl, fun V (hV : W1.grownBy V none) => by go_simp⟩) h0 ?_
    (try simp only [Act.put, List.setIfInBounds_toArray, List.set_cons_zero, List.set_cons_succ])
    refine wpAnyH_take (i := 8) (oi := { dst := some 24, op := Op.slice 25 (Operand.tmp 7) none none none, type := _, pos := _, after := _, guard := _ }) (v := .slice (some ⟨w.heap.size + 1, 0, none⟩) 12 12) rfl (by kernel_rfl) (by kernel_rfl) (by kernel_rfl) (fun _ _ _ h => h) (Or.inl ⟨by rfl, fun V (hV : W1.grownBy V none) => by go_simp⟩) h0 ?_
    (try simp only [Act.put, List.setIfInBounds_toArray, List.set_cons_zero, List.set_cons_succ])
    refine wpAnyH_take (i := 9) (oi := { dst := some 25, op := Op.convert 30 9 (Operand.tmp 24), type := _, pos := _, after := _, guard := _ }) (v := .string (str n0)) rfl (by kernel_rfl) (by kernel_rfl) (by kernel_rfl) (fun _ _ _ h => h) (Or.inl ⟨by rfl, fun V (hV : W1.grownBy V none) => by go_simp⟩) h0 ?_
    (try simp only [Act.put, List.setIfInBounds_toArray, List.set_cons_zero, List.set_cons_succ])
    refine wpAnyH_take (i := 10) (oi := { dst := some 26, op := Op.move (Operand.tmp 1), type := _, pos := _, after := _, guard := _ }) (v := .int .u32 (wz c)) rfl (by kernel_rfl) (by kernel_rfl) (by kernel_rfl) (fun _ _ _ h => h) (Or.inl ⟨by rfl, fun V (hV : W1.grownBy V none) => by go_simp⟩) h0 ?_
    (try simp only [Act.put, List.setIfInBounds_toArray, List.set_cons_zero, List.set_cons_succ])
    refine wpAnyH_take (i := 11) (oi := { dst := some 27, op := Op.move (Operand.tmp 2), type := _, pos := _, after := _, guard := _ }) (v := .slice ao L cap) rfl (by kernel_rfl) (by kernel_rfl) (by kernel_rfl) (fun _ _ _ h => h) (Or.inl ⟨by rfl, fun V (hV : W1.grownBy V none) => by go_simp⟩) h0 ?_
    (try simp only [Act.put, List.setIfInBounds_toArray, List.set_cons_zero, List.set_cons_succ])
    refine wpAnyH_take (i := 12) (oi := { dst := some 28, op := Op.convert 30 9 (Operand.tmp 27), type := _, pos := _, after := _, guard := _ }) (v := .string (str l0)) rfl (by kernel_rfl) (by kernel_rfl) (by kernel_rfl) (fun _ _ _ h => h) (Or.inl ⟨by rfl, fun V (hV : W1.grownBy V none) => by go_simp⟩) h0 ?_
    (try simp only [Act.put, List.setIfInBounds_toArray, List.set_cons_zero, List.set_cons_succ])
    refine wpAnyH_ready (rs := [4]) (by kernel_rfl) (by simp) ?_
    refine AllReadyH.cons (o := { dst := some 20, op := Op.call { callee := Callee.value (Operand.func 12), args := #[(Operand.tmp 16), (Operand.tmp 17), (Operand.tmp 18), (Operand.tmp 19)], argTypes := #[23, 25, 26, 30] }, type := _, pos := _, after := _, guard := _ }) rfl (fun K9 hK9 => ?_) AllReadyH.nil
    go_simp
    go_at_call 12
    refine (cs _ h0).mono ?_
    rintro e w3 ⟨N3, rfl, cv3, g3⟩
    go_wp2_with fail
    refine hK9.out _ _ g3 (fun _ => ?_)
    clear hK9 K9
    (try simp only [Act.put, List.setIfInBounds_toArray, List.set_cons_zero, List.set_cons_succ])
    refine wpAnyH_ready (rs := [5, 13]) (by kernel_rfl) (by simp) ?_
    refine AllReadyH.cons (o := { dst := some 21, op := Op.convert 30 9 (Operand.tmp 20), type := _, pos := _, after := _, guard := _ }) rfl (fun K9 hK9 => ?_) (AllReadyH.cons (o := { dst := some 29, op := Op.call { callee := Callee.value (Operand.func 13), args := #[(Operand.tmp 23), (Operand.tmp 25), (Operand.tmp 26), (Operand.tmp 28)], argTypes := #[9, 9, 26, 9] }, type := _, pos := _, after := _, guard := _ }) rfl (fun K9 hK9 => ?_) AllReadyH.nil)
    · have cv3a := cv3 w3 (gb_refl _ _)
      go_simp
      refine hK9.out _ _ g3 (fun _ => ?_)
      clear hK9 K9 cv3a
      (try simp only [Act.put, List.setIfInBounds_toArray, List.set_cons_zero, List.set_cons_succ])
      refine wpAnyH_ready (rs := [13]) (by kernel_rfl) (by simp) ?_
      refine AllReadyH.cons (o := { dst := some 29, op := Op.call { callee := Callee.value (Operand.func 13), args := #[(Operand.tmp 23), (Operand.tmp 25), (Operand.tmp 26), (Operand.tmp 28)], argTypes := #[9, 9, 26, 9] }, type := _, pos := _, after := _, guard := _ }) rfl (fun K9 hK9 => ?_) AllReadyH.nil
      go_simp
      go_at_call 13
      refine (cr _).mono ?_
      rintro e w4 ⟨rfl, g4⟩
      go_wp2_with fail
      refine hK9.out _ _ (tr g3 g4) (fun _ => ?_)
      clear hK9 K9
      (try simp only [Act.put, List.setIfInBounds_toArray, List.set_cons_zero, List.set_cons_succ])
      have g4 := tr g3 g4
      refine wpAnyH_take (i := 14) (oi := { dst := some 30, op := Op.binOp BinOp.eql 9 (Operand.tmp 21) (Operand.tmp 29) 9, type := _, pos := _, after := _, guard := _ }) (v := .bool true) rfl (by kernel_rfl) (by kernel_rfl) (by kernel_rfl) (fun _ _ _ h => h) (Or.inl ⟨by rfl, fun V (hV : W1.grownBy V none) => by go_simp⟩) g4 ?_
      (try simp only [Act.put, List.setIfInBounds_toArray, List.set_cons_zero, List.set_cons_succ])
      refine wpAnyH_take (i := 15) (oi := { dst := some 31, op := Op.move (Operand.tmp 30), type := _, pos := _, after := _, guard := _ }) (v := .bool true) rfl (by kernel_rfl) (by kernel_rfl) (by kernel_rfl) (fun _ _ _ h => h) (Or.inl ⟨by rfl, fun V (hV : W1.grownBy V none) => by go_simp⟩) g4 ?_
      (try simp only [Act.put, List.setIfInBounds_toArray, List.set_cons_zero, List.set_cons_succ])
      refine wpAnyH_ready (rs := [16]) (by kernel_rfl) (by simp) ?_
      refine AllReadyH.cons (o := { dst := some 32, op := Op.call { callee := Callee.value (Operand.func 11), args := #[], argTypes := #[] }, type := _, pos := _, after := _, guard := _ }) rfl (fun K9 hK9 => ?_) AllReadyH.nil
      go_simp
      go_at_call 11
      refine (c1 _ g4).mono ?_
      rintro e w5 ⟨rfl, g5⟩
      go_wp2_with fail
      refine hK9.out _ _ g5 (fun _ => ?_)
      clear hK9 K9
      (try simp only [Act.put, List.setIfInBounds_toArray, List.set_cons_zero, List.set_cons_succ])
      refine wpAnyH_take (i := 17) (oi := { dst := some 33, op := Op.pick (Operand.tmp 31) (Operand.tmp 32) (Operand.const (Value.bool false)), type := _, pos := _, after := _, guard := _ }) (v := .bool true) rfl (by kernel_rfl) (by kernel_rfl) (by kernel_rfl) (fun _ _ _ h => h) (Or.inl ⟨by rfl, fun V (hV : W1.grownBy V none) => by go_simp⟩) g5 ?_
      (try simp only [Act.put, List.setIfInBounds_toArray, List.set_cons_zero, List.set_cons_succ])
      refine wpAnyH_take (i := 18) (oi := { dst := some 6, op := Op.assign (Operand.tmp 33), type := _, pos := _, after := _, guard := _ }) (v := .bool true) rfl (by kernel_rfl) (by kernel_rfl) (by kernel_rfl) (fun _ _ _ h => h) (Or.inl ⟨by rfl, fun V (hV : W1.grownBy V none) => by go_simp⟩) g5 ?_
      (try simp only [Act.put, List.setIfInBounds_toArray, List.set_cons_zero, List.set_cons_succ])
      refine wpAnyH_done (by kernel_rfl) ?_ _
      refine NoPanic.normal ?_
      go_wp2
      go_ret
      exact ⟨rfl, gb_trans (unhide HG1) g5 (fun _ e => by cases e)⟩
    · go_simp
      go_at_call 13
      refine (cr _).mono ?_
      rintro e w4 ⟨rfl, g4⟩
      go_wp2_with fail
      refine hK9.out _ _ (tr g3 g4) (fun _ => ?_)
      clear hK9 K9
      (try simp only [Act.put, List.setIfInBounds_toArray, List.set_cons_zero, List.set_cons_succ])
      have cv3a := cv3 w4 g4
      refine wpAnyH_ready (rs := [5]) (by kernel_rfl) (by simp) ?_
      refine AllReadyH.cons (o := { dst := some 21, op := Op.convert 30 9 (Operand.tmp 20), type := _, pos := _, after := _, guard := _ }) rfl (fun K9 hK9 => ?_) AllReadyH.nil
      go_simp
      refine hK9.out _ _ (tr g3 g4) (fun _ => ?_)
      clear hK9 K9
      (try simp only [Act.put, List.setIfInBounds_toArray, List.set_cons_zero, List.set_cons_succ])
      clear cv3a
      have g4 := tr g3 g4
      refine wpAnyH_take (i := 14) (oi := { dst := some 30, op := Op.binOp BinOp.eql 9 (Operand.tmp 21) (Operand.tmp 29) 9, type := _, pos := _, after := _, guard := _ }) (v := .bool true) rfl (by kernel_rfl) (by kernel_rfl) (by kernel_rfl) (fun _ _ _ h => h) (Or.inl ⟨by rfl, fun V (hV : W1.grownBy V none) => by go_simp⟩) g4 ?_
      (try simp only [Act.put, List.setIfInBounds_toArray, List.set_cons_zero, List.set_cons_succ])
      refine wpAnyH_take (i := 15) (oi := { dst := some 31, op := Op.move (Operand.tmp 30), type := _, pos := _, after := _, guard := _ }) (v := .bool true) rfl (by kernel_rfl) (by kernel_rfl) (by kernel_rfl) (fun _ _ _ h => h) (Or.inl ⟨by rfl, fun V (hV : W1.grownBy V none) => by go_simp⟩) g4 ?_
      (try simp only [Act.put, List.setIfInBounds_toArray, List.set_cons_zero, List.set_cons_succ])
      refine wpAnyH_ready (rs := [16]) (by kernel_rfl) (by simp) ?_
      refine AllReadyH.cons (o := { dst := some 32, op := Op.call { callee := Callee.value (Operand.func 11), args := #[], argTypes := #[] }, type := _, pos := _, after := _, guard := _ }) rfl (fun K9 hK9 => ?_) AllReadyH.nil
      go_simp
      go_at_call 11
      refine (c1 _ g4).mono ?_
      rintro e w5 ⟨rfl, g5⟩
      go_wp2_with fail
      refine hK9.out _ _ g5 (fun _ => ?_)
      clear hK9 K9
      (try simp only [Act.put, List.setIfInBounds_toArray, List.set_cons_zero, List.set_cons_succ])
      refine wpAnyH_take (i := 17) (oi := { dst := some 33, op := Op.pick (Operand.tmp 31) (Operand.tmp 32) (Operand.const (Value.bool false)), type := _, pos := _, after := _, guard := _ }) (v := .bool true) rfl (by kernel_rfl) (by kernel_rfl) (by kernel_rfl) (fun _ _ _ h => h) (Or.inl ⟨by rfl, fun V (hV : W1.grownBy V none) => by go_simp⟩) g5 ?_
      (try simp only [Act.put, List.setIfInBounds_toArray, List.set_cons_zero, List.set_cons_succ])
      refine wpAnyH_take (i := 18) (oi := { dst := some 6, op := Op.assign (Operand.tmp 33), type := _, pos := _, after := _, guard := _ }) (v := .bool true) rfl (by kernel_rfl) (by kernel_rfl) (by kernel_rfl) (fun _ _ _ h => h) (Or.inl ⟨by rfl, fun V (hV : W1.grownBy V none) => by go_simp⟩) g5 ?_
      (try simp only [Act.put, List.setIfInBounds_toArray, List.set_cons_zero, List.set_cons_succ])
      refine wpAnyH_done (by kernel_rfl) ?_ _
      refine NoPanic.normal ?_
      go_wp2
      go_ret
      exact ⟨rfl, gb_trans (unhide HG1) g5 (fun _ e => by cases e)⟩

end Go.Proofs.YtikdpifacokfpaaDoor
