/- What the document's answer for layer 6 (package coffretref06) seals and opens (Seal, Open). No condition but that the key has 32 bytes, the nonce 12, what is beside at most 2000 bytes, and the text at most 1000. -/
import Derived.Test.YtjckdgapefaokaaDoorARefT
import Derived.Test.YtjckdgapefaokaaDoorCRefS
namespace Go.Proofs.YtjckdgapefaokaaDoor
open Go.RowKit

set_option maxRecDepth 100000 in
set_option maxHeartbeats 1000000 in
theorem rseal6_any (w : World) (k n be t : List UInt8) (hk : k.length = 32) (hn : n.length = 12) (hbe : be.length ≤ 2000) (ht : t.length ≤ 1000) :
    Calls Tryd.prog 31 #[.string (str k), .string (str n), .string (str be), .string (str t)] w fun e w' => e = .returned (.string (str (sealL k n be t))) ∧ w.grownBy w' none := by
  have hst := rstream_any w k n 1 hk hn t ht
  rw [show wz 1 = 1 from rfl] at hst
  have htg : ∀ V, Calls Tryd.prog 46 #[.string (str k), .string (str n), .string (str be), .string (str (streamL k n 1 t))] V fun e w' => e = .returned (.string (str (tagA k n be (streamL k n 1 t)))) ∧ V.grownBy w' none := fun V =>
    rtag6_any V k n be (streamL k n 1 t) hk hn hbe (by rw [streamL_length]; omega)
  obtain ⟨S, hS⟩ : ∃ S, S = str (streamL k n 1 t) := ⟨_, rfl⟩
  obtain ⟨G, hG⟩ : ∃ G, G = str (tagA k n be (streamL k n 1 t)) := ⟨_, rfl⟩
  rw [← hS] at hst
  rw [← hS, ← hG] at htg
  obtain ⟨m, hm⟩ : ∃ m, m = t.length := ⟨_, rfl⟩
  have z1 : S.size = m := by rw [hS, str_size, streamL_length, hm]
  have z2 : G.size = 16 := by rw [hG, str_size, tagA_length]
  have c1 : ¬ 9223372036854775807 < m + 16 := by omega
  have hap : S ++ G = str (sealL k n be t) := by rw [hS, hG, str_app, sealL]
  rw [← hap]
  clear hap hS hG hm
  go_enter Tryd.func31, Tryd.ntmps31
  go_wp2_with (first
    | (go_at_call 45; refine hst.mono ?_; rintro e w2 ⟨rfl, g2⟩; clear hst)
    | (go_at_call 46; refine (htg _).mono ?_; rintro e w3 ⟨rfl, g3⟩))
  go_ret
  exact ⟨rfl, gb_trans g2 g3 (fun _ e => by cases e)⟩

set_option maxRecDepth 100000 in
set_option maxHeartbeats 2000000 in
theorem ropen6_any (w : World) (k n be y : List UInt8) (hk : k.length = 32) (hn : n.length = 12) (hbe : be.length ≤ 2000) (hy : y.length ≤ 1000) :
    Calls Tryd.prog 34 #[.string (str k), .string (str n), .string (str be), .string (str y)] w fun e w' => e = .returned (.tuple #[.string (str (openL k n be y)), .bool (openB k n be y)]) ∧ w.grownBy w' none := by
  obtain ⟨m, hm⟩ : ∃ m, m = y.length := ⟨_, rfl⟩
  obtain ⟨Y, hY⟩ : ∃ Y, Y = str y := ⟨_, rfl⟩
  have z1 : Y.size = m := by rw [hY, str_size, hm]
  have hw : ∀ x : Int, IntKind.i64.wrap ((m : Int) - 16) = (m : Int) - 16 := fun _ => by rw [IntKind.wrap_i64]; omega
  have hs0 : str [] = { data := #[] } := rfl
  rw [← hY]
  by_cases h16 : m < 16
  · have ho := open_short k n be y (by omega)
    rw [openL_no ho, ho, hs0]
    have q1 : (m : Int) - 16 < 0 := by omega
    have q2 : (m : Int) < 16 := by omega
    have hh : decide ((m : Int) - 16 < 0) = true := decide_eq_true q1
    clear hm hY ho hs0
    go_enter Tryd.func34, Tryd.ntmps34
    go_upto_region 2 with fail
    have h0 : w.grownBy w.drew none := gb_drew (gb_refl _ _)
    refine wp_region_noPanic ?_
    refine wp_region_held_drew (S := fun V => w.grownBy V none) (by kernel_rfl) h0 (fun _ => ?_)
    refine wpAnyH_take (i := 0) (oi := { dst := some 14, op := Op.move (Operand.tmp 10), type := _, pos := _, after := _, guard := _ }) (v := .int .i64 ((m : Int) - 16)) rfl (by kernel_rfl) (by kernel_rfl) (by kernel_rfl) (fun _ _ _ h => h) (Or.inl ⟨by rfl, fun V (hV : w.grownBy V none) => by go_simp⟩) h0 ?_
    (try simp only [Act.put, List.setIfInBounds_toArray, List.set_cons_zero, List.set_cons_succ])
    refine wpAnyH_take (i := 1) (oi := { dst := some 15, op := Op.binOp BinOp.lss 3 (Operand.tmp 14) (Operand.const (Value.int IntKind.i64 0)) 3, type := _, pos := _, after := _, guard := _ }) (v := .bool true) rfl (by kernel_rfl) (by kernel_rfl) (by kernel_rfl) (fun _ _ _ h => h) (Or.inl ⟨by rfl, fun V (hV : w.grownBy V none) => by go_simp⟩) h0 ?_
    (try simp only [Act.put, List.setIfInBounds_toArray, List.set_cons_zero, List.set_cons_succ])
    refine wpAnyH_take (i := 2) (oi := { dst := some 16, op := Op.move (Operand.tmp 15), type := _, pos := _, after := _, guard := _ }) (v := .bool true) rfl (by kernel_rfl) (by kernel_rfl) (by kernel_rfl) (fun _ _ _ h => h) (Or.inl ⟨by rfl, fun V (hV : w.grownBy V none) => by go_simp⟩) h0 ?_
    (try simp only [Act.put, List.setIfInBounds_toArray, List.set_cons_zero, List.set_cons_succ])
    refine wpAnyH_take (i := 3) (oi := { dst := some 17, op := Op.move (Operand.tmp 0), type := _, pos := _, after := _, guard := _ }) (v := undef) rfl (by kernel_rfl) (by kernel_rfl) (by kernel_rfl) (fun _ _ _ h => h) (Or.inr ⟨by rfl, rfl⟩) h0 ?_
    (try simp only [Act.put, List.setIfInBounds_toArray, List.set_cons_zero, List.set_cons_succ])
    refine wpAnyH_take (i := 4) (oi := { dst := some 18, op := Op.move (Operand.tmp 1), type := _, pos := _, after := _, guard := _ }) (v := undef) rfl (by kernel_rfl) (by kernel_rfl) (by kernel_rfl) (fun _ _ _ h => h) (Or.inr ⟨by rfl, rfl⟩) h0 ?_
    (try simp only [Act.put, List.setIfInBounds_toArray, List.set_cons_zero, List.set_cons_succ])
    refine wpAnyH_take (i := 5) (oi := { dst := some 19, op := Op.move (Operand.tmp 2), type := _, pos := _, after := _, guard := _ }) (v := undef) rfl (by kernel_rfl) (by kernel_rfl) (by kernel_rfl) (fun _ _ _ h => h) (Or.inr ⟨by rfl, rfl⟩) h0 ?_
    (try simp only [Act.put, List.setIfInBounds_toArray, List.set_cons_zero, List.set_cons_succ])
    refine wpAnyH_take (i := 6) (oi := { dst := some 20, op := Op.move (Operand.tmp 3), type := _, pos := _, after := _, guard := _ }) (v := undef) rfl (by kernel_rfl) (by kernel_rfl) (by kernel_rfl) (fun _ _ _ h => h) (Or.inr ⟨by rfl, rfl⟩) h0 ?_
    (try simp only [Act.put, List.setIfInBounds_toArray, List.set_cons_zero, List.set_cons_succ])
    refine wpAnyH_take (i := 7) (oi := { dst := some 21, op := Op.move (Operand.tmp 10), type := _, pos := _, after := _, guard := _ }) (v := undef) rfl (by kernel_rfl) (by kernel_rfl) (by kernel_rfl) (fun _ _ _ h => h) (Or.inr ⟨by rfl, rfl⟩) h0 ?_
    (try simp only [Act.put, List.setIfInBounds_toArray, List.set_cons_zero, List.set_cons_succ])
    refine wpAnyH_take (i := 8) (oi := { dst := some 22, op := Op.slice 9 (Operand.tmp 20) none (some (Operand.tmp 21)) none, type := _, pos := _, after := _, guard := _ }) (v := undef) rfl (by kernel_rfl) (by kernel_rfl) (by kernel_rfl) (fun _ _ _ h => h) (Or.inr ⟨by rfl, rfl⟩) h0 ?_
    (try simp only [Act.put, List.setIfInBounds_toArray, List.set_cons_zero, List.set_cons_succ])
    refine wpAnyH_take (i := 9) (oi := { dst := some 23, op := Op.call { callee := Callee.value (Operand.func 46), args := #[(Operand.tmp 17), (Operand.tmp 18), (Operand.tmp 19), (Operand.tmp 22)], argTypes := #[9, 9, 9, 9] }, type := _, pos := _, after := _, guard := _ }) (v := undef) rfl (by kernel_rfl) (by kernel_rfl) (by kernel_rfl) (fun _ _ _ h => h) (Or.inr ⟨by rfl, rfl⟩) h0 ?_
    (try simp only [Act.put, List.setIfInBounds_toArray, List.set_cons_zero, List.set_cons_succ])
    refine wpAnyH_take (i := 10) (oi := { dst := some 24, op := Op.move (Operand.tmp 3), type := _, pos := _, after := _, guard := _ }) (v := undef) rfl (by kernel_rfl) (by kernel_rfl) (by kernel_rfl) (fun _ _ _ h => h) (Or.inr ⟨by rfl, rfl⟩) h0 ?_
    (try simp only [Act.put, List.setIfInBounds_toArray, List.set_cons_zero, List.set_cons_succ])
    refine wpAnyH_take (i := 11) (oi := { dst := some 25, op := Op.move (Operand.tmp 10), type := _, pos := _, after := _, guard := _ }) (v := undef) rfl (by kernel_rfl) (by kernel_rfl) (by kernel_rfl) (fun _ _ _ h => h) (Or.inr ⟨by rfl, rfl⟩) h0 ?_
    (try simp only [Act.put, List.setIfInBounds_toArray, List.set_cons_zero, List.set_cons_succ])
    refine wpAnyH_take (i := 12) (oi := { dst := some 26, op := Op.slice 9 (Operand.tmp 24) (some (Operand.tmp 25)) none none, type := _, pos := _, after := _, guard := _ }) (v := undef) rfl (by kernel_rfl) (by kernel_rfl) (by kernel_rfl) (fun _ _ _ h => h) (Or.inr ⟨by rfl, rfl⟩) h0 ?_
    (try simp only [Act.put, List.setIfInBounds_toArray, List.set_cons_zero, List.set_cons_succ])
    refine wpAnyH_take (i := 13) (oi := { dst := some 27, op := Op.binOp BinOp.neq 9 (Operand.tmp 23) (Operand.tmp 26) 9, type := _, pos := _, after := _, guard := _ }) (v := undef) rfl (by kernel_rfl) (by kernel_rfl) (by kernel_rfl) (fun _ _ _ h => h) (Or.inr ⟨by rfl, rfl⟩) h0 ?_
    (try simp only [Act.put, List.setIfInBounds_toArray, List.set_cons_zero, List.set_cons_succ])
    refine wpAnyH_take (i := 14) (oi := { dst := some 28, op := Op.pick (Operand.tmp 16) (Operand.const (Value.bool true)) (Operand.tmp 27), type := _, pos := _, after := _, guard := _ }) (v := .bool true) rfl (by kernel_rfl) (by kernel_rfl) (by kernel_rfl) (fun _ _ _ h => h) (Or.inl ⟨by rfl, fun V (hV : w.grownBy V none) => by go_simp⟩) h0 ?_
    (try simp only [Act.put, List.setIfInBounds_toArray, List.set_cons_zero, List.set_cons_succ])
    refine wpAnyH_done (by kernel_rfl) ?_ _
    refine NoPanic.normal ?_
    go_wp2
    refine bodyPost_ret (results_tmp2 rfl _ _ _) rfl ⟨rfl, h0⟩
  · obtain ⟨a, ha⟩ : ∃ a, a = m - 16 := ⟨_, rfl⟩
    have q0 : (m : Int) - 16 = (a : Int) := by omega
    have q1 : ¬ (a : Int) < 0 := by omega
    have q2 : (0 : Int) ≤ (a : Int) := by omega
    have q3 : IntKind.i64.wrap (a : Int) = (a : Int) := by rw [IntKind.wrap_i64]; omega
    obtain ⟨P, hP⟩ : ∃ P, P = str (y.take a) := ⟨_, rfl⟩
    obtain ⟨Q, hQ⟩ : ∃ Q, Q = str (y.drop a) := ⟨_, rfl⟩
    obtain ⟨G, hG⟩ : ∃ G, G = str (tagA k n be (y.take a)) := ⟨_, rfl⟩
    have sl1 : ∀ W, (Instr.slice 9 (.string Y) none (some (.int .i64 (a : Int))) none).run Tryd.prog W = .ok (.string P) W := fun W => by
      rw [run_slice_string_h W 9 _ Tryd.underlying9 .i64 (a : Int) (by omega) (by rw [z1]; omega), Int.toNat_natCast, hY, str_cut, hP, List.drop_zero, Nat.sub_zero]
    have sl2 : ∀ W, (Instr.slice 9 (.string Y) (some (.int .i64 (a : Int))) none none).run Tryd.prog W = .ok (.string Q) W := fun W => by
      rw [run_slice_string_l W 9 _ Tryd.underlying9 .i64 (a : Int) (by omega) (by rw [z1]; omega), Int.toNat_natCast, hY, str_size, str_cut, hQ, List.take_of_length_le (by rw [List.length_drop]; omega)]
    have htg : ∀ V, Calls Tryd.prog 46 #[.string (str k), .string (str n), .string (str be), .string P] V fun e w' => e = .returned (.string G) ∧ V.grownBy w' none := fun V => by
      rw [hP, hG]; exact rtag6_any V k n be (y.take a) hk hn hbe (by rw [List.length_take]; omega)
    have hst : ∀ V, Calls Tryd.prog 45 #[.string (str k), .string (str n), .int .u32 1, .string P] V fun e w' => e = .returned (.string (str (streamL k n 1 (y.take a)))) ∧ V.grownBy w' none := fun V => by
      rw [hP]
      have := rstream_any V k n 1 hk hn (y.take a) (by rw [List.length_take]; omega)
      rw [show wz 1 = 1 from rfl] at this
      exact this
    have h0 : w.grownBy w.drew none := gb_drew (gb_refl _ _)
    have hoe : openB k n be y = (tagA k n be (y.take a) == y.drop a) := by
      rw [openB, ← hm, ← ha, decide_eq_true (show 16 ≤ m by omega), Bool.true_and]
    by_cases hT : tagA k n be (y.take a) = y.drop a
    · have hGL : G.toList = Q.toList := by rw [hG, hQ, hT]
      have hob : openB k n be y = true := by rw [hoe, hT]; simp
      have hol : openL k n be y = streamL k n 1 (y.take a) := by rw [openL, if_pos hob, ← hm, ← ha]
      rw [hol, hob]
      clear hT hoe hob hol hP hQ hG hY hm ha
      go_enter Tryd.func34, Tryd.ntmps34
      go_upto_region 2 with fail
      refine wp_region_noPanic ?_
      refine wp_region_held_drew (S := fun V => w.grownBy V none) (by kernel_rfl) h0 (fun _ => ?_)
      refine wpAnyH_take (i := 0) (oi := { dst := some 14, op := Op.move (Operand.tmp 10), type := _, pos := _, after := _, guard := _ }) (v := .int .i64 (a : Int)) rfl (by kernel_rfl) (by kernel_rfl) (by kernel_rfl) (fun _ _ _ h => h) (Or.inl ⟨by rfl, fun V (hV : w.grownBy V none) => by go_simp⟩) h0 ?_
      (try simp only [Act.put, List.setIfInBounds_toArray, List.set_cons_zero, List.set_cons_succ])
      refine wpAnyH_take (i := 1) (oi := { dst := some 15, op := Op.binOp BinOp.lss 3 (Operand.tmp 14) (Operand.const (Value.int IntKind.i64 0)) 3, type := _, pos := _, after := _, guard := _ }) (v := .bool false) rfl (by kernel_rfl) (by kernel_rfl) (by kernel_rfl) (fun _ _ _ h => h) (Or.inl ⟨by rfl, fun V (hV : w.grownBy V none) => by go_simp⟩) h0 ?_
      (try simp only [Act.put, List.setIfInBounds_toArray, List.set_cons_zero, List.set_cons_succ])
      refine wpAnyH_take (i := 2) (oi := { dst := some 16, op := Op.move (Operand.tmp 15), type := _, pos := _, after := _, guard := _ }) (v := .bool false) rfl (by kernel_rfl) (by kernel_rfl) (by kernel_rfl) (fun _ _ _ h => h) (Or.inl ⟨by rfl, fun V (hV : w.grownBy V none) => by go_simp⟩) h0 ?_
      (try simp only [Act.put, List.setIfInBounds_toArray, List.set_cons_zero, List.set_cons_succ])
      refine wpAnyH_take (i := 3) (oi := { dst := some 17, op := Op.move (Operand.tmp 0), type := _, pos := _, after := _, guard := _ }) (v := .string (str k)) rfl (by kernel_rfl) (by kernel_rfl) (by kernel_rfl) (fun _ _ _ h => h) (Or.inl ⟨by rfl, fun V (hV : w.grownBy V none) => by go_simp⟩) h0 ?_
      (try simp only [Act.put, List.setIfInBounds_toArray, List.set_cons_zero, List.set_cons_succ])
      refine wpAnyH_take (i := 4) (oi := { dst := some 18, op := Op.move (Operand.tmp 1), type := _, pos := _, after := _, guard := _ }) (v := .string (str n)) rfl (by kernel_rfl) (by kernel_rfl) (by kernel_rfl) (fun _ _ _ h => h) (Or.inl ⟨by rfl, fun V (hV : w.grownBy V none) => by go_simp⟩) h0 ?_
      (try simp only [Act.put, List.setIfInBounds_toArray, List.set_cons_zero, List.set_cons_succ])
      refine wpAnyH_take (i := 5) (oi := { dst := some 19, op := Op.move (Operand.tmp 2), type := _, pos := _, after := _, guard := _ }) (v := .string (str be)) rfl (by kernel_rfl) (by kernel_rfl) (by kernel_rfl) (fun _ _ _ h => h) (Or.inl ⟨by rfl, fun V (hV : w.grownBy V none) => by go_simp⟩) h0 ?_
      (try simp only [Act.put, List.setIfInBounds_toArray, List.set_cons_zero, List.set_cons_succ])
      refine wpAnyH_take (i := 6) (oi := { dst := some 20, op := Op.move (Operand.tmp 3), type := _, pos := _, after := _, guard := _ }) (v := .string Y) rfl (by kernel_rfl) (by kernel_rfl) (by kernel_rfl) (fun _ _ _ h => h) (Or.inl ⟨by rfl, fun V (hV : w.grownBy V none) => by go_simp⟩) h0 ?_
      (try simp only [Act.put, List.setIfInBounds_toArray, List.set_cons_zero, List.set_cons_succ])
      refine wpAnyH_take (i := 7) (oi := { dst := some 21, op := Op.move (Operand.tmp 10), type := _, pos := _, after := _, guard := _ }) (v := .int .i64 (a : Int)) rfl (by kernel_rfl) (by kernel_rfl) (by kernel_rfl) (fun _ _ _ h => h) (Or.inl ⟨by rfl, fun V (hV : w.grownBy V none) => by go_simp⟩) h0 ?_
      (try simp only [Act.put, List.setIfInBounds_toArray, List.set_cons_zero, List.set_cons_succ])
      refine wpAnyH_take (i := 8) (oi := { dst := some 22, op := Op.slice 9 (Operand.tmp 20) none (some (Operand.tmp 21)) none, type := _, pos := _, after := _, guard := _ }) (v := .string P) rfl (by kernel_rfl) (by kernel_rfl) (by kernel_rfl) (fun _ _ _ h => h) (Or.inl ⟨by rfl, fun V (hV : w.grownBy V none) => by go_simp⟩) h0 ?_
      (try simp only [Act.put, List.setIfInBounds_toArray, List.set_cons_zero, List.set_cons_succ])
      refine wpAnyH_take (i := 10) (oi := { dst := some 24, op := Op.move (Operand.tmp 3), type := _, pos := _, after := _, guard := _ }) (v := .string Y) rfl (by kernel_rfl) (by kernel_rfl) (by kernel_rfl) (fun _ _ _ h => h) (Or.inl ⟨by rfl, fun V (hV : w.grownBy V none) => by go_simp⟩) h0 ?_
      (try simp only [Act.put, List.setIfInBounds_toArray, List.set_cons_zero, List.set_cons_succ])
      refine wpAnyH_take (i := 11) (oi := { dst := some 25, op := Op.move (Operand.tmp 10), type := _, pos := _, after := _, guard := _ }) (v := .int .i64 (a : Int)) rfl (by kernel_rfl) (by kernel_rfl) (by kernel_rfl) (fun _ _ _ h => h) (Or.inl ⟨by rfl, fun V (hV : w.grownBy V none) => by go_simp⟩) h0 ?_
      (try simp only [Act.put, List.setIfInBounds_toArray, List.set_cons_zero, List.set_cons_succ])
      refine wpAnyH_take (i := 12) (oi := { dst := some 26, op := Op.slice 9 (Operand.tmp 24) (some (Operand.tmp 25)) none none, type := _, pos := _, after := _, guard := _ }) (v := .string Q) rfl (by kernel_rfl) (by kernel_rfl) (by kernel_rfl) (fun _ _ _ h => h) (Or.inl ⟨by rfl, fun V (hV : w.grownBy V none) => by go_simp⟩) h0 ?_
      (try simp only [Act.put, List.setIfInBounds_toArray, List.set_cons_zero, List.set_cons_succ])
      refine wpAnyH_ready (rs := [9]) (by kernel_rfl) (by simp) ?_
      refine AllReadyH.cons (o := { dst := some 23, op := Op.call { callee := Callee.value (Operand.func 46), args := #[(Operand.tmp 17), (Operand.tmp 18), (Operand.tmp 19), (Operand.tmp 22)], argTypes := #[9, 9, 9, 9] }, type := _, pos := _, after := _, guard := _ }) rfl (fun K9 hK9 => ?_) AllReadyH.nil
      go_simp
      go_at_call 46
      refine (htg _).mono ?_
      rintro e w2 ⟨rfl, g2⟩
      go_wp2_with fail
      refine hK9.out _ _ (gb_trans h0 g2 (fun _ e => by cases e)) (fun _ => ?_)
      clear hK9 K9
      (try simp only [Act.put, List.setIfInBounds_toArray, List.set_cons_zero, List.set_cons_succ])
      have G2 := gb_trans h0 g2 (fun _ e => by cases e)
      refine wpAnyH_take (i := 13) (oi := { dst := some 27, op := Op.binOp BinOp.neq 9 (Operand.tmp 23) (Operand.tmp 26) 9, type := _, pos := _, after := _, guard := _ }) (v := .bool false) rfl (by kernel_rfl) (by kernel_rfl) (by kernel_rfl) (fun _ _ _ h => h) (Or.inl ⟨by rfl, fun V (hV : w.grownBy V none) => by go_simp⟩) G2 ?_
      (try simp only [Act.put, List.setIfInBounds_toArray, List.set_cons_zero, List.set_cons_succ])
      refine wpAnyH_take (i := 14) (oi := { dst := some 28, op := Op.pick (Operand.tmp 16) (Operand.const (Value.bool true)) (Operand.tmp 27), type := _, pos := _, after := _, guard := _ }) (v := .bool false) rfl (by kernel_rfl) (by kernel_rfl) (by kernel_rfl) (fun _ _ _ h => h) (Or.inl ⟨by rfl, fun V (hV : w.grownBy V none) => by go_simp⟩) G2 ?_
      (try simp only [Act.put, List.setIfInBounds_toArray, List.set_cons_zero, List.set_cons_succ])
      refine wpAnyH_done (by kernel_rfl) ?_ _
      refine NoPanic.normal ?_
      go_wp2_with (go_at_call 45; refine (hst _).mono ?_; rintro e w3 ⟨rfl, g3⟩)
      refine bodyPost_ret (results_tmp2 rfl _ _ _) rfl ?_
      exact ⟨rfl, gb_trans G2 g3 (fun _ e => by cases e)⟩
    · have hGL : ¬ G.toList = Q.toList := by
        rw [hG, hQ, str_list, str_list]; exact hT
      have hob : openB k n be y = false := by rw [hoe]; exact beq_eq_false_iff_ne.2 hT
      rw [openL_no hob, hob, hs0]
      clear hT hoe hob hP hQ hG hY hm ha
      go_enter Tryd.func34, Tryd.ntmps34
      go_upto_region 2 with fail
      refine wp_region_noPanic ?_
      refine wp_region_held_drew (S := fun V => w.grownBy V none) (by kernel_rfl) h0 (fun _ => ?_)
      refine wpAnyH_take (i := 0) (oi := { dst := some 14, op := Op.move (Operand.tmp 10), type := _, pos := _, after := _, guard := _ }) (v := .int .i64 (a : Int)) rfl (by kernel_rfl) (by kernel_rfl) (by kernel_rfl) (fun _ _ _ h => h) (Or.inl ⟨by rfl, fun V (hV : w.grownBy V none) => by go_simp⟩) h0 ?_
      (try simp only [Act.put, List.setIfInBounds_toArray, List.set_cons_zero, List.set_cons_succ])
      refine wpAnyH_take (i := 1) (oi := { dst := some 15, op := Op.binOp BinOp.lss 3 (Operand.tmp 14) (Operand.const (Value.int IntKind.i64 0)) 3, type := _, pos := _, after := _, guard := _ }) (v := .bool false) rfl (by kernel_rfl) (by kernel_rfl) (by kernel_rfl) (fun _ _ _ h => h) (Or.inl ⟨by rfl, fun V (hV : w.grownBy V none) => by go_simp⟩) h0 ?_
      (try simp only [Act.put, List.setIfInBounds_toArray, List.set_cons_zero, List.set_cons_succ])
      refine wpAnyH_take (i := 2) (oi := { dst := some 16, op := Op.move (Operand.tmp 15), type := _, pos := _, after := _, guard := _ }) (v := .bool false) rfl (by kernel_rfl) (by kernel_rfl) (by kernel_rfl) (fun _ _ _ h => h) (Or.inl ⟨by rfl, fun V (hV : w.grownBy V none) => by go_simp⟩) h0 ?_
      (try simp only [Act.put, List.setIfInBounds_toArray, List.set_cons_zero, List.set_cons_succ])
      refine wpAnyH_take (i := 3) (oi := { dst := some 17, op := Op.move (Operand.tmp 0), type := _, pos := _, after := _, guard := _ }) (v := .string (str k)) rfl (by kernel_rfl) (by kernel_rfl) (by kernel_rfl) (fun _ _ _ h => h) (Or.inl ⟨by rfl, fun V (hV : w.grownBy V none) => by go_simp⟩) h0 ?_
      (try simp only [Act.put, List.setIfInBounds_toArray, List.set_cons_zero, List.set_cons_succ])
      refine wpAnyH_take (i := 4) (oi := { dst := some 18, op := Op.move (Operand.tmp 1), type := _, pos := _, after := _, guard := _ }) (v := .string (str n)) rfl (by kernel_rfl) (by kernel_rfl) (by kernel_rfl) (fun _ _ _ h => h) (Or.inl ⟨by rfl, fun V (hV : w.grownBy V none) => by go_simp⟩) h0 ?_
      (try simp only [Act.put, List.setIfInBounds_toArray, List.set_cons_zero, List.set_cons_succ])
      refine wpAnyH_take (i := 5) (oi := { dst := some 19, op := Op.move (Operand.tmp 2), type := _, pos := _, after := _, guard := _ }) (v := .string (str be)) rfl (by kernel_rfl) (by kernel_rfl) (by kernel_rfl) (fun _ _ _ h => h) (Or.inl ⟨by rfl, fun V (hV : w.grownBy V none) => by go_simp⟩) h0 ?_
      (try simp only [Act.put, List.setIfInBounds_toArray, List.set_cons_zero, List.set_cons_succ])
      refine wpAnyH_take (i := 6) (oi := { dst := some 20, op := Op.move (Operand.tmp 3), type := _, pos := _, after := _, guard := _ }) (v := .string Y) rfl (by kernel_rfl) (by kernel_rfl) (by kernel_rfl) (fun _ _ _ h => h) (Or.inl ⟨by rfl, fun V (hV : w.grownBy V none) => by go_simp⟩) h0 ?_
      (try simp only [Act.put, List.setIfInBounds_toArray, List.set_cons_zero, List.set_cons_succ])
      refine wpAnyH_take (i := 7) (oi := { dst := some 21, op := Op.move (Operand.tmp 10), type := _, pos := _, after := _, guard := _ }) (v := .int .i64 (a : Int)) rfl (by kernel_rfl) (by kernel_rfl) (by kernel_rfl) (fun _ _ _ h => h) (Or.inl ⟨by rfl, fun V (hV : w.grownBy V none) => by go_simp⟩) h0 ?_
      (try simp only [Act.put, List.setIfInBounds_toArray, List.set_cons_zero, List.set_cons_succ])
      refine wpAnyH_take (i := 8) (oi := { dst := some 22, op := Op.slice 9 (Operand.tmp 20) none (some (Operand.tmp 21)) none, type := _, pos := _, after := _, guard := _ }) (v := .string P) rfl (by kernel_rfl) (by kernel_rfl) (by kernel_rfl) (fun _ _ _ h => h) (Or.inl ⟨by rfl, fun V (hV : w.grownBy V none) => by go_simp⟩) h0 ?_
      (try simp only [Act.put, List.setIfInBounds_toArray, List.set_cons_zero, List.set_cons_succ])
      refine wpAnyH_take (i := 10) (oi := { dst := some 24, op := Op.move (Operand.tmp 3), type := _, pos := _, after := _, guard := _ }) (v := .string Y) rfl (by kernel_rfl) (by kernel_rfl) (by kernel_rfl) (fun _ _ _ h => h) (Or.inl ⟨by rfl, fun V (hV : w.grownBy V none) => by go_simp⟩) h0 ?_
      (try simp only [Act.put, List.setIfInBounds_toArray, List.set_cons_zero, List.set_cons_succ])
      refine wpAnyH_take (i := 11) (oi := { dst := some 25, op := Op.move (Operand.tmp 10), type := _, pos := _, after := _, guard := _ }) (v := .int .i64 (a : Int)) rfl (by kernel_rfl) (by kernel_rfl) (by kernel_rfl) (fun _ _ _ h => h) (Or.inl ⟨by rfl, fun V (hV : w.grownBy V none) => by go_simp⟩) h0 ?_
      (try simp only [Act.put, List.setIfInBounds_toArray, List.set_cons_zero, List.set_cons_succ])
      refine wpAnyH_take (i := 12) (oi := { dst := some 26, op := Op.slice 9 (Operand.tmp 24) (some (Operand.tmp 25)) none none, type := _, pos := _, after := _, guard := _ }) (v := .string Q) rfl (by kernel_rfl) (by kernel_rfl) (by kernel_rfl) (fun _ _ _ h => h) (Or.inl ⟨by rfl, fun V (hV : w.grownBy V none) => by go_simp⟩) h0 ?_
      (try simp only [Act.put, List.setIfInBounds_toArray, List.set_cons_zero, List.set_cons_succ])
      refine wpAnyH_ready (rs := [9]) (by kernel_rfl) (by simp) ?_
      refine AllReadyH.cons (o := { dst := some 23, op := Op.call { callee := Callee.value (Operand.func 46), args := #[(Operand.tmp 17), (Operand.tmp 18), (Operand.tmp 19), (Operand.tmp 22)], argTypes := #[9, 9, 9, 9] }, type := _, pos := _, after := _, guard := _ }) rfl (fun K9 hK9 => ?_) AllReadyH.nil
      go_simp
      go_at_call 46
      refine (htg _).mono ?_
      rintro e w2 ⟨rfl, g2⟩
      go_wp2_with fail
      refine hK9.out _ _ (gb_trans h0 g2 (fun _ e => by cases e)) (fun _ => ?_)
      clear hK9 K9
      (try simp only [Act.put, List.setIfInBounds_toArray, List.set_cons_zero, List.set_cons_succ])
      have G2 := gb_trans h0 g2 (fun _ e => by cases e)
      refine wpAnyH_take (i := 13) (oi := { dst := some 27, op := Op.binOp BinOp.neq 9 (Operand.tmp 23) (Operand.tmp 26) 9, type := _, pos := _, after := _, guard := _ }) (v := .bool true) rfl (by kernel_rfl) (by kernel_rfl) (by kernel_rfl) (fun _ _ _ h => h) (Or.inl ⟨by rfl, fun V (hV : w.grownBy V none) => by go_simp⟩) G2 ?_
      (try simp only [Act.put, List.setIfInBounds_toArray, List.set_cons_zero, List.set_cons_succ])
      refine wpAnyH_take (i := 14) (oi := { dst := some 28, op := Op.pick (Operand.tmp 16) (Operand.const (Value.bool true)) (Operand.tmp 27), type := _, pos := _, after := _, guard := _ }) (v := .bool true) rfl (by kernel_rfl) (by kernel_rfl) (by kernel_rfl) (fun _ _ _ h => h) (Or.inl ⟨by rfl, fun V (hV : w.grownBy V none) => by go_simp⟩) G2 ?_
      (try simp only [Act.put, List.setIfInBounds_toArray, List.set_cons_zero, List.set_cons_succ])
      refine wpAnyH_done (by kernel_rfl) ?_ _
      refine NoPanic.normal ?_
      go_wp2
      refine bodyPost_ret (results_tmp2 rfl _ _ _) rfl ⟨rfl, G2⟩
end Go.Proofs.YtjckdgapefaokaaDoor
