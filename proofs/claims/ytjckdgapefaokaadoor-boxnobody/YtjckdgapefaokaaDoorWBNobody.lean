/- BoxNobody's walk: a box that nobody made seals nothing, and tells nothing; New of no source tells the error. For any text. -/
import Derived.Test.YtjckdgapefaokaaDoorBLaw
namespace Go.Proofs.YtjckdgapefaokaaDoor
open Go.RowKit

theorem wp_built {P : Program} {o : Oper} {a : Act} {w : World} {K : Act → World → Prop} {Q : Exit → Act → World → Prop} (t : TypeId) (parts : Array (Nat × Operand)) (ho : o.op = .build t parts) (cells : Array Value)
    (hf : P.built t (parts.map fun (i, x) => (i, a.eval x)).toList = some cells) (h : K (a.put o.dst (.agg cells)) w) : o.wp P a w K Q := by
  unfold Oper.wp execOp
  simp only [ho, Sem.run_bind, run_build w t _ cells hf, Result.andThen_ok]
  exact h

theorem neq_keys (w : World) (xs : List UInt8) (hx : xs.length = 32) : (binOp .neq 37 (.agg (xs.map bv).toArray) (.agg (xs.map bv).toArray)).run Tryd.prog w = .ok (.bool false) w := by
  have h : (Op.equalIn 10000 37 (.agg (xs.map bv).toArray) (.agg (xs.map bv).toArray)).run Tryd.prog w = .ok (xs == xs) w := run_equalIn_bytes w 9998 37 5 32 Tryd.underlying37 Tryd.underlying5 size_byte xs xs hx hx
  rw [run_neq_struct, h]
  simp

theorem built_box0 : Tryd.prog.built 58 [] = some box0.toArray := by kernel_rfl

set_option maxRecDepth 100000 in
set_option maxHeartbeats 2000000 in
theorem boxNobody_any (w : World) (ao : Option Addr) (c : Nat) (l : List UInt8) (_hb : Bts w ao c l) (hT : Tabs w) (hC : CTab w) :
    Calls Tryd.prog 6 #[.slice ao l.length c] w fun e w' => e = .returned (.bool true) ∧ w.grownBy w' none := by
  obtain ⟨n, hn⟩ : ∃ n, n = l.length := ⟨_, rfl⟩
  rw [← hn]
  by_cases hbig : 2000 < n
  · have h2 : (2000 : Int) < (n : Int) := by omega
    clear hbig hn
    go_enter Tryd.func6, Tryd.ntmps6
    go_wp2
    go_ret
    exact ⟨rfl, gb_refl _ _⟩
  · have h2 : ¬ (2000 : Int) < (n : Int) := by omega
    have hbk := built_key0
    obtain ⟨ZK, hZK⟩ : ∃ A : List UInt8, A = List.replicate 32 (0 : UInt8) := ⟨_, rfl⟩
    have hnk := fun W => neq_keys W ZK (by rw [hZK]; rfl)
    have ckey : ∀ V po, NoBox V po → Calls Tryd.prog 21 #[.pointer po] V fun e w' => e = .returned (.agg (ZK.map bv).toArray) ∧ V.grownBy w' none := fun V po h => by rw [hZK]; exact bkey_no V po h
    rw [← hZK] at hbk
    obtain ⟨ZA, hZA⟩ : ∃ A : Array Value, A = (ZK.map bv).toArray := ⟨_, rfl⟩
    rw [← hZA] at hbk hnk
    simp only [← hZA] at ckey
    have hbb := built_box0
    obtain ⟨BA, hBA⟩ : ∃ A : Array Value, A = box0.toArray := ⟨_, rfl⟩
    rw [← hBA] at hbb
    have hpl : ∀ V : World, NoBox (V.alloc (.cells BA 58)) (some ⟨V.heap.size, 0, none⟩) := fun V => by rw [hBA]; exact noBox_plain (Blk.new V _ _)
    have cone : ∀ V, w.grownBy V none → Calls Tryd.prog 10 #[] V fun e w' => e = .returned (.bool true) ∧ w.grownBy w' none := fun V gV => (bone_any V (hT.kept0 gV) (hC.kept0 gV)).mono fun e w' ⟨he, g⟩ => ⟨he, tn gV g⟩
    have HBK := hide hbk
    have HBB := hide hbb
    have HNK := hide hnk
    have HCK := hide ckey
    have HPL := hide hpl
    clear hbk hbb hnk ckey hpl hZK hZA hBA hbig hn hT hC
    go_enter Tryd.func6, Tryd.ntmps6
    go_wp2
    go_loopw [3] (fun i wr => ∃ j : Nat, j ≤ 2 ∧ i = .int .i64 j ∧ w.grownBy wr none) (fun i _ => 2 - (intOf i).toNat)
    case atStart => exact ⟨0, by omega, rfl, gb_refl _ _⟩
    case round =>
      obtain ⟨j, hj, rfl, hg⟩ := hrel
      by_cases hlt : j < 2
      · obtain rfl | rfl : j = 0 ∨ j = 1 := by omega
        · go_upto_region 9 with (refine wpList_built rfl 58 _ rfl BA ?hbb ?_)
          case hbb => exact unhide HBB
          have hN := unhide HPL wr
          have G0 := gb_alloc hg (.cells BA 58)
          obtain ⟨po, hpo⟩ : ∃ po : Option Addr, po = some ⟨wr.heap.size, 0, none⟩ := ⟨_, rfl⟩
          obtain ⟨W1, hW1⟩ : ∃ W1, W1 = wr.alloc (.cells BA 58) := ⟨_, rfl⟩
          rw [← hpo, ← hW1] at hN
          rw [← hW1] at G0
          rw [← hpo, ← hW1]
          clear hpo hW1 hg
          refine region_named fun O hO => ?_
          refine wpList_val (by rw [hO]; kernel_rfl) (.pointer po) (fun K9 hK9 => by go_simp; exact hK9) ?_
          (try simp only [Act.put, List.setIfInBounds_toArray, List.set_cons_zero, List.set_cons_succ])
          refine wpList_built rfl 37 _ rfl ZA (by simpa [Act.eval] using unhide HBK) ?_
          (try simp only [Act.put, List.setIfInBounds_toArray, List.set_cons_zero, List.set_cons_succ])
          refine wpList_val (by rw [hO]; kernel_rfl) (.slice ao n c) (fun K9 hK9 => by go_simp; exact hK9) ?_
          (try simp only [Act.put, List.setIfInBounds_toArray, List.set_cons_zero, List.set_cons_succ])
          refine wpList_want (by rw [hO]; kernel_rfl) fun K9 hK9 => ?_
          go_simp
          go_at_call 12
          refine (seal_no _ _ hN _ _ _).mono ?_
          rintro e w2 ⟨rfl, g2⟩
          have hN2 := hN.none g2
          refine hK9 _ _ ?_
          clear hK9 K9
          (try simp only [Act.put, List.setIfInBounds_toArray, List.set_cons_zero, List.set_cons_succ])
          refine wpList_val (by rw [hO]; kernel_rfl) (.tuple #[.slice none 0 0, .int .i64 1]) (fun K9 hK9 => by go_simp; exact hK9) ?_
          (try simp only [Act.put, List.setIfInBounds_toArray, List.set_cons_zero, List.set_cons_succ])
          refine wpList_val (by rw [hO]; kernel_rfl) (.slice none 0 0) (fun K9 hK9 => by go_simp; exact hK9) ?_
          (try simp only [Act.put, List.setIfInBounds_toArray, List.set_cons_zero, List.set_cons_succ])
          refine wpList_val (by rw [hO]; kernel_rfl) (.int .i64 1) (fun K9 hK9 => by go_simp; exact hK9) ?_
          (try simp only [Act.put, List.setIfInBounds_toArray, List.set_cons_zero, List.set_cons_succ])
          refine wpList_val (by rw [hO]; kernel_rfl) (.slice none 0 0) (fun K9 hK9 => by go_simp; exact hK9) ?_
          (try simp only [Act.put, List.setIfInBounds_toArray, List.set_cons_zero, List.set_cons_succ])
          refine wpList_val (by rw [hO]; kernel_rfl) (.int .i64 1) (fun K9 hK9 => by go_simp; exact hK9) ?_
          (try simp only [Act.put, List.setIfInBounds_toArray, List.set_cons_zero, List.set_cons_succ])
          go_upto_region 10 with fail
          refine region_named fun O hO => ?_
          refine wpList_val (by rw [hO]; kernel_rfl) (.pointer po) (fun K9 hK9 => by go_simp; exact hK9) ?_
          (try simp only [Act.put, List.setIfInBounds_toArray, List.set_cons_zero, List.set_cons_succ])
          refine wpList_built rfl 37 _ rfl ZA (by simpa [Act.eval] using unhide HBK) ?_
          (try simp only [Act.put, List.setIfInBounds_toArray, List.set_cons_zero, List.set_cons_succ])
          refine wpList_val (by rw [hO]; kernel_rfl) (.slice ao n c) (fun K9 hK9 => by go_simp; exact hK9) ?_
          (try simp only [Act.put, List.setIfInBounds_toArray, List.set_cons_zero, List.set_cons_succ])
          refine wpList_want (by rw [hO]; kernel_rfl) fun K9 hK9 => ?_
          go_simp
          go_at_call 14
          refine (open_no _ _ hN2 _ _ _).mono ?_
          rintro e w3 ⟨rfl, g3⟩
          have hN3 := hN2.none g3
          refine hK9 _ _ ?_
          clear hK9 K9
          (try simp only [Act.put, List.setIfInBounds_toArray, List.set_cons_zero, List.set_cons_succ])
          refine wpList_val (by rw [hO]; kernel_rfl) (.tuple #[.slice none 0 0, .bool false]) (fun K9 hK9 => by go_simp; exact hK9) ?_
          (try simp only [Act.put, List.setIfInBounds_toArray, List.set_cons_zero, List.set_cons_succ])
          refine wpList_val (by rw [hO]; kernel_rfl) (.slice none 0 0) (fun K9 hK9 => by go_simp; exact hK9) ?_
          (try simp only [Act.put, List.setIfInBounds_toArray, List.set_cons_zero, List.set_cons_succ])
          refine wpList_val (by rw [hO]; kernel_rfl) (.bool false) (fun K9 hK9 => by go_simp; exact hK9) ?_
          (try simp only [Act.put, List.setIfInBounds_toArray, List.set_cons_zero, List.set_cons_succ])
          refine wpList_val (by rw [hO]; kernel_rfl) (.slice none 0 0) (fun K9 hK9 => by go_simp; exact hK9) ?_
          (try simp only [Act.put, List.setIfInBounds_toArray, List.set_cons_zero, List.set_cons_succ])
          refine wpList_val (by rw [hO]; kernel_rfl) (.bool false) (fun K9 hK9 => by go_simp; exact hK9) ?_
          (try simp only [Act.put, List.setIfInBounds_toArray, List.set_cons_zero, List.set_cons_succ])
          go_upto_region 11 with fail
          refine region_named fun O hO => ?_
          refine wpList_val (by rw [hO]; kernel_rfl) (.slice none 0 0) (fun K9 hK9 => by go_simp; exact hK9) ?_
          (try simp only [Act.put, List.setIfInBounds_toArray, List.set_cons_zero, List.set_cons_succ])
          refine wpList_val (by rw [hO]; kernel_rfl) (.int .i64 0) (fun K9 hK9 => by go_simp; exact hK9) ?_
          (try simp only [Act.put, List.setIfInBounds_toArray, List.set_cons_zero, List.set_cons_succ])
          refine wpList_val (by rw [hO]; kernel_rfl) (.bool false) (fun K9 hK9 => by go_simp; exact hK9) ?_
          (try simp only [Act.put, List.setIfInBounds_toArray, List.set_cons_zero, List.set_cons_succ])
          refine wpList_val (by rw [hO]; kernel_rfl) (.bool false) (fun K9 hK9 => by go_simp; exact hK9) ?_
          (try simp only [Act.put, List.setIfInBounds_toArray, List.set_cons_zero, List.set_cons_succ])
          refine wpList_val (by rw [hO]; kernel_rfl) (.int .i64 1) (fun K9 hK9 => by go_simp; exact hK9) ?_
          (try simp only [Act.put, List.setIfInBounds_toArray, List.set_cons_zero, List.set_cons_succ])
          refine wpList_val (by rw [hO]; kernel_rfl) (.bool false) (fun K9 hK9 => by go_simp; exact hK9) ?_
          (try simp only [Act.put, List.setIfInBounds_toArray, List.set_cons_zero, List.set_cons_succ])
          refine wpList_val (by rw [hO]; kernel_rfl) (.bool false) (fun K9 hK9 => by go_simp; exact hK9) ?_
          (try simp only [Act.put, List.setIfInBounds_toArray, List.set_cons_zero, List.set_cons_succ])
          refine wpList_val (by rw [hO]; kernel_rfl) (.bool false) (fun K9 hK9 => by go_simp; exact hK9) ?_
          (try simp only [Act.put, List.setIfInBounds_toArray, List.set_cons_zero, List.set_cons_succ])
          refine wpList_val (by rw [hO]; kernel_rfl) (.slice none 0 0) (fun K9 hK9 => by go_simp; exact hK9) ?_
          (try simp only [Act.put, List.setIfInBounds_toArray, List.set_cons_zero, List.set_cons_succ])
          refine wpList_val (by rw [hO]; kernel_rfl) (.int .i64 0) (fun K9 hK9 => by go_simp; exact hK9) ?_
          (try simp only [Act.put, List.setIfInBounds_toArray, List.set_cons_zero, List.set_cons_succ])
          refine wpList_val (by rw [hO]; kernel_rfl) (.bool false) (fun K9 hK9 => by go_simp; exact hK9) ?_
          (try simp only [Act.put, List.setIfInBounds_toArray, List.set_cons_zero, List.set_cons_succ])
          refine wpList_val (by rw [hO]; kernel_rfl) (.bool false) (fun K9 hK9 => by go_simp; exact hK9) ?_
          (try simp only [Act.put, List.setIfInBounds_toArray, List.set_cons_zero, List.set_cons_succ])
          refine wpList_val (by rw [hO]; kernel_rfl) (.bool false) (fun K9 hK9 => by go_simp; exact hK9) ?_
          (try simp only [Act.put, List.setIfInBounds_toArray, List.set_cons_zero, List.set_cons_succ])
          refine wpList_val (by rw [hO]; kernel_rfl) (.bool false) (fun K9 hK9 => by go_simp; exact hK9) ?_
          (try simp only [Act.put, List.setIfInBounds_toArray, List.set_cons_zero, List.set_cons_succ])
          refine wpList_val (by rw [hO]; kernel_rfl) (.bool false) (fun K9 hK9 => by go_simp; exact hK9) ?_
          (try simp only [Act.put, List.setIfInBounds_toArray, List.set_cons_zero, List.set_cons_succ])
          refine wpList_val (by rw [hO]; kernel_rfl) (.bool false) (fun K9 hK9 => by go_simp; exact hK9) ?_
          (try simp only [Act.put, List.setIfInBounds_toArray, List.set_cons_zero, List.set_cons_succ])
          refine wpList_val (by rw [hO]; kernel_rfl) (.pointer po) (fun K9 hK9 => by go_simp; exact hK9) ?_
          (try simp only [Act.put, List.setIfInBounds_toArray, List.set_cons_zero, List.set_cons_succ])
          refine wpList_want (by rw [hO]; kernel_rfl) fun K9 hK9 => ?_
          go_simp
          go_at_call 20
          refine (draw_no _ _ hN3 _).mono ?_
          rintro e w4 ⟨rfl, e4⟩
          subst w4
          refine hK9 _ _ ?_
          clear hK9 K9
          (try simp only [Act.put, List.setIfInBounds_toArray, List.set_cons_zero, List.set_cons_succ])
          refine wpList_val (by rw [hO]; kernel_rfl) (.int .i64 0) (fun K9 hK9 => by go_simp; exact hK9) ?_
          (try simp only [Act.put, List.setIfInBounds_toArray, List.set_cons_zero, List.set_cons_succ])
          refine wpList_val (by rw [hO]; kernel_rfl) (.bool false) (fun K9 hK9 => by go_simp; exact hK9) ?_
          (try simp only [Act.put, List.setIfInBounds_toArray, List.set_cons_zero, List.set_cons_succ])
          refine wpList_val (by rw [hO]; kernel_rfl) (.bool false) (fun K9 hK9 => by go_simp; exact hK9) ?_
          (try simp only [Act.put, List.setIfInBounds_toArray, List.set_cons_zero, List.set_cons_succ])
          refine wpList_val (by rw [hO]; kernel_rfl) (.bool false) (fun K9 hK9 => by go_simp; exact hK9) ?_
          (try simp only [Act.put, List.setIfInBounds_toArray, List.set_cons_zero, List.set_cons_succ])
          refine wpList_val (by rw [hO]; kernel_rfl) (.pointer po) (fun K9 hK9 => by go_simp; exact hK9) ?_
          (try simp only [Act.put, List.setIfInBounds_toArray, List.set_cons_zero, List.set_cons_succ])
          refine wpList_want (by rw [hO]; kernel_rfl) fun K9 hK9 => ?_
          go_simp
          go_at_call 21
          refine (unhide HCK _ _ hN3).mono ?_
          rintro e w5 ⟨rfl, g5⟩
          have hN5 := hN3.none g5
          refine hK9 _ _ ?_
          clear hK9 K9
          (try simp only [Act.put, List.setIfInBounds_toArray, List.set_cons_zero, List.set_cons_succ])
          refine wpList_val (by rw [hO]; kernel_rfl) (.agg ZA) (fun K9 hK9 => wp_built _ _ rfl _ (by simpa [Act.eval] using unhide HBK) hK9) ?_
          (try simp only [Act.put, List.setIfInBounds_toArray, List.set_cons_zero, List.set_cons_succ])
          refine wpList_val (by rw [hO]; kernel_rfl) (.bool false) (fun K9 hK9 => wp_neq _ _ _ _ rfl _ _ _ rfl rfl guard_key (unhide HNK w5) hK9) ?_
          (try simp only [Act.put, List.setIfInBounds_toArray, List.set_cons_zero, List.set_cons_succ])
          refine wpList_val (by rw [hO]; kernel_rfl) (.bool false) (fun K9 hK9 => by go_simp; exact hK9) ?_
          (try simp only [Act.put, List.setIfInBounds_toArray, List.set_cons_zero, List.set_cons_succ])
          refine wpList_val (by rw [hO]; kernel_rfl) (.bool false) (fun K9 hK9 => by go_simp; exact hK9) ?_
          (try simp only [Act.put, List.setIfInBounds_toArray, List.set_cons_zero, List.set_cons_succ])
          refine wpList_val (by rw [hO]; kernel_rfl) (.pointer po) (fun K9 hK9 => by go_simp; exact hK9) ?_
          (try simp only [Act.put, List.setIfInBounds_toArray, List.set_cons_zero, List.set_cons_succ])
          refine wpList_val (by rw [hO]; kernel_rfl) (.slice ao n c) (fun K9 hK9 => by go_simp; exact hK9) ?_
          (try simp only [Act.put, List.setIfInBounds_toArray, List.set_cons_zero, List.set_cons_succ])
          refine wpList_want (by rw [hO]; kernel_rfl) fun K9 hK9 => ?_
          go_simp
          go_at_call 16
          refine (bknown_no _ _ hN5 _).mono ?_
          rintro e w6 ⟨rfl, e6⟩
          subst w6
          refine hK9 _ _ ?_
          clear hK9 K9
          (try simp only [Act.put, List.setIfInBounds_toArray, List.set_cons_zero, List.set_cons_succ])
          refine wpList_val (by rw [hO]; kernel_rfl) (.bool false) (fun K9 hK9 => by go_simp; exact hK9) ?_
          (try simp only [Act.put, List.setIfInBounds_toArray, List.set_cons_zero, List.set_cons_succ])
          refine wpList_val (by rw [hO]; kernel_rfl) (.bool false) (fun K9 hK9 => by go_simp; exact hK9) ?_
          (try simp only [Act.put, List.setIfInBounds_toArray, List.set_cons_zero, List.set_cons_succ])
          refine wpList_val (by rw [hO]; kernel_rfl) (.pointer po) (fun K9 hK9 => by go_simp; exact hK9) ?_
          (try simp only [Act.put, List.setIfInBounds_toArray, List.set_cons_zero, List.set_cons_succ])
          refine wpList_want (by rw [hO]; kernel_rfl) fun K9 hK9 => ?_
          go_simp
          go_at_call 18
          refine (count_no _ _ hN5).mono ?_
          rintro e w7 ⟨rfl, e7⟩
          subst w7
          refine hK9 _ _ ?_
          clear hK9 K9
          (try simp only [Act.put, List.setIfInBounds_toArray, List.set_cons_zero, List.set_cons_succ])
          refine wpList_val (by rw [hO]; kernel_rfl) (.pointer po) (fun K9 hK9 => by go_simp; exact hK9) ?_
          (try simp only [Act.put, List.setIfInBounds_toArray, List.set_cons_zero, List.set_cons_succ])
          refine wpList_want (by rw [hO]; kernel_rfl) fun K9 hK9 => ?_
          go_simp
          go_at_call 19
          refine (mode_no _ _ hN5).mono ?_
          rintro e w8 ⟨rfl, e8⟩
          subst w8
          refine hK9 _ _ ?_
          clear hK9 K9
          (try simp only [Act.put, List.setIfInBounds_toArray, List.set_cons_zero, List.set_cons_succ])
          refine wpList_val (by rw [hO]; kernel_rfl) (.int .i64 0) (fun K9 hK9 => by go_simp; exact hK9) ?_
          (try simp only [Act.put, List.setIfInBounds_toArray, List.set_cons_zero, List.set_cons_succ])
          refine wpList_val (by rw [hO]; kernel_rfl) (.bool false) (fun K9 hK9 => by go_simp; exact hK9) ?_
          (try simp only [Act.put, List.setIfInBounds_toArray, List.set_cons_zero, List.set_cons_succ])
          refine wpList_val (by rw [hO]; kernel_rfl) (.bool false) (fun K9 hK9 => by go_simp; exact hK9) ?_
          (try simp only [Act.put, List.setIfInBounds_toArray, List.set_cons_zero, List.set_cons_succ])
          go_wp2
          go_roundw
          case rel => exact ⟨1, by omega, by go_num, tn (tn (tn G0 g2) g3) g5⟩
          case measure => simp [intOf]
        · go_upto_region 9 with (refine wpList_built rfl 58 _ rfl BA ?hbb ?_)
          case hbb => exact unhide HBB
          have G0 := gb_alloc hg (.cells BA 58)
          obtain ⟨W1, hW1⟩ : ∃ W1, W1 = wr.alloc (.cells BA 58) := ⟨_, rfl⟩
          have hN := noBox_nil W1
          obtain ⟨po, hpo⟩ : ∃ po : Option Addr, po = none := ⟨_, rfl⟩
          rw [← hpo] at hN
          rw [← hW1] at G0 ⊢
          have hpp : Value.pointer none = Value.pointer po := by rw [hpo]
          rw [hpp]
          clear hpo hpp hW1 hg
          refine region_named fun O hO => ?_
          refine wpList_val (by rw [hO]; kernel_rfl) (.pointer po) (fun K9 hK9 => by go_simp; exact hK9) ?_
          (try simp only [Act.put, List.setIfInBounds_toArray, List.set_cons_zero, List.set_cons_succ])
          refine wpList_built rfl 37 _ rfl ZA (by simpa [Act.eval] using unhide HBK) ?_
          (try simp only [Act.put, List.setIfInBounds_toArray, List.set_cons_zero, List.set_cons_succ])
          refine wpList_val (by rw [hO]; kernel_rfl) (.slice ao n c) (fun K9 hK9 => by go_simp; exact hK9) ?_
          (try simp only [Act.put, List.setIfInBounds_toArray, List.set_cons_zero, List.set_cons_succ])
          refine wpList_want (by rw [hO]; kernel_rfl) fun K9 hK9 => ?_
          go_simp
          go_at_call 12
          refine (seal_no _ _ hN _ _ _).mono ?_
          rintro e w2 ⟨rfl, g2⟩
          have hN2 := hN.none g2
          refine hK9 _ _ ?_
          clear hK9 K9
          (try simp only [Act.put, List.setIfInBounds_toArray, List.set_cons_zero, List.set_cons_succ])
          refine wpList_val (by rw [hO]; kernel_rfl) (.tuple #[.slice none 0 0, .int .i64 1]) (fun K9 hK9 => by go_simp; exact hK9) ?_
          (try simp only [Act.put, List.setIfInBounds_toArray, List.set_cons_zero, List.set_cons_succ])
          refine wpList_val (by rw [hO]; kernel_rfl) (.slice none 0 0) (fun K9 hK9 => by go_simp; exact hK9) ?_
          (try simp only [Act.put, List.setIfInBounds_toArray, List.set_cons_zero, List.set_cons_succ])
          refine wpList_val (by rw [hO]; kernel_rfl) (.int .i64 1) (fun K9 hK9 => by go_simp; exact hK9) ?_
          (try simp only [Act.put, List.setIfInBounds_toArray, List.set_cons_zero, List.set_cons_succ])
          refine wpList_val (by rw [hO]; kernel_rfl) (.slice none 0 0) (fun K9 hK9 => by go_simp; exact hK9) ?_
          (try simp only [Act.put, List.setIfInBounds_toArray, List.set_cons_zero, List.set_cons_succ])
          refine wpList_val (by rw [hO]; kernel_rfl) (.int .i64 1) (fun K9 hK9 => by go_simp; exact hK9) ?_
          (try simp only [Act.put, List.setIfInBounds_toArray, List.set_cons_zero, List.set_cons_succ])
          go_upto_region 10 with fail
          refine region_named fun O hO => ?_
          refine wpList_val (by rw [hO]; kernel_rfl) (.pointer po) (fun K9 hK9 => by go_simp; exact hK9) ?_
          (try simp only [Act.put, List.setIfInBounds_toArray, List.set_cons_zero, List.set_cons_succ])
          refine wpList_built rfl 37 _ rfl ZA (by simpa [Act.eval] using unhide HBK) ?_
          (try simp only [Act.put, List.setIfInBounds_toArray, List.set_cons_zero, List.set_cons_succ])
          refine wpList_val (by rw [hO]; kernel_rfl) (.slice ao n c) (fun K9 hK9 => by go_simp; exact hK9) ?_
          (try simp only [Act.put, List.setIfInBounds_toArray, List.set_cons_zero, List.set_cons_succ])
          refine wpList_want (by rw [hO]; kernel_rfl) fun K9 hK9 => ?_
          go_simp
          go_at_call 14
          refine (open_no _ _ hN2 _ _ _).mono ?_
          rintro e w3 ⟨rfl, g3⟩
          have hN3 := hN2.none g3
          refine hK9 _ _ ?_
          clear hK9 K9
          (try simp only [Act.put, List.setIfInBounds_toArray, List.set_cons_zero, List.set_cons_succ])
          refine wpList_val (by rw [hO]; kernel_rfl) (.tuple #[.slice none 0 0, .bool false]) (fun K9 hK9 => by go_simp; exact hK9) ?_
          (try simp only [Act.put, List.setIfInBounds_toArray, List.set_cons_zero, List.set_cons_succ])
          refine wpList_val (by rw [hO]; kernel_rfl) (.slice none 0 0) (fun K9 hK9 => by go_simp; exact hK9) ?_
          (try simp only [Act.put, List.setIfInBounds_toArray, List.set_cons_zero, List.set_cons_succ])
          refine wpList_val (by rw [hO]; kernel_rfl) (.bool false) (fun K9 hK9 => by go_simp; exact hK9) ?_
          (try simp only [Act.put, List.setIfInBounds_toArray, List.set_cons_zero, List.set_cons_succ])
          refine wpList_val (by rw [hO]; kernel_rfl) (.slice none 0 0) (fun K9 hK9 => by go_simp; exact hK9) ?_
          (try simp only [Act.put, List.setIfInBounds_toArray, List.set_cons_zero, List.set_cons_succ])
          refine wpList_val (by rw [hO]; kernel_rfl) (.bool false) (fun K9 hK9 => by go_simp; exact hK9) ?_
          (try simp only [Act.put, List.setIfInBounds_toArray, List.set_cons_zero, List.set_cons_succ])
          go_upto_region 11 with fail
          refine region_named fun O hO => ?_
          refine wpList_val (by rw [hO]; kernel_rfl) (.slice none 0 0) (fun K9 hK9 => by go_simp; exact hK9) ?_
          (try simp only [Act.put, List.setIfInBounds_toArray, List.set_cons_zero, List.set_cons_succ])
          refine wpList_val (by rw [hO]; kernel_rfl) (.int .i64 0) (fun K9 hK9 => by go_simp; exact hK9) ?_
          (try simp only [Act.put, List.setIfInBounds_toArray, List.set_cons_zero, List.set_cons_succ])
          refine wpList_val (by rw [hO]; kernel_rfl) (.bool false) (fun K9 hK9 => by go_simp; exact hK9) ?_
          (try simp only [Act.put, List.setIfInBounds_toArray, List.set_cons_zero, List.set_cons_succ])
          refine wpList_val (by rw [hO]; kernel_rfl) (.bool false) (fun K9 hK9 => by go_simp; exact hK9) ?_
          (try simp only [Act.put, List.setIfInBounds_toArray, List.set_cons_zero, List.set_cons_succ])
          refine wpList_val (by rw [hO]; kernel_rfl) (.int .i64 1) (fun K9 hK9 => by go_simp; exact hK9) ?_
          (try simp only [Act.put, List.setIfInBounds_toArray, List.set_cons_zero, List.set_cons_succ])
          refine wpList_val (by rw [hO]; kernel_rfl) (.bool false) (fun K9 hK9 => by go_simp; exact hK9) ?_
          (try simp only [Act.put, List.setIfInBounds_toArray, List.set_cons_zero, List.set_cons_succ])
          refine wpList_val (by rw [hO]; kernel_rfl) (.bool false) (fun K9 hK9 => by go_simp; exact hK9) ?_
          (try simp only [Act.put, List.setIfInBounds_toArray, List.set_cons_zero, List.set_cons_succ])
          refine wpList_val (by rw [hO]; kernel_rfl) (.bool false) (fun K9 hK9 => by go_simp; exact hK9) ?_
          (try simp only [Act.put, List.setIfInBounds_toArray, List.set_cons_zero, List.set_cons_succ])
          refine wpList_val (by rw [hO]; kernel_rfl) (.slice none 0 0) (fun K9 hK9 => by go_simp; exact hK9) ?_
          (try simp only [Act.put, List.setIfInBounds_toArray, List.set_cons_zero, List.set_cons_succ])
          refine wpList_val (by rw [hO]; kernel_rfl) (.int .i64 0) (fun K9 hK9 => by go_simp; exact hK9) ?_
          (try simp only [Act.put, List.setIfInBounds_toArray, List.set_cons_zero, List.set_cons_succ])
          refine wpList_val (by rw [hO]; kernel_rfl) (.bool false) (fun K9 hK9 => by go_simp; exact hK9) ?_
          (try simp only [Act.put, List.setIfInBounds_toArray, List.set_cons_zero, List.set_cons_succ])
          refine wpList_val (by rw [hO]; kernel_rfl) (.bool false) (fun K9 hK9 => by go_simp; exact hK9) ?_
          (try simp only [Act.put, List.setIfInBounds_toArray, List.set_cons_zero, List.set_cons_succ])
          refine wpList_val (by rw [hO]; kernel_rfl) (.bool false) (fun K9 hK9 => by go_simp; exact hK9) ?_
          (try simp only [Act.put, List.setIfInBounds_toArray, List.set_cons_zero, List.set_cons_succ])
          refine wpList_val (by rw [hO]; kernel_rfl) (.bool false) (fun K9 hK9 => by go_simp; exact hK9) ?_
          (try simp only [Act.put, List.setIfInBounds_toArray, List.set_cons_zero, List.set_cons_succ])
          refine wpList_val (by rw [hO]; kernel_rfl) (.bool false) (fun K9 hK9 => by go_simp; exact hK9) ?_
          (try simp only [Act.put, List.setIfInBounds_toArray, List.set_cons_zero, List.set_cons_succ])
          refine wpList_val (by rw [hO]; kernel_rfl) (.bool false) (fun K9 hK9 => by go_simp; exact hK9) ?_
          (try simp only [Act.put, List.setIfInBounds_toArray, List.set_cons_zero, List.set_cons_succ])
          refine wpList_val (by rw [hO]; kernel_rfl) (.pointer po) (fun K9 hK9 => by go_simp; exact hK9) ?_
          (try simp only [Act.put, List.setIfInBounds_toArray, List.set_cons_zero, List.set_cons_succ])
          refine wpList_want (by rw [hO]; kernel_rfl) fun K9 hK9 => ?_
          go_simp
          go_at_call 20
          refine (draw_no _ _ hN3 _).mono ?_
          rintro e w4 ⟨rfl, e4⟩
          subst w4
          refine hK9 _ _ ?_
          clear hK9 K9
          (try simp only [Act.put, List.setIfInBounds_toArray, List.set_cons_zero, List.set_cons_succ])
          refine wpList_val (by rw [hO]; kernel_rfl) (.int .i64 0) (fun K9 hK9 => by go_simp; exact hK9) ?_
          (try simp only [Act.put, List.setIfInBounds_toArray, List.set_cons_zero, List.set_cons_succ])
          refine wpList_val (by rw [hO]; kernel_rfl) (.bool false) (fun K9 hK9 => by go_simp; exact hK9) ?_
          (try simp only [Act.put, List.setIfInBounds_toArray, List.set_cons_zero, List.set_cons_succ])
          refine wpList_val (by rw [hO]; kernel_rfl) (.bool false) (fun K9 hK9 => by go_simp; exact hK9) ?_
          (try simp only [Act.put, List.setIfInBounds_toArray, List.set_cons_zero, List.set_cons_succ])
          refine wpList_val (by rw [hO]; kernel_rfl) (.bool false) (fun K9 hK9 => by go_simp; exact hK9) ?_
          (try simp only [Act.put, List.setIfInBounds_toArray, List.set_cons_zero, List.set_cons_succ])
          refine wpList_val (by rw [hO]; kernel_rfl) (.pointer po) (fun K9 hK9 => by go_simp; exact hK9) ?_
          (try simp only [Act.put, List.setIfInBounds_toArray, List.set_cons_zero, List.set_cons_succ])
          refine wpList_want (by rw [hO]; kernel_rfl) fun K9 hK9 => ?_
          go_simp
          go_at_call 21
          refine (unhide HCK _ _ hN3).mono ?_
          rintro e w5 ⟨rfl, g5⟩
          have hN5 := hN3.none g5
          refine hK9 _ _ ?_
          clear hK9 K9
          (try simp only [Act.put, List.setIfInBounds_toArray, List.set_cons_zero, List.set_cons_succ])
          refine wpList_val (by rw [hO]; kernel_rfl) (.agg ZA) (fun K9 hK9 => wp_built _ _ rfl _ (by simpa [Act.eval] using unhide HBK) hK9) ?_
          (try simp only [Act.put, List.setIfInBounds_toArray, List.set_cons_zero, List.set_cons_succ])
          refine wpList_val (by rw [hO]; kernel_rfl) (.bool false) (fun K9 hK9 => wp_neq _ _ _ _ rfl _ _ _ rfl rfl guard_key (unhide HNK w5) hK9) ?_
          (try simp only [Act.put, List.setIfInBounds_toArray, List.set_cons_zero, List.set_cons_succ])
          refine wpList_val (by rw [hO]; kernel_rfl) (.bool false) (fun K9 hK9 => by go_simp; exact hK9) ?_
          (try simp only [Act.put, List.setIfInBounds_toArray, List.set_cons_zero, List.set_cons_succ])
          refine wpList_val (by rw [hO]; kernel_rfl) (.bool false) (fun K9 hK9 => by go_simp; exact hK9) ?_
          (try simp only [Act.put, List.setIfInBounds_toArray, List.set_cons_zero, List.set_cons_succ])
          refine wpList_val (by rw [hO]; kernel_rfl) (.pointer po) (fun K9 hK9 => by go_simp; exact hK9) ?_
          (try simp only [Act.put, List.setIfInBounds_toArray, List.set_cons_zero, List.set_cons_succ])
          refine wpList_val (by rw [hO]; kernel_rfl) (.slice ao n c) (fun K9 hK9 => by go_simp; exact hK9) ?_
          (try simp only [Act.put, List.setIfInBounds_toArray, List.set_cons_zero, List.set_cons_succ])
          refine wpList_want (by rw [hO]; kernel_rfl) fun K9 hK9 => ?_
          go_simp
          go_at_call 16
          refine (bknown_no _ _ hN5 _).mono ?_
          rintro e w6 ⟨rfl, e6⟩
          subst w6
          refine hK9 _ _ ?_
          clear hK9 K9
          (try simp only [Act.put, List.setIfInBounds_toArray, List.set_cons_zero, List.set_cons_succ])
          refine wpList_val (by rw [hO]; kernel_rfl) (.bool false) (fun K9 hK9 => by go_simp; exact hK9) ?_
          (try simp only [Act.put, List.setIfInBounds_toArray, List.set_cons_zero, List.set_cons_succ])
          refine wpList_val (by rw [hO]; kernel_rfl) (.bool false) (fun K9 hK9 => by go_simp; exact hK9) ?_
          (try simp only [Act.put, List.setIfInBounds_toArray, List.set_cons_zero, List.set_cons_succ])
          refine wpList_val (by rw [hO]; kernel_rfl) (.pointer po) (fun K9 hK9 => by go_simp; exact hK9) ?_
          (try simp only [Act.put, List.setIfInBounds_toArray, List.set_cons_zero, List.set_cons_succ])
          refine wpList_want (by rw [hO]; kernel_rfl) fun K9 hK9 => ?_
          go_simp
          go_at_call 18
          refine (count_no _ _ hN5).mono ?_
          rintro e w7 ⟨rfl, e7⟩
          subst w7
          refine hK9 _ _ ?_
          clear hK9 K9
          (try simp only [Act.put, List.setIfInBounds_toArray, List.set_cons_zero, List.set_cons_succ])
          refine wpList_val (by rw [hO]; kernel_rfl) (.pointer po) (fun K9 hK9 => by go_simp; exact hK9) ?_
          (try simp only [Act.put, List.setIfInBounds_toArray, List.set_cons_zero, List.set_cons_succ])
          refine wpList_want (by rw [hO]; kernel_rfl) fun K9 hK9 => ?_
          go_simp
          go_at_call 19
          refine (mode_no _ _ hN5).mono ?_
          rintro e w8 ⟨rfl, e8⟩
          subst w8
          refine hK9 _ _ ?_
          clear hK9 K9
          (try simp only [Act.put, List.setIfInBounds_toArray, List.set_cons_zero, List.set_cons_succ])
          refine wpList_val (by rw [hO]; kernel_rfl) (.int .i64 0) (fun K9 hK9 => by go_simp; exact hK9) ?_
          (try simp only [Act.put, List.setIfInBounds_toArray, List.set_cons_zero, List.set_cons_succ])
          refine wpList_val (by rw [hO]; kernel_rfl) (.bool false) (fun K9 hK9 => by go_simp; exact hK9) ?_
          (try simp only [Act.put, List.setIfInBounds_toArray, List.set_cons_zero, List.set_cons_succ])
          refine wpList_val (by rw [hO]; kernel_rfl) (.bool false) (fun K9 hK9 => by go_simp; exact hK9) ?_
          (try simp only [Act.put, List.setIfInBounds_toArray, List.set_cons_zero, List.set_cons_succ])
          go_wp2
          go_roundw
          case rel => exact ⟨2, by omega, by go_num, tn (tn (tn G0 g2) g3) g5⟩
          case measure => simp [intOf]
      · obtain rfl : j = 2 := by omega
        go_upto_region 13 with fail
        refine region_named fun O hO => ?_
        refine wpList_want (by rw [hO]; kernel_rfl) fun K9 hK9 => ?_
        go_simp
        go_at_call 8
        refine (new_nil _).mono ?_
        rintro e w2 ⟨rfl, e2⟩
        subst w2
        refine hK9 _ _ ?_
        clear hK9 K9
        (try simp only [Act.put, List.setIfInBounds_toArray, List.set_cons_zero, List.set_cons_succ])
        refine wpList_val (by rw [hO]; kernel_rfl) (.tuple #[.pointer none, .int .i64 1]) (fun K9 hK9 => by go_simp; exact hK9) ?_
        (try simp only [Act.put, List.setIfInBounds_toArray, List.set_cons_zero, List.set_cons_succ])
        refine wpList_val (by rw [hO]; kernel_rfl) (.pointer none) (fun K9 hK9 => by go_simp; exact hK9) ?_
        (try simp only [Act.put, List.setIfInBounds_toArray, List.set_cons_zero, List.set_cons_succ])
        refine wpList_val (by rw [hO]; kernel_rfl) (.int .i64 1) (fun K9 hK9 => by go_simp; exact hK9) ?_
        (try simp only [Act.put, List.setIfInBounds_toArray, List.set_cons_zero, List.set_cons_succ])
        refine wpList_val (by rw [hO]; kernel_rfl) (.pointer none) (fun K9 hK9 => by go_simp; exact hK9) ?_
        (try simp only [Act.put, List.setIfInBounds_toArray, List.set_cons_zero, List.set_cons_succ])
        refine wpList_val (by rw [hO]; kernel_rfl) (.int .i64 1) (fun K9 hK9 => by go_simp; exact hK9) ?_
        (try simp only [Act.put, List.setIfInBounds_toArray, List.set_cons_zero, List.set_cons_succ])
        go_upto_region 14 with fail
        have co := cone wr hg
        refine region_named fun O hO => ?_
        refine wpList_val (by rw [hO]; kernel_rfl) (.pointer none) (fun K9 hK9 => by go_simp; exact hK9) ?_
        (try simp only [Act.put, List.setIfInBounds_toArray, List.set_cons_zero, List.set_cons_succ])
        refine wpList_val (by rw [hO]; kernel_rfl) (.bool true) (fun K9 hK9 => by go_simp; exact hK9) ?_
        (try simp only [Act.put, List.setIfInBounds_toArray, List.set_cons_zero, List.set_cons_succ])
        refine wpList_val (by rw [hO]; kernel_rfl) (.bool true) (fun K9 hK9 => by go_simp; exact hK9) ?_
        (try simp only [Act.put, List.setIfInBounds_toArray, List.set_cons_zero, List.set_cons_succ])
        refine wpList_val (by rw [hO]; kernel_rfl) (.int .i64 1) (fun K9 hK9 => by go_simp; exact hK9) ?_
        (try simp only [Act.put, List.setIfInBounds_toArray, List.set_cons_zero, List.set_cons_succ])
        refine wpList_val (by rw [hO]; kernel_rfl) (.bool true) (fun K9 hK9 => by go_simp; exact hK9) ?_
        (try simp only [Act.put, List.setIfInBounds_toArray, List.set_cons_zero, List.set_cons_succ])
        refine wpList_val (by rw [hO]; kernel_rfl) (.bool true) (fun K9 hK9 => by go_simp; exact hK9) ?_
        (try simp only [Act.put, List.setIfInBounds_toArray, List.set_cons_zero, List.set_cons_succ])
        refine wpList_val (by rw [hO]; kernel_rfl) (.bool true) (fun K9 hK9 => by go_simp; exact hK9) ?_
        (try simp only [Act.put, List.setIfInBounds_toArray, List.set_cons_zero, List.set_cons_succ])
        refine wpList_want (by rw [hO]; kernel_rfl) fun K9 hK9 => ?_
        go_simp
        go_at_call 10
        refine (co).mono ?_
        rintro e w5 ⟨rfl, g5⟩
        refine hK9 _ _ ?_
        clear hK9 K9
        (try simp only [Act.put, List.setIfInBounds_toArray, List.set_cons_zero, List.set_cons_succ])
        refine wpList_val (by rw [hO]; kernel_rfl) (.bool true) (fun K9 hK9 => by go_simp; exact hK9) ?_
        (try simp only [Act.put, List.setIfInBounds_toArray, List.set_cons_zero, List.set_cons_succ])
        refine wpList_val (by rw [hO]; kernel_rfl) (.bool true) (fun K9 hK9 => by go_simp; exact hK9) ?_
        (try simp only [Act.put, List.setIfInBounds_toArray, List.set_cons_zero, List.set_cons_succ])
        go_wp2
        go_ret
        exact ⟨rfl, g5⟩

end Go.Proofs.YtjckdgapefaokaaDoor
