/- The law package's short and one (layer 8): one answers true, and nothing that was in memory has changed. Where the three tables hold what they are laid with. -/
import Derived.Test.YtjckdgapefaokaaDoorBSeal
import Derived.Test.YtjckdgapefaokaaDoorCofD
namespace Go.Proofs.YtjckdgapefaokaaDoor
open Go.RowKit

theorem short8_any (w : World) (ao : Option Addr) (c : Nat) (x : List UInt8) (hf : x.length ≤ c) :
    Calls Tryd.prog 11 #[.slice ao x.length c] w fun e w' => e = .returned (.slice ao (x.take 200).length c) ∧ w' = w := by
  by_cases h : 200 < x.length
  · have h2 : (200 : Int) < (x.length : Int) := by omega
    have hto : ∀ W, (Instr.slice 22 (.slice ao x.length c) none (some (.int .i64 200)) none).run Tryd.prog W = .ok (.slice ao 200 c) W := fun W => slice_to (P := Tryd.prog) W 22 5 Tryd.underlying22 size_byte ao x.length c 200 (by omega)
    have hl : (x.take 200).length = 200 := by rw [List.length_take]; omega
    rw [hl]
    clear hl hf h
    go_enter Tryd.func11, Tryd.ntmps11
    go_wp2
    go_ret
    exact ⟨rfl, rfl⟩
  · have h2 : ¬ (200 : Int) < (x.length : Int) := by omega
    rw [List.take_of_length_le (by omega)]
    go_enter Tryd.func11, Tryd.ntmps11
    go_wp2
    go_ret
    exact ⟨rfl, rfl⟩

theorem built_key1 (x : UInt8) : Tryd.prog.built 37 [(0, bv x)] = some ((key1 x).map bv).toArray := by kernel_rfl

/-- The letters ab, in memory of their own. -/
theorem text_ab (w : World) : ∃ W1, W1 = w.alloc (.cells #[.int .u8 97, .int .u8 98] 5 (2, 3)) ∧ BtT W1 (some ⟨w.heap.size, 0, none⟩) 2 [97, 98] ∧ w.grownBy W1 none :=
  ⟨_, rfl, ⟨bts_new w [97, 98] (2, 3) (by decide), fun ad e => by cases e; exact ⟨_, _, heap_alloc_new w _⟩⟩, gb_alloc (gb_refl _ _) _⟩

/-- What one's play comes to. -/
theorem one_play (m : Nat) (hm : m = 0 ∨ m = 1) : ∃ B t, (BoxS.mk m [] 0 []).seal (key1 1) [] [97, 98] = (B, some t) ∧ t.length = 30 ∧ B.opn (key1 1) [] t = some [97, 98] ∧ B.opn (key1 2) [] t = none ∧ ∀ x ∈ B.L, x.tx.length ≤ 2000 := by
  rcases hm with rfl | rfl
  · refine ⟨_, _, rfl, ?_, ?_, ?_, ?_⟩
    · rw [none_told, List.length_append, sealL_length]; rfl
    · exact opn_real (b := ⟨0, [], 0, []⟩) rfl (key1 1) [] [97, 98]
    · show BoxS.opn ⟨0, [], 12, _⟩ _ _ (told [] 0 12 ++ sealL (key1 1) (told [] 0 12) [] [97, 98]) = none
      unfold BoxS.opn
      rw [if_pos rfl, none_told, if_neg (by rw [List.length_append, sealL_length]; decide), List.take_left' (by rfl), List.drop_left' (by rfl), other_key]
      rfl
    · intro x hx
      have : x = ⟨told [] 0 12 ++ sealL (key1 1) (told [] 0 12) [] [97, 98], [], [], []⟩ := by simpa [BoxS.seal] using hx
      rw [this]; decide
  · have hs : (BoxS.mk 1 [] 0 []).seal (key1 1) [] [97, 98] = (⟨1, [], 30, [⟨told [] 0 30, key1 1, [], [97, 98]⟩]⟩, some (told [] 0 30)) := rfl
    have hn : (BoxS.mk 1 [] 30 [⟨told [] 0 30, key1 1, [], [97, 98]⟩]).ss.Nodup := by simp [BoxS.ss]
    refine ⟨_, _, hs, told_length _ _ _, ?_, ?_, ?_⟩
    · have := opn_of (b := ⟨1, [], 30, [⟨told [] 0 30, key1 1, [], [97, 98]⟩]⟩) rfl hn (e := ⟨told [] 0 30, key1 1, [], [97, 98]⟩) (by simp) (key1 1) []
      rw [if_pos ⟨rfl, rfl⟩] at this
      exact this
    · have := opn_of (b := ⟨1, [], 30, [⟨told [] 0 30, key1 1, [], [97, 98]⟩]⟩) rfl hn (e := ⟨told [] 0 30, key1 1, [], [97, 98]⟩) (by simp) (key1 2) []
      rw [if_neg (by intro e; exact absurd e.1 (by decide))] at this
      exact this
    · intro x hx
      have : x = ⟨told [] 0 30, key1 1, [], [97, 98]⟩ := by simpa using hx
      rw [this]; decide

theorem ok_new (m : Nat) (hm : m = 0 ∨ m = 1) (T : List UInt8) (n : Nat) : (BoxS.mk m T n []).Ok := ⟨hm, fun _ x h => by simp at h, fun _ => by simp [BoxS.ss], fun _ x h => by simp at h⟩

set_option maxRecDepth 100000 in
set_option maxHeartbeats 2000000 in
theorem bone_any (w : World) (hT : Tabs w) (hC : CTab w) :
    Calls Tryd.prog 10 #[] w fun e w' => e = .returned (.bool true) ∧ w.grownBy w' none := by
  have cdn : ∀ V, w.grownBy V none → Calls Tryd.prog 9 #[.slice none 0 0] V fun e w' => ∃ bs, e = .returned (.pointer (some ⟨bs, 0, none⟩)) ∧ w.heap.size ≤ bs ∧ SrcAt w' bs [] 0 ∧ w.grownBy w' none := fun V gV =>
    (dnew_any V none 0 [] ⟨(fun _ => ⟨rfl, rfl⟩), Nat.le_refl _, Nat.zero_le _, (fun _ e => by cases e), (fun _ e => by cases e)⟩ (hT.kept0 gV) (by simp)).mono fun e w' ⟨b, he, hb, hS, g⟩ => ⟨b, he, Nat.le_trans gV.size hb, hS, tn gV g⟩
  have kc := fun (w : World) (C : Array Value) (n c : Nat) => Lib.run_convert_bytes_const (P := Tryd.prog) w 22 5 C n c Tryd.underlying22 Tryd.underlying5
  have hb1 : Tryd.prog.built 37 [(0, .int .u8 1)] = some ((key1 1).map bv).toArray := built_key1 1
  have hb2 : Tryd.prog.built 37 [(0, .int .u8 2)] = some ((key1 2).map bv).toArray := built_key1 2
  obtain ⟨KA, hKA⟩ : ∃ A : Array Value, A = ((key1 1).map bv).toArray := ⟨_, rfl⟩
  obtain ⟨KB, hKB⟩ : ∃ A : Array Value, A = ((key1 2).map bv).toArray := ⟨_, rfl⟩
  rw [← hKA] at hb1
  rw [← hKB] at hb2
  have play : ∀ (m : Nat) (hm : m = 0 ∨ m = 1) (V : World) (bs : Nat), w.grownBy V none → w.heap.size ≤ bs → SrcAt V bs [] 0 →
      Calls Tryd.prog 8 #[.int .i64 (m : Int), .pointer (some ⟨bs, 0, none⟩)] V fun e w1 => ∃ bb, e = .returned (.tuple #[.pointer (some ⟨bb, 0, none⟩), .int .i64 0]) ∧ w.grownBy w1 none ∧
        ∀ W ao, w1.grownBy W none → BtT W ao 2 [97, 98] → Calls Tryd.prog 12 #[.pointer (some ⟨bb, 0, none⟩), .agg KA, .slice none 0 0, .slice ao 2 2] W fun e w2 => ∃ so sc, e = .returned (.tuple #[.slice so 30 sc, .int .i64 0]) ∧ w.grownBy w2 none ∧
          (Calls Tryd.prog 14 #[.pointer (some ⟨bb, 0, none⟩), .agg KA, .slice none 0 0, .slice so 30 sc] w2 fun e w3 => ∃ xo xc, e = .returned (.tuple #[.slice xo 2 xc, .bool true]) ∧ w.grownBy w3 none ∧
            (Calls Tryd.prog 14 #[.pointer (some ⟨bb, 0, none⟩), .agg KB, .slice none 0 0, .slice so 30 sc] w3 fun e w4 => ∃ yo yc, e = .returned (.tuple #[.slice yo 0 yc, .bool false]) ∧ w.grownBy w4 none ∧
              (convert 22 9 (.slice xo 2 xc)).run Tryd.prog w4 = .ok (.string { data := #[97, 98] }) w4)) := fun m hm V bs gV hbs hS => by
    obtain ⟨B, t, hseal, htl, ho1, ho2, htx⟩ := one_play m hm
    have hok := (ok_new m hm [] 0).seal (key1 1) [] [97, 98] (key1_length 1)
    rw [hseal] at hok
    refine (new_any w V m bs [] 0 hm gV hbs hS).mono fun e w1 ⟨bb, bm, he, _, _, hB, g1⟩ => ⟨bb, he, tn gV g1, fun W ao gW hab => ?_⟩
    have G := tn (tn gV g1) gW
    have hBW := hB.none gW
    have := seal_any w W bb bs bm ⟨m, [], 0, []⟩ (key1 1) [] [97, 98] none ao 0 2 hBW G hT hC (key1_length 1) (Stays.nil _ _ _ _) (Stays.typ hab hBW) (by decide) (by decide) (ok_new m hm [] 0) (Nat.zero_le _) (Nat.zero_le _)
    rw [← hKA, hseal] at this
    refine this.mono fun e w2 ⟨so, sc, he, hs2, hB2, b2⟩ => ?_
    have he' : e = .returned (.tuple #[.slice so t.length sc, .int .i64 0]) := he
    have hs2' : BtT w2 so sc t := hs2
    have hB2' : BoxAt w w2 bb bs bm B := hB2
    have G2 := by3_gb G b2 hBW.nb hBW.ns hBW.nm
    rw [htl] at he'
    refine ⟨so, sc, he', G2, ?_⟩
    have c3 := open_any w w2 bb bs bm B (key1 1) [] t none so 0 sc hB2' G2 hC (key1_length 1) (Bts.nil _) hs2'.bts (by decide) (by omega) hok htx
    rw [← hKA, ho1, htl] at c3
    refine c3.mono fun e w3 ⟨xo, xc, he, hx3, g3⟩ => ?_
    have hx3' : BtT w3 xo xc [97, 98] := hx3
    refine ⟨xo, xc, he, tn G2 g3, ?_⟩
    have c4 := open_any w w3 bb bs bm B (key1 2) [] t none so 0 sc (hB2'.none g3) (tn G2 g3) hC (key1_length 2) (Bts.nil _) (hs2'.none g3).bts (by decide) (by omega) hok htx
    rw [← hKB, ho2, htl] at c4
    refine c4.mono fun e w4 ⟨yo, yc, he, _, g4⟩ => ?_
    exact ⟨yo, yc, he, tn (tn G2 g3) g4, conv_str (hx3'.none g4).bts⟩
  have HPL := hide play
  have HB1 := hide hb1
  have HB2 := hide hb2
  clear play hb1 hb2 hKA hKB hT hC
  go_enter Tryd.func10, Tryd.ntmps10
  go_wp2
  go_loopw [1] (fun i wr => ∃ m : Nat, m ≤ 2 ∧ i = .int .i64 m ∧ w.grownBy wr none) (fun i _ => 2 - (intOf i).toNat)
  case atStart => exact ⟨0, by omega, rfl, gb_refl _ _⟩
  case round =>
    obtain ⟨m, hm, rfl, hg⟩ := hrel
    by_cases hlt : m < 2
    · have hm2 : m = 0 ∨ m = 1 := by omega
      have hmi : (m : Int) < 2 := by omega
      have hwm : IntKind.i64.wrap ((m : Int) + 1) = (m : Int) + 1 := by rw [IntKind.wrap_i64]; omega
      have cd := cdn wr hg
      have HM := hide hm2
      clear cdn hm hm2 hg
      go_upto_region 4 with fail
      refine region_named fun O hO => ?_
      refine wpList_val (by rw [hO]; kernel_rfl) (.int .i64 (m : Int)) (fun K9 hK9 => by go_simp; exact hK9) ?_
      (try simp only [Act.put, List.setIfInBounds_toArray, List.set_cons_zero, List.set_cons_succ])
      refine wpList_want (by rw [hO]; kernel_rfl) fun K9 hK9 => ?_
      go_simp
      go_at_call 9
      refine (cd).mono ?_
      rintro e w1 ⟨bs, rfl, hbs, hS1, g1⟩
      clear cd
      refine hK9 _ _ ?_
      clear hK9 K9
      (try simp only [Act.put, List.setIfInBounds_toArray, List.set_cons_zero, List.set_cons_succ])
      refine wpList_want (by rw [hO]; kernel_rfl) fun K9 hK9 => ?_
      go_simp
      go_at_call 8
      refine (unhide HPL m (unhide HM) w1 bs g1 hbs hS1).mono ?_
      rintro e w2 ⟨bb, rfl, g2, pl2⟩
      clear hS1 g1
      refine hK9 _ _ ?_
      clear hK9 K9
      (try simp only [Act.put, List.setIfInBounds_toArray, List.set_cons_zero, List.set_cons_succ])
      refine wpList_val (by rw [hO]; kernel_rfl) (.tuple #[.pointer (some ⟨bb, 0, none⟩), .int .i64 0]) (fun K9 hK9 => by go_simp; exact hK9) ?_
      (try simp only [Act.put, List.setIfInBounds_toArray, List.set_cons_zero, List.set_cons_succ])
      refine wpList_val (by rw [hO]; kernel_rfl) (.pointer (some ⟨bb, 0, none⟩)) (fun K9 hK9 => by go_simp; exact hK9) ?_
      (try simp only [Act.put, List.setIfInBounds_toArray, List.set_cons_zero, List.set_cons_succ])
      refine wpList_val (by rw [hO]; kernel_rfl) (.int .i64 0) (fun K9 hK9 => by go_simp; exact hK9) ?_
      (try simp only [Act.put, List.setIfInBounds_toArray, List.set_cons_zero, List.set_cons_succ])
      refine wpList_val (by rw [hO]; kernel_rfl) (.pointer (some ⟨bb, 0, none⟩)) (fun K9 hK9 => by go_simp; exact hK9) ?_
      (try simp only [Act.put, List.setIfInBounds_toArray, List.set_cons_zero, List.set_cons_succ])
      refine wpList_val (by rw [hO]; kernel_rfl) (.int .i64 0) (fun K9 hK9 => by go_simp; exact hK9) ?_
      (try simp only [Act.put, List.setIfInBounds_toArray, List.set_cons_zero, List.set_cons_succ])
      go_upto_region 5 with fail
      refine region_named fun O hO => ?_
      refine wpList_val (by rw [hO]; kernel_rfl) (.pointer (some ⟨bb, 0, none⟩)) (fun K9 hK9 => by go_simp; exact hK9) ?_
      (try simp only [Act.put, List.setIfInBounds_toArray, List.set_cons_zero, List.set_cons_succ])
      refine wpList_built rfl 37 _ rfl KA (by simpa [Act.eval] using unhide HB1) ?_
      (try simp only [Act.put, List.setIfInBounds_toArray, List.set_cons_zero, List.set_cons_succ])
      refine wpList_want (by rw [hO]; kernel_rfl) fun K9 hK9 => ?_
      go_simp
      refine hK9 _ _ ?_
      clear hK9 K9
      (try simp only [Act.put, List.setIfInBounds_toArray, List.set_cons_zero, List.set_cons_succ])
      skip
      refine wpList_want (by rw [hO]; kernel_rfl) fun K9 hK9 => ?_
      go_simp
      refine hK9 _ _ ?_
      clear hK9 K9
      (try simp only [Act.put, List.setIfInBounds_toArray, List.set_cons_zero, List.set_cons_succ])
      obtain ⟨W3, hW3, hab, g3⟩ := text_ab w2
      rw [← hW3]
      have cs3 := pl2 W3 _ g3 hab
      clear hW3 pl2 hab
      refine wpList_want (by rw [hO]; kernel_rfl) fun K9 hK9 => ?_
      go_simp
      go_at_call 12
      refine (cs3).mono ?_
      rintro e w4 ⟨so, sc, rfl, g4, co4⟩
      clear cs3
      refine hK9 _ _ ?_
      clear hK9 K9
      (try simp only [Act.put, List.setIfInBounds_toArray, List.set_cons_zero, List.set_cons_succ])
      refine wpList_val (by rw [hO]; kernel_rfl) (.tuple #[.slice so 30 sc, .int .i64 0]) (fun K9 hK9 => by go_simp; exact hK9) ?_
      (try simp only [Act.put, List.setIfInBounds_toArray, List.set_cons_zero, List.set_cons_succ])
      refine wpList_val (by rw [hO]; kernel_rfl) (.slice so 30 sc) (fun K9 hK9 => by go_simp; exact hK9) ?_
      (try simp only [Act.put, List.setIfInBounds_toArray, List.set_cons_zero, List.set_cons_succ])
      refine wpList_val (by rw [hO]; kernel_rfl) (.int .i64 0) (fun K9 hK9 => by go_simp; exact hK9) ?_
      (try simp only [Act.put, List.setIfInBounds_toArray, List.set_cons_zero, List.set_cons_succ])
      refine wpList_val (by rw [hO]; kernel_rfl) (.slice so 30 sc) (fun K9 hK9 => by go_simp; exact hK9) ?_
      (try simp only [Act.put, List.setIfInBounds_toArray, List.set_cons_zero, List.set_cons_succ])
      refine wpList_val (by rw [hO]; kernel_rfl) (.int .i64 0) (fun K9 hK9 => by go_simp; exact hK9) ?_
      (try simp only [Act.put, List.setIfInBounds_toArray, List.set_cons_zero, List.set_cons_succ])
      go_upto_region 6 with fail
      refine region_named fun O hO => ?_
      refine wpList_val (by rw [hO]; kernel_rfl) (.pointer (some ⟨bb, 0, none⟩)) (fun K9 hK9 => by go_simp; exact hK9) ?_
      (try simp only [Act.put, List.setIfInBounds_toArray, List.set_cons_zero, List.set_cons_succ])
      refine wpList_built rfl 37 _ rfl KA (by simpa [Act.eval] using unhide HB1) ?_
      (try simp only [Act.put, List.setIfInBounds_toArray, List.set_cons_zero, List.set_cons_succ])
      refine wpList_val (by rw [hO]; kernel_rfl) (.slice so 30 sc) (fun K9 hK9 => by go_simp; exact hK9) ?_
      (try simp only [Act.put, List.setIfInBounds_toArray, List.set_cons_zero, List.set_cons_succ])
      refine wpList_want (by rw [hO]; kernel_rfl) fun K9 hK9 => ?_
      go_simp
      go_at_call 14
      refine (co4).mono ?_
      rintro e w5 ⟨xo, xc, rfl, g5, co5⟩
      clear co4
      refine hK9 _ _ ?_
      clear hK9 K9
      (try simp only [Act.put, List.setIfInBounds_toArray, List.set_cons_zero, List.set_cons_succ])
      refine wpList_val (by rw [hO]; kernel_rfl) (.tuple #[.slice xo 2 xc, .bool true]) (fun K9 hK9 => by go_simp; exact hK9) ?_
      (try simp only [Act.put, List.setIfInBounds_toArray, List.set_cons_zero, List.set_cons_succ])
      refine wpList_val (by rw [hO]; kernel_rfl) (.slice xo 2 xc) (fun K9 hK9 => by go_simp; exact hK9) ?_
      (try simp only [Act.put, List.setIfInBounds_toArray, List.set_cons_zero, List.set_cons_succ])
      refine wpList_val (by rw [hO]; kernel_rfl) (.bool true) (fun K9 hK9 => by go_simp; exact hK9) ?_
      (try simp only [Act.put, List.setIfInBounds_toArray, List.set_cons_zero, List.set_cons_succ])
      refine wpList_val (by rw [hO]; kernel_rfl) (.slice xo 2 xc) (fun K9 hK9 => by go_simp; exact hK9) ?_
      (try simp only [Act.put, List.setIfInBounds_toArray, List.set_cons_zero, List.set_cons_succ])
      refine wpList_val (by rw [hO]; kernel_rfl) (.bool true) (fun K9 hK9 => by go_simp; exact hK9) ?_
      (try simp only [Act.put, List.setIfInBounds_toArray, List.set_cons_zero, List.set_cons_succ])
      go_upto_region 7 with fail
      refine region_named fun O hO => ?_
      refine wpList_val (by rw [hO]; kernel_rfl) (.pointer (some ⟨bb, 0, none⟩)) (fun K9 hK9 => by go_simp; exact hK9) ?_
      (try simp only [Act.put, List.setIfInBounds_toArray, List.set_cons_zero, List.set_cons_succ])
      refine wpList_built rfl 37 _ rfl KB (by simpa [Act.eval] using unhide HB2) ?_
      (try simp only [Act.put, List.setIfInBounds_toArray, List.set_cons_zero, List.set_cons_succ])
      refine wpList_val (by rw [hO]; kernel_rfl) (.slice so 30 sc) (fun K9 hK9 => by go_simp; exact hK9) ?_
      (try simp only [Act.put, List.setIfInBounds_toArray, List.set_cons_zero, List.set_cons_succ])
      refine wpList_want (by rw [hO]; kernel_rfl) fun K9 hK9 => ?_
      go_simp
      go_at_call 14
      refine (co5).mono ?_
      rintro e w8 ⟨yo, yc, rfl, g8, hcv⟩
      clear co5
      refine hK9 _ _ ?_
      clear hK9 K9
      (try simp only [Act.put, List.setIfInBounds_toArray, List.set_cons_zero, List.set_cons_succ])
      refine wpList_val (by rw [hO]; kernel_rfl) (.tuple #[.slice yo 0 yc, .bool false]) (fun K9 hK9 => by go_simp; exact hK9) ?_
      (try simp only [Act.put, List.setIfInBounds_toArray, List.set_cons_zero, List.set_cons_succ])
      refine wpList_val (by rw [hO]; kernel_rfl) (.slice yo 0 yc) (fun K9 hK9 => by go_simp; exact hK9) ?_
      (try simp only [Act.put, List.setIfInBounds_toArray, List.set_cons_zero, List.set_cons_succ])
      refine wpList_val (by rw [hO]; kernel_rfl) (.bool false) (fun K9 hK9 => by go_simp; exact hK9) ?_
      (try simp only [Act.put, List.setIfInBounds_toArray, List.set_cons_zero, List.set_cons_succ])
      refine wpList_val (by rw [hO]; kernel_rfl) (.slice yo 0 yc) (fun K9 hK9 => by go_simp; exact hK9) ?_
      (try simp only [Act.put, List.setIfInBounds_toArray, List.set_cons_zero, List.set_cons_succ])
      refine wpList_val (by rw [hO]; kernel_rfl) (.bool false) (fun K9 hK9 => by go_simp; exact hK9) ?_
      (try simp only [Act.put, List.setIfInBounds_toArray, List.set_cons_zero, List.set_cons_succ])
      go_upto_region 8 with fail
      refine region_named fun O hO => ?_
      refine wpList_val (by rw [hO]; kernel_rfl) (.int .i64 0) (fun K9 hK9 => by go_simp; exact hK9) ?_
      (try simp only [Act.put, List.setIfInBounds_toArray, List.set_cons_zero, List.set_cons_succ])
      refine wpList_val (by rw [hO]; kernel_rfl) (.bool false) (fun K9 hK9 => by go_simp; exact hK9) ?_
      (try simp only [Act.put, List.setIfInBounds_toArray, List.set_cons_zero, List.set_cons_succ])
      refine wpList_val (by rw [hO]; kernel_rfl) (.bool false) (fun K9 hK9 => by go_simp; exact hK9) ?_
      (try simp only [Act.put, List.setIfInBounds_toArray, List.set_cons_zero, List.set_cons_succ])
      refine wpList_val (by rw [hO]; kernel_rfl) (.int .i64 0) (fun K9 hK9 => by go_simp; exact hK9) ?_
      (try simp only [Act.put, List.setIfInBounds_toArray, List.set_cons_zero, List.set_cons_succ])
      refine wpList_val (by rw [hO]; kernel_rfl) (.bool false) (fun K9 hK9 => by go_simp; exact hK9) ?_
      (try simp only [Act.put, List.setIfInBounds_toArray, List.set_cons_zero, List.set_cons_succ])
      refine wpList_val (by rw [hO]; kernel_rfl) (.bool false) (fun K9 hK9 => by go_simp; exact hK9) ?_
      (try simp only [Act.put, List.setIfInBounds_toArray, List.set_cons_zero, List.set_cons_succ])
      refine wpList_val (by rw [hO]; kernel_rfl) (.bool false) (fun K9 hK9 => by go_simp; exact hK9) ?_
      (try simp only [Act.put, List.setIfInBounds_toArray, List.set_cons_zero, List.set_cons_succ])
      refine wpList_val (by rw [hO]; kernel_rfl) (.slice so 30 sc) (fun K9 hK9 => by go_simp; exact hK9) ?_
      (try simp only [Act.put, List.setIfInBounds_toArray, List.set_cons_zero, List.set_cons_succ])
      refine wpList_val (by rw [hO]; kernel_rfl) (.int .i64 30) (fun K9 hK9 => by go_simp; exact hK9) ?_
      (try simp only [Act.put, List.setIfInBounds_toArray, List.set_cons_zero, List.set_cons_succ])
      refine wpList_val (by rw [hO]; kernel_rfl) (.bool false) (fun K9 hK9 => by go_simp; exact hK9) ?_
      (try simp only [Act.put, List.setIfInBounds_toArray, List.set_cons_zero, List.set_cons_succ])
      refine wpList_val (by rw [hO]; kernel_rfl) (.bool false) (fun K9 hK9 => by go_simp; exact hK9) ?_
      (try simp only [Act.put, List.setIfInBounds_toArray, List.set_cons_zero, List.set_cons_succ])
      refine wpList_val (by rw [hO]; kernel_rfl) (.bool false) (fun K9 hK9 => by go_simp; exact hK9) ?_
      (try simp only [Act.put, List.setIfInBounds_toArray, List.set_cons_zero, List.set_cons_succ])
      refine wpList_val (by rw [hO]; kernel_rfl) (.bool true) (fun K9 hK9 => by go_simp; exact hK9) ?_
      (try simp only [Act.put, List.setIfInBounds_toArray, List.set_cons_zero, List.set_cons_succ])
      refine wpList_val (by rw [hO]; kernel_rfl) (.bool false) (fun K9 hK9 => by go_simp; exact hK9) ?_
      (try simp only [Act.put, List.setIfInBounds_toArray, List.set_cons_zero, List.set_cons_succ])
      refine wpList_val (by rw [hO]; kernel_rfl) (.bool false) (fun K9 hK9 => by go_simp; exact hK9) ?_
      (try simp only [Act.put, List.setIfInBounds_toArray, List.set_cons_zero, List.set_cons_succ])
      refine wpList_val (by rw [hO]; kernel_rfl) (.bool false) (fun K9 hK9 => by go_simp; exact hK9) ?_
      (try simp only [Act.put, List.setIfInBounds_toArray, List.set_cons_zero, List.set_cons_succ])
      refine wpList_val (by rw [hO]; kernel_rfl) (.slice xo 2 xc) (fun K9 hK9 => by go_simp; exact hK9) ?_
      (try simp only [Act.put, List.setIfInBounds_toArray, List.set_cons_zero, List.set_cons_succ])
      refine wpList_val (by rw [hO]; kernel_rfl) (.string { data := #[97, 98] }) (fun K9 hK9 => by go_simp; exact hK9) ?_
      (try simp only [Act.put, List.setIfInBounds_toArray, List.set_cons_zero, List.set_cons_succ])
      refine wpList_val (by rw [hO]; kernel_rfl) (.bool false) (fun K9 hK9 => by go_simp; exact hK9) ?_
      (try simp only [Act.put, List.setIfInBounds_toArray, List.set_cons_zero, List.set_cons_succ])
      refine wpList_val (by rw [hO]; kernel_rfl) (.bool false) (fun K9 hK9 => by go_simp; exact hK9) ?_
      (try simp only [Act.put, List.setIfInBounds_toArray, List.set_cons_zero, List.set_cons_succ])
      refine wpList_val (by rw [hO]; kernel_rfl) (.bool false) (fun K9 hK9 => by go_simp; exact hK9) ?_
      (try simp only [Act.put, List.setIfInBounds_toArray, List.set_cons_zero, List.set_cons_succ])
      refine wpList_val (by rw [hO]; kernel_rfl) (.bool false) (fun K9 hK9 => by go_simp; exact hK9) ?_
      (try simp only [Act.put, List.setIfInBounds_toArray, List.set_cons_zero, List.set_cons_succ])
      refine wpList_val (by rw [hO]; kernel_rfl) (.bool false) (fun K9 hK9 => by go_simp; exact hK9) ?_
      (try simp only [Act.put, List.setIfInBounds_toArray, List.set_cons_zero, List.set_cons_succ])
      clear kc HPL
      go_wp2
      go_roundw
      case rel => exact ⟨m + 1, by omega, by go_num, g8⟩
      case measure => simp [intOf]; omega
    · obtain rfl : m = 2 := by omega
      clear kc HPL cdn
      go_wp2
      go_ret
      exact ⟨rfl, hg⟩

end Go.Proofs.YtjckdgapefaokaaDoor
