/- What kdf's Extract and Expand answer: the HMAC; and what HKDF tells, in new memory. Of texts of fewer than 2 to the 20 bytes; where the tables hold what they are laid with. -/
import Derived.Test.YtikdpifacokfpaaDoorKLaw
import Derived.Test.YtikdpifacokfpaaDoorEMath
namespace Go.Proofs.YtikdpifacokfpaaDoor
open Go.RowKit

theorem zero32x (w : World) : (zeroValue 23).run Tryd.prog w = .ok (.agg ((List.replicate 32 (0 : UInt8)).map bv).toArray) w := by kernel_rfl

theorem Bts.allocd {w : World} {ao : Option Addr} {c : Nat} {l : List UInt8} (h : Bts w ao c l) (o : Obj) : Bts (w.alloc o) ao c l := h.kept (World.grownBy_alloc w o none) (fun _ e => by cases e)

set_option maxRecDepth 100000 in
set_option maxHeartbeats 1000000 in
theorem extract_any (w : World) (so : Option Addr) (sc : Nat) (salt : List UInt8) (hs : Bts w so sc salt) (eo : Option Addr) (ec : Nat) (sec : List UInt8) (he : Bts w eo ec sec) (hT : Tabs w) (hsl : salt.length < 1048576) (hel : sec.length < 1048576) :
    Calls Tryd.prog 15 #[.slice so salt.length sc, .slice eo sec.length ec] w fun e w' => e = .returned (.agg ((macL salt sec).map bv).toArray) ∧ w.grownBy w' none := by
  have hi32 : (Tryd.prog.info? 23).map (·.size) = some 32 := by kernel_rfl
  obtain ⟨Z, hZ⟩ : ∃ A : Array Value, A = ((List.replicate 32 (0 : UInt8)).map bv).toArray := ⟨_, rfl⟩
  have hz := zero32x
  rw [← hZ] at hz
  obtain ⟨W1, hW1⟩ : ∃ W1, W1 = (w.alloc (.cells Z 23)).alloc (.cells #[.slice eo sec.length ec] 30) := ⟨_, rfl⟩
  have hg1 : w.grownBy W1 none := by rw [hW1]; exact gb_alloc (gb_alloc (gb_refl _ _) _) _
  have hR1 : Blk W1 w.heap.size 23 ((List.replicate 32 (0 : UInt8)).map bv) := by rw [hW1, hZ]; exact (Blk.new w 23 _).alloc _
  have hB1 : Blk W1 (w.heap.size + 1) 30 [.slice eo sec.length ec] := by
    have := Blk.new (w.alloc (.cells Z 23)) 30 [.slice eo sec.length ec]
    rw [World.size_alloc] at this
    rw [hW1]; exact this
  have hm := mac_any W1 so sc salt (hs.kept hg1 (fun _ e => by cases e)) (some ⟨w.heap.size + 1, 0, none⟩) 1 [sec] (lst_one (he.kept hg1 (fun _ e => by cases e)) (w.heap.size + 1) hB1) (hT.kept0 hg1) (by omega) (by simp; omega)
  rw [show [sec].flatten = sec by simp, show [sec].length = 1 from rfl] at hm
  obtain ⟨x, hx⟩ : ∃ x, x = macL salt sec := ⟨_, rfl⟩
  have hx32 : x.length = 32 := by rw [hx]; exact macL_length _ _
  rw [← hx] at hm ⊢
  have hsz : ((x.map bv).toArray).size = 32 := by simp [hx32]
  have HZ := hide hZ
  have HW1 := hide hW1
  have HSZ := hide hsz
  have HR1 := hide hR1
  clear hZ hW1 hsz hR1 hB1 hs he hT hx hx32
  go_enter Tryd.func15, Tryd.ntmps15
  go_wp2_with fail
  rw [← unhide HW1]
  refine hm.mono ?_
  rintro e w2 ⟨rfl, g2⟩
  have hR2 := (unhide HR1).kept g2 (by simp)
  go_wp2_with (refine wpList_store_row rfl 23 _ _ rfl w.heap.size _ rfl rfl _ _ hR2 ?_ ?_ ?_ ?_; (rw [unhide HSZ]; exact hi32); (rw [unhide HSZ]; rfl); (exact all_oneCell_toArray (bv_one _)))
  have hS := hR2.row (x.map bv)
  have hG : w.grownBy (w2.setRow w.heap.size (x.map bv).toArray) none := gb_row (gb_trans hg1 g2 (fun _ e => by cases e)) _ (Or.inl (Nat.le_refl _))
  refine bodyPost_ret (v := .agg (x.map bv).toArray) (results_cell_row (g := w.heap.size) rfl _ _ _ _ _ _ ?_ hS Tryd.underlying23 rfl ?_) rfl ⟨rfl, hG⟩
  · rfl
  · rw [unhide HSZ]; exact hi32

theorem lst_three {W1 : World} {ao bo co : Option Addr} {ca cb cc : Nat} {a b c : List UInt8} (ha : Bts W1 ao ca a) (hb : Bts W1 bo cb b) (hc : Bts W1 co cc c) (N : Nat) {t : TypeId} (hB : Blk W1 N t [.slice ao a.length ca, .slice bo b.length cb, .slice co c.length cc]) :
    Lst W1 (some ⟨N, 0, none⟩) 3 [a, b, c] := by
  refine ⟨(fun e => by cases e), by simp, by unfold maxLen; omega, (fun ad e _ => by cases e; rfl), (fun ad e i hi => ?_)⟩
  cases e
  match i, hi with
  | 0, _ => exact ⟨ao, ca, hB.cell 0, ha⟩
  | 1, _ => exact ⟨bo, cb, hB.cell 1, hb⟩
  | 2, _ => exact ⟨co, cc, hB.cell 2, hc⟩

theorem expand_no (w : World) (K : List UInt8) (v : Value) (n : Int) (h : n < 0 ∨ 8160 < n) :
    Calls Tryd.prog 17 #[.agg (K.map bv).toArray, v, .int .i64 n] w fun e w' => e = .returned (.tuple #[.slice none 0 0, .bool false]) ∧ w.grownBy w' none := by
  by_cases h1 : n < 0
  · go_enter Tryd.func17, Tryd.ntmps17
    go_wp2
    go_ret2
    exact ⟨rfl, gb_alloc (gb_refl _ _) _⟩
  · have h2 : (8160 : Int) < n := by omega
    go_enter Tryd.func17, Tryd.ntmps17
    go_wp2
    go_ret2
    exact ⟨rfl, gb_alloc (gb_refl _ _) _⟩

set_option maxRecDepth 100000 in
set_option maxHeartbeats 4000000 in
theorem expand_any (w : World) (K : List UInt8) (hK : K.length = 32) (io : Option Addr) (ic : Nat) (info : List UInt8) (hI : Bts w io ic info) (hil : info.length < 1048576) (n : Nat) (hn : n ≤ 8160) (hT : Tabs w) :
    Calls Tryd.prog 17 #[.agg (K.map bv).toArray, .slice io info.length ic, .int .i64 (n : Int)] w fun e w' => e = .returned (.tuple #[.slice (some ⟨w.heap.size + 1, 0, none⟩) n n, .bool true]) ∧ Bts w' (some ⟨w.heap.size + 1, 0, none⟩) n (expL K info n) ∧ w.grownBy w' none := by
  have hi32 : (Tryd.prog.info? 22).map (·.size) = some 32 := by kernel_rfl
  obtain ⟨i0, hi, hz0, hz1, hz2⟩ := info_parts info_byte
  obtain ⟨KA, hKA⟩ : ∃ A : Array Value, A = (K.map bv).toArray := ⟨_, rfl⟩
  rw [← hKA]
  obtain ⟨Y, hY⟩ : ∃ Y : Array Value, Y = ((List.replicate 32 (0 : UInt8)).map bv).toArray := ⟨_, rfl⟩
  have hyv := zero32
  rw [← hY] at hyv
  have q1 : ¬ (n : Int) < 0 := by omega
  have q2 : ¬ (8160 : Int) < (n : Int) := by omega
  have hKb : Blk (w.alloc (.cells KA 23)) w.heap.size 23 (K.map bv) := by rw [hKA]; exact Blk.new w 23 _
  obtain ⟨P, hP⟩ : ∃ P : Nat → List UInt8, ∀ r, P r = partE K info r := ⟨_, fun _ => rfl⟩
  obtain ⟨O, hO⟩ : ∃ O : Nat → List UInt8, ∀ r, O r = expL K info r := ⟨_, fun _ => rfl⟩
  have hsK := slice_arr_all 23 5 32 Tryd.underlying23 size_byte w.heap.size 0 (by omega)
  have HKA := hide hKA
  have HY := hide hY
  have HKB := hide hKb
  have HK := hide hK
  have HI := hide hI
  have HT := hide hT
  have HP := hide hP
  have HO := hide hO
  clear hKA hY hKb hK hI hT hP hO
  go_enter Tryd.func17, Tryd.ntmps17
  go_wp2_with (at_make; refine wpList_make_own _ rfl _ _ 30 rfl w.heap.size 5 i0 (.int .u8 0) 1 Tryd.underlying30 hi hz0 hz1 _ _ _ n rfl rfl ?c1 ?c2 ?c3 ?c4 ?_)
  case c1 => rfl
  case c2 => omega
  case c3 => unfold maxLen; omega
  intro w1 hown hgrow
  have hK1 := (unhide HKB).kept hgrow (by simp)
  have hg1 : w.grownBy w1 none := gb_trans (gb_alloc (gb_refl _ _) _) hgrow (fun _ e => by cases e)
  go_wp2
  obtain ⟨N1, hN1⟩ : ∃ N, N = w.heap.size + 1 := ⟨_, rfl⟩
  rw [← hN1] at hown ⊢
  have HN1 := hide hN1
  clear hN1
  go_loopw [8, 9, 10] (fun ov lv i wr => ∃ (r m : Nat) (lo : Option Addr) (lc : Nat) (x : UInt8), r ≤ 255 ∧ m = min (32 * r) n ∧ ov = .slice (some ⟨N1, 0, none⟩) m n ∧ lv = .slice lo (P r).length lc ∧ i = .int .u8 ((x.toNat : Nat) : Int) ∧ x = UInt8.ofNat (r + 1) ∧ wr.ownsRow w.heap.size 5 1 (.slice (some ⟨N1, 0, none⟩) m n) m ((O m).map bv) ∧ Bts wr lo lc (P r) ∧ Off lo N1 ∧ Blk wr w.heap.size 23 (K.map bv) ∧ w.grownBy wr none) (fun ov _ _ _ => 8160 - lenS ov)
  case atStart =>
    refine ⟨0, 0, none, 0, 1, by omega, by simp, rfl, by rw [unhide HP]; rfl, rfl, rfl, ?_, by rw [unhide HP]; exact Bts.nil _, (fun _ e => by cases e), hK1, hg1⟩
    rw [unhide HO]
    exact hown
  case round =>
    clear hown hK1 hg1 hgrow
    obtain ⟨r, m, lo, lc, x, hr, hm, rfl, rfl, rfl, hx, hown, hL, hoff, hKb, hg⟩ := hrel
    by_cases hlt : m < n
    · have hm2 : m = 32 * r := by omega
      have hr2 : r < 255 := by omega
      have hlti : (m : Int) < (n : Int) := by omega
      obtain ⟨p, hp⟩ : ∃ p, p = P r := ⟨_, rfl⟩
      rw [← hp] at hL ⊢
      have hpl : p.length ≤ 32 := by rw [hp, unhide HP]; exact partE_le _ _ _
      obtain ⟨W2, hW2⟩ : ∃ W2, W2 = (wr.alloc (.cells #[.int .u8 ((x.toNat : Nat) : Int)] 5)).alloc (.cells #[.slice lo p.length lc, .slice io info.length ic, .slice (some ⟨wr.heap.size, 0, none⟩) 1 1] 30) := ⟨_, rfl⟩
      have g2 : wr.grownBy W2 none := by rw [hW2]; exact gb_alloc (gb_alloc (gb_refl _ _) _) _
      have hx2 : Bts W2 (some ⟨wr.heap.size, 0, none⟩) 1 [x] := by
        rw [hW2]; exact (bts_row (t := 5) (l := [x]) (Blk.new wr 5 [.int .u8 ((x.toNat : Nat) : Int)]) 1 (Nat.le_refl _) (by unfold maxLen; omega)).allocd _
      have hB2 : Blk W2 (wr.heap.size + 1) 30 [.slice lo p.length lc, .slice io info.length ic, .slice (some ⟨wr.heap.size, 0, none⟩) [x].length 1] := by
        have := Blk.new (wr.alloc (.cells #[.int .u8 ((x.toNat : Nat) : Int)] 5)) 30 [.slice lo p.length lc, .slice io info.length ic, .slice (some ⟨wr.heap.size, 0, none⟩) 1 1]
        rw [World.size_alloc] at this
        rw [hW2]; exact this
      have hg2 := gb_trans hg g2 (fun _ e => by cases e)
      have hkb2 : Bts W2 (some ⟨w.heap.size, 0, none⟩) 32 K := bts_row (hKb.kept g2 (by simp)) 32 (by rw [unhide HK]; exact Nat.le_refl _) (by unfold maxLen; omega)
      have hmc := mac_any W2 _ 32 K hkb2 (some ⟨wr.heap.size + 1, 0, none⟩) 3 [p, info, [x]] (lst_three (hL.kept g2 (fun _ e => by cases e)) ((unhide HI).kept hg2 (fun _ e => by cases e)) hx2 (wr.heap.size + 1) hB2) ((unhide HT).kept0 hg2) (by rw [unhide HK]; omega) (by simp; omega)
      have hnx : macL K [p, info, [x]].flatten = P (r + 1) := by
        rw [show [p, info, [x]].flatten = p ++ info ++ [x] by simp, hp, hx, unhide HP, unhide HP]; rfl
      rw [hnx, unhide HK, show [p, info, [x]].length = 3 from rfl] at hmc
      obtain ⟨p2, hp2⟩ : ∃ p, p = P (r + 1) := ⟨_, rfl⟩
      rw [← hp2] at hmc
      have hp32 : p2.length = 32 := by rw [hp2, unhide HP]; exact partE_length _ _ _
      have hsz : ((p2.map bv).toArray).size = 32 := by simp [hp32]
      obtain ⟨e, hne⟩ : ∃ e : Nat, e = n - m := ⟨_, rfl⟩
      have hnm : (n : Int) - (m : Int) = (e : Int) := by omega
      have hnw : IntKind.i64.wrap (e : Int) = (e : Int) := by rw [IntKind.wrap_i64]; omega
      obtain ⟨d, hd⟩ : ∃ d : Nat, d = min 32 e := ⟨_, rfl⟩
      have HW2 := hide hW2
      have HOWN := hide hown
      have HL := hide hL
      have HKB2 := hide hKb
      have HP2 := hide hp2
      have HP32 := hide hp32
      have HSZ := hide hsz
      have HX := hide hx
      have HM := hide hm
      have HM2 := hide hm2
      have HDD := hide hd
      have HPP := hide hp
      have HNE := hide hne
      have hlN := hown.lt N1 rfl
      clear hne hW2 hown hL hKb hp2 hp32 hsz hx hm hm2 hd hp hnx hB2 hx2 hkb2
      go_wp2_with fail
      rw [← unhide HW2]
      refine hmc.mono ?_
      rintro e w3 ⟨rfl, g3⟩
      clear hmc
      have hN3 : Blk (w3.alloc (.cells Y 22)) w3.heap.size 22 ((List.replicate 32 (0 : UInt8)).map bv) := by
        rw [unhide HY]; exact Blk.new w3 22 _
      obtain ⟨W4, hW4⟩ : ∃ W4, W4 = (w3.alloc (.cells Y 22)).setRow w3.heap.size (p2.map bv).toArray := ⟨_, rfl⟩
      have hB4 : Blk W4 w3.heap.size 22 (p2.map bv) := by rw [hW4]; exact hN3.row _
      have g4 : wr.grownBy W4 none := by rw [hW4]; exact gb_row (gb_alloc (gb_trans g2 g3 (fun _ e => by cases e)) _) _ (Or.inl (Nat.le_trans g2.size g3.size))
      have hsl := slice_arr_all 22 5 32 Tryd.underlying22 size_byte w3.heap.size 0 (by omega)
      have HN3 := hide hN3
      have HW4 := hide hW4
      have HB4 := hide hB4
      clear hN3 hW4 hB4
      have hs3 := g3.size
      have hs2 := g2.size
      have hn4 : ∀ ad, some (⟨w3.heap.size, 0, none⟩ : Addr) = some ad → ∀ j u, ((p2.take d).map bv)[j]? = some u → W4.cell? (ad.add j) = some u := by
        intro ad e j u hu
        cases e
        have hbt := bts_row (unhide HB4) 32 (by rw [unhide HP32]; exact Nat.le_refl _) (by unfold maxLen; omega)
        exact (hbt.take d (by rw [unhide HP32]; have := unhide HDD; omega)).news _ rfl j u hu
      have hown4 := (unhide HOWN).kept g4 (Or.inr (by simp [Value.ownBlock]))
      have HNEWS := hide hn4
      have HOWN4 := hide hown4
      clear hn4 hown4
      by_cases h32 : 32 ≤ e
      · have hde : (32 : Int) ≤ (e : Int) := by omega
        have hd32 : d = 32 := by have := unhide HDD; omega
        have hst : ∀ W, (Instr.slice 30 (.slice (some ⟨w3.heap.size, 0, none⟩) 32 32) none (some (.int .i64 32)) none).run Tryd.prog W = .ok (.slice (some ⟨w3.heap.size, 0, none⟩) d 32) W := fun W => by
          rw [hd32]; exact slice_to W _ _ Tryd.underlying30 size_byte _ 32 32 32 (by omega)
        clear hd32
        go_wp2_with (first | (refine wpList_store_row rfl 22 _ _ rfl w3.heap.size _ rfl rfl _ _ (unhide HN3) ?_ ?_ ?_ ?_; (rw [unhide HSZ]; exact hi32); (rw [unhide HSZ]; rfl); (exact all_oneCell_toArray (bv_one _)); refine (show wpList _ _ _ _ _ W4 → _ from fun q => unhide HW4 ▸ q) ?_) | (at_builtin; refine wpList_append_fits_any _ rfl _ _ 30 rfl w.heap.size 5 i0 1 Tryd.underlying30 hi hz1 N1 m n ((O m).map bv) rfl (unhide HOWN4) (some ⟨w3.heap.size, 0, none⟩) d 32 ((p2.take d).map bv) rfl ?d1 (fun e => by cases e) (unhide HNEWS) (bv_one _) ?d2 ?_))
        case d1 => rw [List.length_map, List.length_take, unhide HP32]; have := unhide HDD; omega
        case d2 => have := unhide HDD; have := unhide HNE; omega
        intro w5 hown5 hgrow5
        go_wp2
        go_roundw
        case rel =>
          have hdd := unhide HDD
          have hm2 := unhide HM2
          have hnn := unhide HNE
          have e1 : (O m).map bv ++ (p2.take d).map bv = (O (m + d)).map bv := by
            rw [← List.map_append, unhide HO, unhide HO, unhide HP2, unhide HP, hm2, expL_next K info r d hr2 (by omega)]
          rw [← List.map_take, e1] at hown5
          have hb5 := (unhide HB4).kept hgrow5 (by simp; omega)
          have hk5 := ((unhide HKB2).kept g4 (by simp)).kept hgrow5 (by have := unhide HN1; simp; omega)
          have hg5 : w.grownBy w5 none := gb_trans (gb_trans hg g4 (fun _ e => by cases e)) hgrow5 (fun y e => by cases e; exact Or.inl (by omega))
          refine ⟨r + 1, m + d, some ⟨w3.heap.size, 0, none⟩, 32, UInt8.ofNat (r + 1 + 1), by omega, by omega, rfl, by rw [← unhide HP2, unhide HP32], ?_, rfl, hown5, by rw [← unhide HP2]; exact bts_row hb5 32 (by rw [unhide HP32]; exact Nat.le_refl _) (by unfold maxLen; omega), (fun ad e => by cases e; show w3.heap.size ≠ N1; omega), hk5, hg5⟩
          have hxx := unhide HX
          rw [hxx]
          congr 1
          first | (rw [UInt8.toNat_ofNat', UInt8.toNat_ofNat']; omega) | (simp; omega)
        case measure =>
          have hdd := unhide HDD
          have hnn := unhide HNE
          show 8160 - (m + d) < 8160 - m
          omega
      · have hde : ¬ (32 : Int) ≤ (e : Int) := by omega
        have hdf : (e : Int) < 32 := by omega
        have hde2 : d = e := by have := unhide HDD; omega
        have hst : ∀ W, (Instr.slice 30 (.slice (some ⟨w3.heap.size, 0, none⟩) 32 32) none (some (.int .i64 (e : Int))) none).run Tryd.prog W = .ok (.slice (some ⟨w3.heap.size, 0, none⟩) d 32) W := fun W => by
          rw [hde2]; exact slice_to W _ _ Tryd.underlying30 size_byte _ 32 32 e (by omega)
        clear hde2
        go_wp2_with (first | (refine wpList_store_row rfl 22 _ _ rfl w3.heap.size _ rfl rfl _ _ (unhide HN3) ?_ ?_ ?_ ?_; (rw [unhide HSZ]; exact hi32); (rw [unhide HSZ]; rfl); (exact all_oneCell_toArray (bv_one _)); refine (show wpList _ _ _ _ _ W4 → _ from fun q => unhide HW4 ▸ q) ?_) | (at_builtin; refine wpList_append_fits_any _ rfl _ _ 30 rfl w.heap.size 5 i0 1 Tryd.underlying30 hi hz1 N1 m n ((O m).map bv) rfl (unhide HOWN4) (some ⟨w3.heap.size, 0, none⟩) d 32 ((p2.take d).map bv) rfl ?d1 (fun e => by cases e) (unhide HNEWS) (bv_one _) ?d2 ?_))
        case d1 => rw [List.length_map, List.length_take, unhide HP32]; have := unhide HDD; omega
        case d2 => have := unhide HDD; have := unhide HNE; omega
        intro w5 hown5 hgrow5
        go_wp2
        go_roundw
        case rel =>
          have hdd := unhide HDD
          have hm2 := unhide HM2
          have hnn := unhide HNE
          have e1 : (O m).map bv ++ (p2.take d).map bv = (O (m + d)).map bv := by
            rw [← List.map_append, unhide HO, unhide HO, unhide HP2, unhide HP, hm2, expL_next K info r d hr2 (by omega)]
          rw [← List.map_take, e1] at hown5
          have hb5 := (unhide HB4).kept hgrow5 (by simp; omega)
          have hk5 := ((unhide HKB2).kept g4 (by simp)).kept hgrow5 (by have := unhide HN1; simp; omega)
          have hg5 : w.grownBy w5 none := gb_trans (gb_trans hg g4 (fun _ e => by cases e)) hgrow5 (fun y e => by cases e; exact Or.inl (by omega))
          refine ⟨r + 1, m + d, some ⟨w3.heap.size, 0, none⟩, 32, UInt8.ofNat (r + 1 + 1), by omega, by omega, rfl, by rw [← unhide HP2, unhide HP32], ?_, rfl, hown5, by rw [← unhide HP2]; exact bts_row hb5 32 (by rw [unhide HP32]; exact Nat.le_refl _) (by unfold maxLen; omega), (fun ad e => by cases e; show w3.heap.size ≠ N1; omega), hk5, hg5⟩
          have hxx := unhide HX
          rw [hxx]
          congr 1
          first | (rw [UInt8.toNat_ofNat', UInt8.toNat_ofNat']; omega) | (simp; omega)
        case measure =>
          have hdd := unhide HDD
          have hnn := unhide HNE
          show 8160 - (m + d) < 8160 - m
          omega
    · obtain rfl : m = n := by omega
      have hnl : ¬ (m : Int) < (m : Int) := by omega
      have hbo := Bts.own hown
      rw [unhide HO] at hbo
      have HBO := hide hbo
      clear hown hL hoff hKb hbo hm hx
      go_wp2
      go_ret2
      rw [← unhide HN1]
      exact ⟨rfl, (unhide HBO).2.2, hg⟩

end Go.Proofs.YtikdpifacokfpaaDoor
