/- What the document's answer for layer 4 (package coffretref04) gives as a text laid over the key's bytes (Stream). Of a key of 32 bytes, a nonce of 12, and a text of at most 1000. -/
import Derived.Test.YtjckdgapefaokaaDoorCRefB
import Derived.Test.YtjckdgapefaokaaDoorCStream
namespace Go.Proofs.YtjckdgapefaokaaDoor
open Go.RowKit
attribute [local go_sem ↓] Go.wp_at_zero Go.wp_at_succ

set_option maxRecDepth 100000 in
set_option maxHeartbeats 4000000 in
theorem rstream_any (w : World) (k n : List UInt8) (c : W) (hk : k.length = 32) (hn : n.length = 12) (l : List UInt8) (hlen : l.length ≤ 1000) :
    Calls Tryd.prog 45 #[.string (str k), .string (str n), .int .u32 (wz c), .string (str l)] w fun e w' => e = .returned (.string (str (streamL k n c l))) ∧ w.grownBy w' none := by
  have hi64 : (Tryd.prog.info? 97).map (·.size) = some 64 := by kernel_rfl
  obtain ⟨Z, hZ⟩ : ∃ A : Array Value, A = ((List.replicate 64 (0 : UInt8)).map bv).toArray := ⟨_, rfl⟩
  have hz := zero64b
  rw [← hZ] at hz
  obtain ⟨xs, hxs⟩ : ∃ xs, xs = streamL k n c l := ⟨_, rfl⟩
  obtain ⟨N, hN⟩ : ∃ N, N = l.length := ⟨_, rfl⟩
  have hxl : xs.length = N := by rw [hxs, streamL_length, hN]
  have hls : (str l).size = N := by rw [str_size, hN]
  have hN1 : N ≤ 1000 := by omega
  have HZ := hide hZ
  have HK := hide hk
  have HN := hide hn
  have HNN := hide hN
  have HXS := hide hxs
  have HXL := hide hxl
  rw [← hxs]
  clear hZ hk hn hN hxs hxl hlen
  have hs0 : (Value.string { data := #[] }) = .string (str []) := rfl
  go_enter Tryd.func45, Tryd.ntmps45
  go_wp2
  go_loopw [9, 11] (fun so i wr => ∃ (r : Nat) (bl : List UInt8), r ≤ N ∧ so = .string (str (xs.take r)) ∧ i = .int .i64 r ∧ bl.length = 64 ∧ (r % 64 ≠ 0 → bl = blockL k n (c + BitVec.ofNat 32 (r / 64))) ∧ Blk wr w.heap.size 97 (bl.map bv) ∧ w.grownBy wr none) (fun _ i _ => N - (intOf i).toNat)
  case atStart =>
    refine ⟨0, List.replicate 64 0, Nat.zero_le _, rfl, rfl, List.length_replicate, fun h => absurd rfl h, ?_, gb_alloc (gb_refl _ _) _⟩
    rw [unhide HZ]; exact Blk.new w 97 _
  case round =>
    obtain ⟨r, bl, hr, rfl, rfl, hbl, hbe, hB, hg⟩ := hrel
    by_cases hlt : r < N
    · have hrl : r < l.length := by rw [← unhide HNN]; exact hlt
      obtain ⟨x, hx⟩ : ∃ x, x = l[r] := ⟨_, rfl⟩
      have hsi : ∀ h, ((str l)[r]'h).toNat = x.toNat := fun h => by rw [hx]; rfl
      obtain ⟨m, hm⟩ : ∃ m : Nat, m = r % 64 := ⟨_, rfl⟩
      obtain ⟨d, hd⟩ : ∃ d : Nat, d = r / 64 := ⟨_, rfl⟩
      have hm1 : (r : Int) % 64 = (m : Int) := by omega
      have hm2 : Int.tmod (r : Int) 64 = (m : Int) := by rw [Int.tmod_eq_emod_of_nonneg (by omega)]; omega
      have hd1 : (r : Int) / 64 = (d : Int) := by omega
      have hd2 : Int.tdiv (r : Int) 64 = (d : Int) := by rw [Int.tdiv_eq_ediv_of_nonneg (by omega)]; omega
      have hd3 : IntKind.i64.wrap (d : Int) = (d : Int) := by rw [IntKind.wrap_i64]; omega
      have hq0 : (0 : Int) ≤ (r : Int) := by omega
      have hq1 : (r : Int) < (N : Int) := by omega
      have m0 : (0 : Int) ≤ (m : Int) := by omega
      have m1 : (m : Int) < 64 := by omega
      have hkey : keyAt k n c r = (blockL k n (c + BitVec.ofNat 32 d)).getD m 0 := by rw [hm, hd]; rfl
      have hxr : xs.getD r 0 = x ^^^ keyAt k n c r := by rw [unhide HXS, streamL_get k n c l r hrl, hx]
      obtain ⟨os, hos⟩ : ∃ o, o = xs.take r := ⟨_, rfl⟩
      rw [← hos]
      have HOS := hide hos
      clear hos
      by_cases hm0 : m = 0
      · subst hm0
        have hm3 : (r : Int) % 64 = 0 := by omega
        have hm4 : Int.tmod (r : Int) 64 = 0 := by rw [Int.tmod_eq_emod_of_nonneg (by omega)]; omega
        clear hm1 hm2 m0 m1
        have hbk := rblock4_any wr k n (c + BitVec.ofNat 32 d) (unhide HK) (unhide HN)
        obtain ⟨cd, hcd⟩ : ∃ cd, cd = (BitVec.ofNat 32 d : W) := ⟨_, rfl⟩
        have hwc := wz_count d
        rw [← hcd] at hbk hwc hkey
        obtain ⟨bl2, hbe2⟩ : ∃ b, b = blockL k n (c + cd) := ⟨_, rfl⟩
        rw [← hbe2] at hbk
        have hbl2 : bl2.length = 64 := by rw [hbe2]; exact blockL_length _ _ _
        have hsz : ((bl2.map bv).toArray).size = 64 := by simp [hbl2]
        have hsz0 : ((bl.map bv).toArray).size = 64 := by simp [hbl]
        have ha := w_add
        have ham := w_addm
        have HB := hide hB
        have HSZ := hide hsz
        have HSZ0 := hide hsz0
        have HX := hide hx
        have HXR := hide hxr
        have HKEY := hide hkey
        have HBE2 := hide hbe2
        have HBL := hide hbl2
        have HCD := hide hcd
        have HMM := hide hm
        have HDD := hide hd
        clear hB hsz hsz0 hx hxr hkey hbe2 hbl2 hcd hm hd hbe hbl
        go_wp2_with fail
        refine hbk.mono ?_
        rintro e w2 ⟨rfl, g2⟩
        clear hbk ha ham hwc
        have hB' := (unhide HB).kept g2 (by simp)
        obtain ⟨W3, hW3⟩ : ∃ W3, W3 = w2.setRow w.heap.size (bl2.map bv).toArray := ⟨_, rfl⟩
        have hBv : Blk W3 w.heap.size 97 (bl2.map bv) := by rw [hW3]; exact hB'.row _
        have hgv : w.grownBy W3 none := by rw [hW3]; exact gb_row (gb_trans hg g2 (fun _ e => by cases e)) _ (Or.inl (Nat.le_refl _))
        have hxr := unhide HXR
        have hkey := unhide HKEY
        have hm := unhide HMM
        have hd := unhide HDD
        have hbl2 := unhide HBL
        have hbe2 : bl2 = blockL k n (c + BitVec.ofNat 32 d) := by rw [unhide HBE2, unhide HCD]
        rw [unhide HCD] at hkey
        obtain ⟨y, hy⟩ : ∃ y, y = bl2.getD 0 0 := ⟨_, rfl⟩
        have hcy := hBv.byte 0 (by rw [hbl2]; omega)
        rw [← hy] at hcy
        unfold bv at hcy
        obtain ⟨z, hz⟩ : ∃ z, z = x ^^^ y := ⟨_, rfl⟩
        have hbx := b8_xor x y
        rw [← hz] at hbx
        have hos := unhide HOS
        have hon : os ++ [z] = xs.take (r + 1) := by
          have h1 : r < xs.length := by rw [unhide HXL]; exact hlt
          have h2 : xs[r] = xs.getD r 0 := by simp [List.getD, h1]
          rw [hos, take_snoc h1, h2, hxr, hkey, ← hbe2, ← hy, ← hz]
        have hol : os.length = r := by rw [hos]; simp [unhide HXL]; omega
        have hnx : (r + 1) % 64 ≠ 0 → bl2 = blockL k n (c + BitVec.ofNat 32 ((r + 1) / 64)) := fun h => by
          rw [hbe2, show (r + 1) / 64 = d by omega]
        have sAB : str os ++ str [z] = str (os ++ [z]) := str_app os [z]
        have zA : (str os).size = os.length := str_size os
        have zB : (str [z]).size = 1 := str_size [z]
        have hAl : os.length + 1 ≤ 9223372036854775807 := by omega
        have hAi : (os.length : Int) ≤ 1000 := by omega
        have hS0 : W3.drew.cell? ⟨w.heap.size, 0, none⟩ = some (.int .u8 ((y.toNat : Nat) : Int)) := hcy
        have hS1 : (W3.alloc (.cells #[.int .u8 ((z.toNat : Nat) : Int)] 5)).drew.cell? ⟨w.heap.size, 0, none⟩ = some (.int .u8 ((y.toNat : Nat) : Int)) := (hBv.alloc _).drew.byte 0 (by rw [hbl2]; omega) |>.trans (by rw [← hy]; rfl)
        have hB2 : Blk (W3.alloc (.cells #[.int .u8 ((z.toNat : Nat) : Int)] 5)).drew w.heap.size 97 (bl2.map bv) := (hBv.alloc _).drew
        have hg2 : w.grownBy (W3.alloc (.cells #[.int .u8 ((z.toNat : Nat) : Int)] 5)).drew none := gb_drew (gb_alloc hgv _)
        have cv : (convert 22 9 (.slice (some ⟨W3.heap.size, 0, none⟩) 1 1)).run Tryd.prog (W3.alloc (.cells #[.int .u8 ((z.toNat : Nat) : Int)] 5)).drew = .ok (.string (str [z])) (W3.alloc (.cells #[.int .u8 ((z.toNat : Nat) : Int)] 5)).drew := conv_str (l := [z]) (blk_bts (b := W3.heap.size) (t := 5) (l := [z]) (Blk.new W3 5 [.int .u8 ((z.toNat : Nat) : Int)]).drew 1 (Nat.le_refl _) (by unfold maxLen; omega))
        have HON := hide hon
        have HB2 := hide hB2
        have HG2 := hide hg2
        have HNX := hide hnx
        have HBL2 := hide hbl2
        clear hon hB2 hg2 hnx hbl2 hBv hy hz hbe2 hkey hxr hos hol hcy
        have HB' := hide hB'
        have HW3 := hide hW3
        clear hB' hW3 hm hd
        go_wp2_with (refine wpList_store_row rfl 97 _ _ rfl w.heap.size _ rfl rfl _ _ (unhide HB') ?_ ?_ ?_ ?_; (rw [unhide HSZ]; exact hi64); (rw [unhide HSZ, unhide HSZ0]); (exact all_oneCell_toArray (bv_one _)); rw [← unhide HW3])
        refine wp_region_noPanic ?_
        refine wp_region_held_drew (S := fun V => V.cell? ⟨w.heap.size, 0, none⟩ = some (.int .u8 ((y.toNat : Nat) : Int))) (by kernel_rfl) hS0 (fun _ => ?_)
        refine wpAnyH_take (i := 0) (oi := { dst := some 29, op := Op.move (Operand.tmp 9), type := _, pos := _, after := _, guard := _ }) (v := .string (str os)) rfl (by kernel_rfl) (by kernel_rfl) (by kernel_rfl) (fun _ _ _ h => h) (Or.inl ⟨by rfl, fun V (hV : V.cell? ⟨w.heap.size, 0, none⟩ = some (.int .u8 ((y.toNat : Nat) : Int))) => by go_simp⟩) hS0 ?_
        (try simp only [Act.put, List.setIfInBounds_toArray, List.set_cons_zero, List.set_cons_succ])
        refine wpAnyH_take (i := 1) (oi := { dst := some 30, op := Op.move (Operand.tmp 3), type := _, pos := _, after := _, guard := _ }) (v := .string (str l)) rfl (by kernel_rfl) (by kernel_rfl) (by kernel_rfl) (fun _ _ _ h => h) (Or.inl ⟨by rfl, fun V (hV : V.cell? ⟨w.heap.size, 0, none⟩ = some (.int .u8 ((y.toNat : Nat) : Int))) => by go_simp⟩) hS0 ?_
        (try simp only [Act.put, List.setIfInBounds_toArray, List.set_cons_zero, List.set_cons_succ])
        refine wpAnyH_take (i := 2) (oi := { dst := some 31, op := Op.move (Operand.tmp 11), type := _, pos := _, after := _, guard := _ }) (v := .int .i64 (r : Int)) rfl (by kernel_rfl) (by kernel_rfl) (by kernel_rfl) (fun _ _ _ h => h) (Or.inl ⟨by rfl, fun V (hV : V.cell? ⟨w.heap.size, 0, none⟩ = some (.int .u8 ((y.toNat : Nat) : Int))) => by go_simp⟩) hS0 ?_
        (try simp only [Act.put, List.setIfInBounds_toArray, List.set_cons_zero, List.set_cons_succ])
        refine wpAnyH_take (i := 3) (oi := { dst := some 32, op := Op.index 9 (Operand.tmp 30) (Operand.tmp 31), type := _, pos := _, after := _, guard := _ }) (v := .int .u8 ((x.toNat : Nat) : Int)) rfl (by kernel_rfl) (by kernel_rfl) (by kernel_rfl) (fun _ _ _ h => h) (Or.inl ⟨by rfl, fun V (hV : V.cell? ⟨w.heap.size, 0, none⟩ = some (.int .u8 ((y.toNat : Nat) : Int))) => by go_simp⟩) hS0 ?_
        (try simp only [Act.put, List.setIfInBounds_toArray, List.set_cons_zero, List.set_cons_succ])
        refine wpAnyH_take (i := 4) (oi := { dst := some 33, op := Op.move (Operand.tmp 11), type := _, pos := _, after := _, guard := _ }) (v := .int .i64 (r : Int)) rfl (by kernel_rfl) (by kernel_rfl) (by kernel_rfl) (fun _ _ _ h => h) (Or.inl ⟨by rfl, fun V (hV : V.cell? ⟨w.heap.size, 0, none⟩ = some (.int .u8 ((y.toNat : Nat) : Int))) => by go_simp⟩) hS0 ?_
        (try simp only [Act.put, List.setIfInBounds_toArray, List.set_cons_zero, List.set_cons_succ])
        refine wpAnyH_take (i := 5) (oi := { dst := some 34, op := Op.binOp BinOp.rem 3 (Operand.tmp 33) (Operand.const (Value.int IntKind.i64 64)) 3, type := _, pos := _, after := _, guard := _ }) (v := .int .i64 0) rfl (by kernel_rfl) (by kernel_rfl) (by kernel_rfl) (fun _ _ _ h => h) (Or.inl ⟨by rfl, fun V (hV : V.cell? ⟨w.heap.size, 0, none⟩ = some (.int .u8 ((y.toNat : Nat) : Int))) => by go_simp⟩) hS0 ?_
        (try simp only [Act.put, List.setIfInBounds_toArray, List.set_cons_zero, List.set_cons_succ])
        refine wpAnyH_take (i := 6) (oi := { dst := some 35, op := Op.indexAddr 97 (Operand.tmp 10) (Operand.tmp 34), type := _, pos := _, after := _, guard := _ }) (v := .pointer (some ⟨w.heap.size, 0, none⟩)) rfl (by kernel_rfl) (by kernel_rfl) (by kernel_rfl) (fun _ _ _ h => h) (Or.inl ⟨by rfl, fun V (hV : V.cell? ⟨w.heap.size, 0, none⟩ = some (.int .u8 ((y.toNat : Nat) : Int))) => by go_simp⟩) hS0 ?_
        (try simp only [Act.put, List.setIfInBounds_toArray, List.set_cons_zero, List.set_cons_succ])
        refine wpAnyH_take (i := 7) (oi := { dst := some 36, op := Op.load 5 (Operand.tmp 35), type := _, pos := _, after := _, guard := _ }) (v := .int .u8 ((y.toNat : Nat) : Int)) rfl (by kernel_rfl) (by kernel_rfl) (by kernel_rfl) (fun _ _ _ h => h) (Or.inl ⟨by rfl, fun V (hV : V.cell? ⟨w.heap.size, 0, none⟩ = some (.int .u8 ((y.toNat : Nat) : Int))) => by go_simp⟩) hS0 ?_
        (try simp only [Act.put, List.setIfInBounds_toArray, List.set_cons_zero, List.set_cons_succ])
        refine wpAnyH_take (i := 8) (oi := { dst := some 37, op := Op.binOp BinOp.xor 5 (Operand.tmp 32) (Operand.tmp 36) 5, type := _, pos := _, after := _, guard := _ }) (v := .int .u8 ((z.toNat : Nat) : Int)) rfl (by kernel_rfl) (by kernel_rfl) (by kernel_rfl) (fun _ _ _ h => h) (Or.inl ⟨by rfl, fun V (hV : V.cell? ⟨w.heap.size, 0, none⟩ = some (.int .u8 ((y.toNat : Nat) : Int))) => by go_simp⟩) hS0 ?_
        (try simp only [Act.put, List.setIfInBounds_toArray, List.set_cons_zero, List.set_cons_succ])
        refine wpAnyH_ready (rs := [9]) (by kernel_rfl) (by simp) ?_
        refine AllReadyH.cons (o := { dst := some 38, op := Op.buildSlice 22 1 #[(0, (Operand.tmp 37))], type := _, pos := _, after := _, guard := _ }) rfl (fun K9 hK9 => ?_) AllReadyH.nil
        go_simp
        refine hK9.out _ _ hS1 (fun _ => ?_)
        clear hK9 K9
        (try simp only [Act.put, List.setIfInBounds_toArray, List.set_cons_zero, List.set_cons_succ])
        refine wpAnyH_ready (rs := [10]) (by kernel_rfl) (by simp) ?_
        refine AllReadyH.cons (o := { dst := some 39, op := Op.convert 22 9 (Operand.tmp 38), type := _, pos := _, after := _, guard := _ }) rfl (fun K9 hK9 => ?_) AllReadyH.nil
        go_simp
        refine hK9.out _ _ hS1 (fun _ => ?_)
        clear hK9 K9
        (try simp only [Act.put, List.setIfInBounds_toArray, List.set_cons_zero, List.set_cons_succ])
        refine wpAnyH_take (i := 11) (oi := { dst := some 40, op := Op.binOp BinOp.add 9 (Operand.tmp 29) (Operand.tmp 39) 9, type := _, pos := _, after := _, guard := _ }) (v := .string (str (os ++ [z]))) rfl (by kernel_rfl) (by kernel_rfl) (by kernel_rfl) (fun _ _ _ h => h) (Or.inl ⟨by rfl, fun V (hV : V.cell? ⟨w.heap.size, 0, none⟩ = some (.int .u8 ((y.toNat : Nat) : Int))) => by go_simp⟩) hS1 ?_
        (try simp only [Act.put, List.setIfInBounds_toArray, List.set_cons_zero, List.set_cons_succ])
        refine wpAnyH_take (i := 12) (oi := { dst := some 9, op := Op.assign (Operand.tmp 40), type := _, pos := _, after := _, guard := _ }) (v := .string (str (os ++ [z]))) rfl (by kernel_rfl) (by kernel_rfl) (by kernel_rfl) (fun _ _ _ h => h) (Or.inl ⟨by rfl, fun V (hV : V.cell? ⟨w.heap.size, 0, none⟩ = some (.int .u8 ((y.toNat : Nat) : Int))) => by go_simp⟩) hS1 ?_
        (try simp only [Act.put, List.setIfInBounds_toArray, List.set_cons_zero, List.set_cons_succ])
        refine wpAnyH_done (by kernel_rfl) ?_ _
        refine NoPanic.normal ?_
        go_wp2
        go_roundw
        case rel => exact ⟨r + 1, bl2, by omega, by rw [unhide HON], by go_num, unhide HBL2, unhide HNX, unhide HB2, unhide HG2⟩
        case measure => simp [intOf]; omega
      · have hm3 : ¬ ((m : Int) = 0) := by omega
        have hm4 : ((m : Int) == 0) = false := by simpa using hm3
        have hbl2 := hbl
        obtain ⟨bl2, hbb⟩ : ∃ b, b = bl := ⟨_, rfl⟩
        rw [← hbb] at hbl2 hB
        have hBv := hB
        have hgv := hg
        have hbe2 : bl2 = blockL k n (c + BitVec.ofNat 32 d) := by rw [hbb, hd]; exact hbe (by omega)
        obtain ⟨y, hy⟩ : ∃ y, y = bl2.getD m 0 := ⟨_, rfl⟩
        have hcy := hBv.byte m (by rw [hbl2]; omega)
        rw [← hy] at hcy
        unfold bv at hcy
        obtain ⟨z, hz⟩ : ∃ z, z = x ^^^ y := ⟨_, rfl⟩
        have hbx := b8_xor x y
        rw [← hz] at hbx
        have hos := unhide HOS
        have hon : os ++ [z] = xs.take (r + 1) := by
          have h1 : r < xs.length := by rw [unhide HXL]; exact hlt
          have h2 : xs[r] = xs.getD r 0 := by simp [List.getD, h1]
          rw [hos, take_snoc h1, h2, hxr, hkey, ← hbe2, ← hy, ← hz]
        have hol : os.length = r := by rw [hos]; simp [unhide HXL]; omega
        have hnx : (r + 1) % 64 ≠ 0 → bl2 = blockL k n (c + BitVec.ofNat 32 ((r + 1) / 64)) := fun h => by
          rw [hbe2, show (r + 1) / 64 = d by omega]
        have sAB : str os ++ str [z] = str (os ++ [z]) := str_app os [z]
        have zA : (str os).size = os.length := str_size os
        have zB : (str [z]).size = 1 := str_size [z]
        have hAl : os.length + 1 ≤ 9223372036854775807 := by omega
        have hAi : (os.length : Int) ≤ 1000 := by omega
        have hS0 : wr.drew.cell? ⟨w.heap.size, m, none⟩ = some (.int .u8 ((y.toNat : Nat) : Int)) := hcy
        have hS1 : (wr.alloc (.cells #[.int .u8 ((z.toNat : Nat) : Int)] 5)).drew.cell? ⟨w.heap.size, m, none⟩ = some (.int .u8 ((y.toNat : Nat) : Int)) := (hBv.alloc _).drew.byte m (by rw [hbl2]; omega) |>.trans (by rw [← hy]; rfl)
        have hB2 : Blk (wr.alloc (.cells #[.int .u8 ((z.toNat : Nat) : Int)] 5)).drew w.heap.size 97 (bl2.map bv) := (hBv.alloc _).drew
        have hg2 : w.grownBy (wr.alloc (.cells #[.int .u8 ((z.toNat : Nat) : Int)] 5)).drew none := gb_drew (gb_alloc hgv _)
        have cv : (convert 22 9 (.slice (some ⟨wr.heap.size, 0, none⟩) 1 1)).run Tryd.prog (wr.alloc (.cells #[.int .u8 ((z.toNat : Nat) : Int)] 5)).drew = .ok (.string (str [z])) (wr.alloc (.cells #[.int .u8 ((z.toNat : Nat) : Int)] 5)).drew := conv_str (l := [z]) (blk_bts (b := wr.heap.size) (t := 5) (l := [z]) (Blk.new wr 5 [.int .u8 ((z.toNat : Nat) : Int)]).drew 1 (Nat.le_refl _) (by unfold maxLen; omega))
        have HON := hide hon
        have HB2 := hide hB2
        have HG2 := hide hg2
        have HNX := hide hnx
        have HBL2 := hide hbl2
        clear hon hB2 hg2 hnx hbl2 hBv hy hz hbe2 hkey hxr hos hol hcy
        clear hB hbe hbl hbb hm hd hx
        go_wp2
        refine wp_region_noPanic ?_
        refine wp_region_held_drew (S := fun V => V.cell? ⟨w.heap.size, m, none⟩ = some (.int .u8 ((y.toNat : Nat) : Int))) (by kernel_rfl) hS0 (fun _ => ?_)
        refine wpAnyH_take (i := 0) (oi := { dst := some 29, op := Op.move (Operand.tmp 9), type := _, pos := _, after := _, guard := _ }) (v := .string (str os)) rfl (by kernel_rfl) (by kernel_rfl) (by kernel_rfl) (fun _ _ _ h => h) (Or.inl ⟨by rfl, fun V (hV : V.cell? ⟨w.heap.size, m, none⟩ = some (.int .u8 ((y.toNat : Nat) : Int))) => by go_simp⟩) hS0 ?_
        (try simp only [Act.put, List.setIfInBounds_toArray, List.set_cons_zero, List.set_cons_succ])
        refine wpAnyH_take (i := 1) (oi := { dst := some 30, op := Op.move (Operand.tmp 3), type := _, pos := _, after := _, guard := _ }) (v := .string (str l)) rfl (by kernel_rfl) (by kernel_rfl) (by kernel_rfl) (fun _ _ _ h => h) (Or.inl ⟨by rfl, fun V (hV : V.cell? ⟨w.heap.size, m, none⟩ = some (.int .u8 ((y.toNat : Nat) : Int))) => by go_simp⟩) hS0 ?_
        (try simp only [Act.put, List.setIfInBounds_toArray, List.set_cons_zero, List.set_cons_succ])
        refine wpAnyH_take (i := 2) (oi := { dst := some 31, op := Op.move (Operand.tmp 11), type := _, pos := _, after := _, guard := _ }) (v := .int .i64 (r : Int)) rfl (by kernel_rfl) (by kernel_rfl) (by kernel_rfl) (fun _ _ _ h => h) (Or.inl ⟨by rfl, fun V (hV : V.cell? ⟨w.heap.size, m, none⟩ = some (.int .u8 ((y.toNat : Nat) : Int))) => by go_simp⟩) hS0 ?_
        (try simp only [Act.put, List.setIfInBounds_toArray, List.set_cons_zero, List.set_cons_succ])
        refine wpAnyH_take (i := 3) (oi := { dst := some 32, op := Op.index 9 (Operand.tmp 30) (Operand.tmp 31), type := _, pos := _, after := _, guard := _ }) (v := .int .u8 ((x.toNat : Nat) : Int)) rfl (by kernel_rfl) (by kernel_rfl) (by kernel_rfl) (fun _ _ _ h => h) (Or.inl ⟨by rfl, fun V (hV : V.cell? ⟨w.heap.size, m, none⟩ = some (.int .u8 ((y.toNat : Nat) : Int))) => by go_simp⟩) hS0 ?_
        (try simp only [Act.put, List.setIfInBounds_toArray, List.set_cons_zero, List.set_cons_succ])
        refine wpAnyH_take (i := 4) (oi := { dst := some 33, op := Op.move (Operand.tmp 11), type := _, pos := _, after := _, guard := _ }) (v := .int .i64 (r : Int)) rfl (by kernel_rfl) (by kernel_rfl) (by kernel_rfl) (fun _ _ _ h => h) (Or.inl ⟨by rfl, fun V (hV : V.cell? ⟨w.heap.size, m, none⟩ = some (.int .u8 ((y.toNat : Nat) : Int))) => by go_simp⟩) hS0 ?_
        (try simp only [Act.put, List.setIfInBounds_toArray, List.set_cons_zero, List.set_cons_succ])
        refine wpAnyH_take (i := 5) (oi := { dst := some 34, op := Op.binOp BinOp.rem 3 (Operand.tmp 33) (Operand.const (Value.int IntKind.i64 64)) 3, type := _, pos := _, after := _, guard := _ }) (v := .int .i64 (m : Int)) rfl (by kernel_rfl) (by kernel_rfl) (by kernel_rfl) (fun _ _ _ h => h) (Or.inl ⟨by rfl, fun V (hV : V.cell? ⟨w.heap.size, m, none⟩ = some (.int .u8 ((y.toNat : Nat) : Int))) => by go_simp⟩) hS0 ?_
        (try simp only [Act.put, List.setIfInBounds_toArray, List.set_cons_zero, List.set_cons_succ])
        refine wpAnyH_take (i := 6) (oi := { dst := some 35, op := Op.indexAddr 97 (Operand.tmp 10) (Operand.tmp 34), type := _, pos := _, after := _, guard := _ }) (v := .pointer (some ⟨w.heap.size, m, none⟩)) rfl (by kernel_rfl) (by kernel_rfl) (by kernel_rfl) (fun _ _ _ h => h) (Or.inl ⟨by rfl, fun V (hV : V.cell? ⟨w.heap.size, m, none⟩ = some (.int .u8 ((y.toNat : Nat) : Int))) => by go_simp⟩) hS0 ?_
        (try simp only [Act.put, List.setIfInBounds_toArray, List.set_cons_zero, List.set_cons_succ])
        refine wpAnyH_take (i := 7) (oi := { dst := some 36, op := Op.load 5 (Operand.tmp 35), type := _, pos := _, after := _, guard := _ }) (v := .int .u8 ((y.toNat : Nat) : Int)) rfl (by kernel_rfl) (by kernel_rfl) (by kernel_rfl) (fun _ _ _ h => h) (Or.inl ⟨by rfl, fun V (hV : V.cell? ⟨w.heap.size, m, none⟩ = some (.int .u8 ((y.toNat : Nat) : Int))) => by go_simp⟩) hS0 ?_
        (try simp only [Act.put, List.setIfInBounds_toArray, List.set_cons_zero, List.set_cons_succ])
        refine wpAnyH_take (i := 8) (oi := { dst := some 37, op := Op.binOp BinOp.xor 5 (Operand.tmp 32) (Operand.tmp 36) 5, type := _, pos := _, after := _, guard := _ }) (v := .int .u8 ((z.toNat : Nat) : Int)) rfl (by kernel_rfl) (by kernel_rfl) (by kernel_rfl) (fun _ _ _ h => h) (Or.inl ⟨by rfl, fun V (hV : V.cell? ⟨w.heap.size, m, none⟩ = some (.int .u8 ((y.toNat : Nat) : Int))) => by go_simp⟩) hS0 ?_
        (try simp only [Act.put, List.setIfInBounds_toArray, List.set_cons_zero, List.set_cons_succ])
        refine wpAnyH_ready (rs := [9]) (by kernel_rfl) (by simp) ?_
        refine AllReadyH.cons (o := { dst := some 38, op := Op.buildSlice 22 1 #[(0, (Operand.tmp 37))], type := _, pos := _, after := _, guard := _ }) rfl (fun K9 hK9 => ?_) AllReadyH.nil
        go_simp
        refine hK9.out _ _ hS1 (fun _ => ?_)
        clear hK9 K9
        (try simp only [Act.put, List.setIfInBounds_toArray, List.set_cons_zero, List.set_cons_succ])
        refine wpAnyH_ready (rs := [10]) (by kernel_rfl) (by simp) ?_
        refine AllReadyH.cons (o := { dst := some 39, op := Op.convert 22 9 (Operand.tmp 38), type := _, pos := _, after := _, guard := _ }) rfl (fun K9 hK9 => ?_) AllReadyH.nil
        go_simp
        refine hK9.out _ _ hS1 (fun _ => ?_)
        clear hK9 K9
        (try simp only [Act.put, List.setIfInBounds_toArray, List.set_cons_zero, List.set_cons_succ])
        refine wpAnyH_take (i := 11) (oi := { dst := some 40, op := Op.binOp BinOp.add 9 (Operand.tmp 29) (Operand.tmp 39) 9, type := _, pos := _, after := _, guard := _ }) (v := .string (str (os ++ [z]))) rfl (by kernel_rfl) (by kernel_rfl) (by kernel_rfl) (fun _ _ _ h => h) (Or.inl ⟨by rfl, fun V (hV : V.cell? ⟨w.heap.size, m, none⟩ = some (.int .u8 ((y.toNat : Nat) : Int))) => by go_simp⟩) hS1 ?_
        (try simp only [Act.put, List.setIfInBounds_toArray, List.set_cons_zero, List.set_cons_succ])
        refine wpAnyH_take (i := 12) (oi := { dst := some 9, op := Op.assign (Operand.tmp 40), type := _, pos := _, after := _, guard := _ }) (v := .string (str (os ++ [z]))) rfl (by kernel_rfl) (by kernel_rfl) (by kernel_rfl) (fun _ _ _ h => h) (Or.inl ⟨by rfl, fun V (hV : V.cell? ⟨w.heap.size, m, none⟩ = some (.int .u8 ((y.toNat : Nat) : Int))) => by go_simp⟩) hS1 ?_
        (try simp only [Act.put, List.setIfInBounds_toArray, List.set_cons_zero, List.set_cons_succ])
        refine wpAnyH_done (by kernel_rfl) ?_ _
        refine NoPanic.normal ?_
        go_wp2
        go_roundw
        case rel => exact ⟨r + 1, bl2, by omega, by rw [unhide HON], by go_num, unhide HBL2, unhide HNX, unhide HB2, unhide HG2⟩
        case measure => simp [intOf]; omega
    · obtain rfl : r = N := by omega
      rw [List.take_of_length_le (by rw [unhide HXL]; exact Nat.le_refl _)]
      clear hB hbe
      go_wp2
      go_ret
      exact ⟨rfl, hg⟩

end Go.Proofs.YtjckdgapefaokaaDoor
