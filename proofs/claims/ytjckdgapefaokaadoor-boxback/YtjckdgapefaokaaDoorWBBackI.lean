/- BoxBack's walk in the mode Ideal: what is sealed is opened as it was. For any number of that mode, steps and bytes. -/
import Derived.Test.YtjckdgapefaokaaDoorBBk
namespace Go.Proofs.YtjckdgapefaokaaDoor
open Go.RowKit

set_option maxRecDepth 100000 in
set_option maxHeartbeats 8000000 in
theorem boxBack_1 (w : World) (mz : Int) (hmz : bits .and .i64 mz 1 = 1) (ao : Option Addr) (cl : Nat) (l : List ActR) (hA : Acts w ao cl l) (a2 : Option Addr) (c2 : Nat) (other : List UInt8) (hO : Bts w a2 c2 other) (hT : Tabs w) (hC : CTab w) :
    Calls Tryd.prog 4 #[.int .i64 mz, .slice ao l.length cl, .slice a2 other.length c2] w fun e w' => e = .returned (.bool true) ∧ w.grownBy w' none := by
  have cnew : ∀ V, w.grownBy V none → Bts V (some ⟨w.heap.size, 0, none⟩) 7 cofT → ∃ W, W = V.alloc (.cells #[.slice (some ⟨w.heap.size, 0, none⟩) 7 7] 22) ∧ Calls Tryd.prog 9 #[.slice (some ⟨V.heap.size, 0, none⟩) 1 1] W fun e w' => ∃ b, e = .returned (.pointer (some ⟨b, 0, none⟩)) ∧ V.heap.size ≤ b ∧ SrcAt w' b cofT 0 ∧ V.grownBy w' none := fun V gV hcof => by
    obtain ⟨W, hW, _, _, hc⟩ := dnew_one V V (some ⟨w.heap.size, 0, none⟩) 7 cofT (gb_refl _ _) hcof (hT.kept0 gV) (by decide)
    exact ⟨W, hW, hc⟩
  have cbn : ∀ V bs T, w.grownBy V none → w.heap.size ≤ bs → SrcAt V bs T 0 → Calls Tryd.prog 8 #[.int .i64 1, .pointer (some ⟨bs, 0, none⟩)] V fun e w' => ∃ bb bm, e = .returned (.tuple #[.pointer (some ⟨bb, 0, none⟩), .int .i64 0]) ∧ V.heap.size ≤ bb ∧ V.heap.size ≤ bm ∧ BoxAt w w' bb bs bm ⟨1, T, 0, []⟩ ∧ V.grownBy w' none := fun V bs T gV hbs hS => new_any w V 1 bs T 0 (Or.inr rfl) gV hbs hS
  have cse : ∀ V bb bs bm (B : BoxS) (r : ActR) (s : List UInt8) nb nx, w.grownBy V none → BoxAt w V bb bs bm B → Bts w r.bo r.bc (r.be.take 200) → Bts w r.xo r.xc (r.tx.take 200) → B.Ok → B.u ≤ 40000 → B.L.length ≤ 20 → (B.seal (key1 r.key) (r.be.take 200) (r.tx.take 200)).2 = some s → (r.be.take 200).length = nb → (r.tx.take 200).length = nx → s.length = nx + 28 →
      Calls Tryd.prog 12 #[.pointer (some ⟨bb, 0, none⟩), .agg ((key1 r.key).map bv).toArray, .slice r.bo nb r.bc, .slice r.xo nx r.xc] V fun e w' => (∃ so sc, e = .returned (.tuple #[.slice so (nx + 28) sc, .int .i64 0]) ∧ BtT w' so sc s) ∧ BoxAt w w' bb bs bm (B.seal (key1 r.key) (r.be.take 200) (r.tx.take 200)).1 ∧ By3 V w' bb bs bm ∧ w.grownBy w' none := fun V bb bs bm B r s nb nx gV hV hb hx hok hu hL hs hnb hnx hsl => by
    subst hnb hnx
    have l1 : (r.be.take 200).length ≤ 200 := by rw [List.length_take]; omega
    have l2 : (r.tx.take 200).length ≤ 200 := by rw [List.length_take]; omega
    have := seal_any w V bb bs bm B (key1 r.key) (r.be.take 200) (r.tx.take 200) r.bo r.xo r.bc r.xc hV gV hT hC (key1_length _) (Stays.old hb hV gV) (Stays.old hx hV gV) (by omega) (by omega) hok (by omega) (by omega)
    refine this.mono fun e w' ⟨so, sc, he, hs2, hB', b⟩ => ?_
    rw [hs] at he hs2
    exact ⟨⟨so, sc, by rw [he, ← hsl]; rfl, hs2⟩, hB', b, by3_gb gV b hV.nb hV.ns hV.nm⟩
  have cop : ∀ V bb bs bm (B : BoxS) (k be s : List UInt8) bo so cb sc nb ns o, w.grownBy V none → BoxAt w V bb bs bm B → k.length = 32 → Bts V bo cb be → Bts V so sc s → be.length ≤ 1000 → s.length ≤ 1000 → B.Ok → (∀ x ∈ B.L, x.tx.length ≤ 2000) → B.opn k be s = o → be.length = nb → s.length = ns →
      Calls Tryd.prog 14 #[.pointer (some ⟨bb, 0, none⟩), .agg (k.map bv).toArray, .slice bo nb cb, .slice so ns sc] V fun e w' => (∃ xo xc, e = .returned (.tuple #[.slice xo (txtO o).length xc, .bool o.isSome]) ∧ BtT w' xo xc (txtO o)) ∧ V.grownBy w' none := fun V bb bs bm B k be s bo so cb sc nb ns o gV hV hk hb hs lb ls hok htx ho hnb hns => by
    subst hnb hns ho
    have := open_any w V bb bs bm B k be s bo so cb sc hV gV hC hk hb hs (by omega) (by omega) hok htx
    exact this.mono fun e w' ⟨xo, xc, he, hx, g⟩ => ⟨⟨xo, xc, he, hx⟩, g⟩
  have cone : ∀ V, w.grownBy V none → Calls Tryd.prog 10 #[] V fun e w' => e = .returned (.bool true) ∧ V.grownBy w' none := fun V gV => bone_any V (hT.kept0 gV) (hC.kept0 gV)
  have kc := fun (w : World) (C : Array Value) (n c : Nat) => Lib.run_convert_bytes_const (P := Tryd.prog) w 22 5 C n c Tryd.underlying22 Tryd.underlying5
  have hbk1 := built_key1
  have hbk2 := built_key2
  have hbo : Tryd.prog.built 37 [(0, .int .u8 1)] = some ((key1 1).map bv).toArray := built_key1 1
  obtain ⟨KO, hKO⟩ : ∃ A : Array Value, A = ((key1 1).map bv).toArray := ⟨_, rfl⟩
  rw [← hKO] at hbo
  obtain ⟨Ln, hLn⟩ : ∃ n, n = l.length := ⟨_, rfl⟩
  rw [← hLn]
  obtain ⟨M, hM⟩ : ∃ M, M = min Ln 12 := ⟨_, rfl⟩
  obtain ⟨nO, hnO⟩ : ∃ n, n = other.length := ⟨_, rfl⟩
  rw [← hnO]
  have HNEW := hide cnew
  have HBN := hide cbn
  have HSE := hide cse
  have HOP := hide cop
  have HON := hide cone
  have HK1 := hide hbk1
  have HK2 := hide hbk2
  have HBO := hide hbo
  have HKO := hide hKO
  have HA := hide hA
  have HL := hide hLn
  have HM := hide hM
  have HOB := hide hO
  have HNO := hide hnO
  clear cnew cbn cse cop cone hbk1 hbk2 hbo hKO hA hLn hM hO hnO hT hC
  have G0 : w.grownBy w none := gb_refl _ _
  go_enter Tryd.func4, Tryd.ntmps4
  go_upto_region 2 with fail
  refine region_named fun O hO => ?_
  refine wpList_val (by rw [hO]; kernel_rfl) (.int .i64 1) (fun K9 hK9 => by go_simp; exact hK9) ?_
  (try simp only [Act.put, List.setIfInBounds_toArray, List.set_cons_zero, List.set_cons_succ])
  refine wpList_want (by rw [hO]; kernel_rfl) fun K9 hK9 => ?_
  go_simp
  refine hK9 _ _ ?_
  clear hK9 K9
  (try simp only [Act.put, List.setIfInBounds_toArray, List.set_cons_zero, List.set_cons_succ])
  skip
  refine wpList_want (by rw [hO]; kernel_rfl) fun K9 hK9 => ?_
  go_simp
  refine hK9 _ _ ?_
  clear hK9 K9
  (try simp only [Act.put, List.setIfInBounds_toArray, List.set_cons_zero, List.set_cons_succ])
  obtain ⟨W2, hW2, hc2, g2⟩ := cof_text w
  rw [← hW2]
  clear hW2
  refine wpList_want (by rw [hO]; kernel_rfl) fun K9 hK9 => ?_
  go_simp
  refine hK9 _ _ ?_
  clear hK9 K9
  (try simp only [Act.put, List.setIfInBounds_toArray, List.set_cons_zero, List.set_cons_succ])
  obtain ⟨W3, hW3, cn3⟩ := unhide HNEW W2 g2 hc2
  rw [← hW3]
  clear hW3 hc2
  refine wpList_want (by rw [hO]; kernel_rfl) fun K9 hK9 => ?_
  go_simp
  go_at_call 9
  refine (cn3).mono ?_
  rintro e w4 ⟨bs, rfl, hbs, hS4, g4⟩
  have G4 := tn g2 g4
  clear cn3
  refine hK9 _ _ ?_
  clear hK9 K9
  (try simp only [Act.put, List.setIfInBounds_toArray, List.set_cons_zero, List.set_cons_succ])
  refine wpList_want (by rw [hO]; kernel_rfl) fun K9 hK9 => ?_
  go_simp
  go_at_call 8
  refine (unhide HBN w4 bs cofT G4 (Nat.le_trans g2.size hbs) hS4).mono ?_
  rintro e w5 ⟨bb, bm, rfl, hbb, hbm, hB5, g5⟩
  have G5 := tn G4 g5
  clear hS4 hbb hbm hbs g2 g4 g5 G4
  refine hK9 _ _ ?_
  clear hK9 K9
  (try simp only [Act.put, List.setIfInBounds_toArray, List.set_cons_zero, List.set_cons_succ])
  refine wpList_val (by rw [hO]; kernel_rfl) (.tuple #[.pointer (some ⟨bb, 0, none⟩), .int .i64 0]) (fun K9 hK9 => by go_simp; exact hK9) ?_
  (try simp only [Act.put, List.setIfInBounds_toArray, List.set_cons_zero, List.set_cons_succ])
  refine wpList_val (by rw [hO]; kernel_rfl) (.pointer (some ⟨bb, 0, none⟩)) (fun K9 hK9 => by go_simp; exact hK9) ?_
  (try simp only [Act.put, List.setIfInBounds_toArray, List.set_cons_zero, List.set_cons_succ])
  refine wpList_val (by rw [hO]; kernel_rfl) (.int .i64 0) (fun K9 hK9 => by go_simp; exact hK9) ?_
  (try simp only [Act.put, List.setIfInBounds_toArray, List.set_cons_zero, List.set_cons_succ])
  refine wpList_val (by rw [hO]; kernel_rfl) (.pointer (some ⟨bb, 0, none⟩)) (fun K9 hK9 => by go_simp; exact hK9) ?_
  (try simp only [Act.put, List.setIfInBounds_toArray, List.set_cons_zero, List.set_cons_succ])
  refine wpList_val (by rw [hO]; kernel_rfl) (.int .i64 0) (fun K9 hK9 => by go_simp; exact hK9) ?_
  (try simp only [Act.put, List.setIfInBounds_toArray, List.set_cons_zero, List.set_cons_succ])
  clear kc HNEW HBN G0
  go_upto_region 3 with fail
  by_cases hbig : 1000 < nO
  · have hb1 : (1000 : Int) < (nO : Int) := by omega
    refine region_named fun O hO => ?_
    refine wpList_val (by rw [hO]; kernel_rfl) (.int .i64 0) (fun K9 hK9 => by go_simp; exact hK9) ?_
    (try simp only [Act.put, List.setIfInBounds_toArray, List.set_cons_zero, List.set_cons_succ])
    refine wpList_val (by rw [hO]; kernel_rfl) (.bool false) (fun K9 hK9 => by go_simp; exact hK9) ?_
    (try simp only [Act.put, List.setIfInBounds_toArray, List.set_cons_zero, List.set_cons_succ])
    refine wpList_val (by rw [hO]; kernel_rfl) (.bool false) (fun K9 hK9 => by go_simp; exact hK9) ?_
    (try simp only [Act.put, List.setIfInBounds_toArray, List.set_cons_zero, List.set_cons_succ])
    refine wpList_val (by rw [hO]; kernel_rfl) (.pointer (some ⟨bb, 0, none⟩)) (fun K9 hK9 => by go_simp; exact hK9) ?_
    (try simp only [Act.put, List.setIfInBounds_toArray, List.set_cons_zero, List.set_cons_succ])
    refine wpList_val (by rw [hO]; kernel_rfl) (.bool false) (fun K9 hK9 => by go_simp; exact hK9) ?_
    (try simp only [Act.put, List.setIfInBounds_toArray, List.set_cons_zero, List.set_cons_succ])
    refine wpList_val (by rw [hO]; kernel_rfl) (.bool false) (fun K9 hK9 => by go_simp; exact hK9) ?_
    (try simp only [Act.put, List.setIfInBounds_toArray, List.set_cons_zero, List.set_cons_succ])
    refine wpList_val (by rw [hO]; kernel_rfl) (.bool false) (fun K9 hK9 => by go_simp; exact hK9) ?_
    (try simp only [Act.put, List.setIfInBounds_toArray, List.set_cons_zero, List.set_cons_succ])
    refine wpList_val (by rw [hO]; kernel_rfl) (.slice a2 nO c2) (fun K9 hK9 => by go_simp; exact hK9) ?_
    (try simp only [Act.put, List.setIfInBounds_toArray, List.set_cons_zero, List.set_cons_succ])
    refine wpList_val (by rw [hO]; kernel_rfl) (.int .i64 (nO : Int)) (fun K9 hK9 => by go_simp; exact hK9) ?_
    (try simp only [Act.put, List.setIfInBounds_toArray, List.set_cons_zero, List.set_cons_succ])
    refine wpList_val (by rw [hO]; kernel_rfl) (.bool true) (fun K9 hK9 => by go_simp; exact hK9) ?_
    (try simp only [Act.put, List.setIfInBounds_toArray, List.set_cons_zero, List.set_cons_succ])
    refine wpList_val (by rw [hO]; kernel_rfl) (.bool true) (fun K9 hK9 => by go_simp; exact hK9) ?_
    (try simp only [Act.put, List.setIfInBounds_toArray, List.set_cons_zero, List.set_cons_succ])
    go_upto_region 4 with fail
    refine region_named fun O hO => ?_
    refine wpList_val (by rw [hO]; kernel_rfl) (.int .i64 0) (fun K9 hK9 => by go_simp; exact hK9) ?_
    (try simp only [Act.put, List.setIfInBounds_toArray, List.set_cons_zero, List.set_cons_succ])
    refine wpList_val (by rw [hO]; kernel_rfl) (.bool true) (fun K9 hK9 => by go_simp; exact hK9) ?_
    (try simp only [Act.put, List.setIfInBounds_toArray, List.set_cons_zero, List.set_cons_succ])
    refine wpList_val (by rw [hO]; kernel_rfl) (.bool true) (fun K9 hK9 => by go_simp; exact hK9) ?_
    (try simp only [Act.put, List.setIfInBounds_toArray, List.set_cons_zero, List.set_cons_succ])
    refine wpList_want (by rw [hO]; kernel_rfl) fun K9 hK9 => ?_
    go_simp
    go_at_call 10
    refine (unhide HON w5 G5).mono ?_
    rintro e w9 ⟨rfl, g9⟩
    refine hK9 _ _ ?_
    clear hK9 K9
    (try simp only [Act.put, List.setIfInBounds_toArray, List.set_cons_zero, List.set_cons_succ])
    refine wpList_val (by rw [hO]; kernel_rfl) (.bool true) (fun K9 hK9 => by go_simp; exact hK9) ?_
    (try simp only [Act.put, List.setIfInBounds_toArray, List.set_cons_zero, List.set_cons_succ])
    refine wpList_val (by rw [hO]; kernel_rfl) (.bool true) (fun K9 hK9 => by go_simp; exact hK9) ?_
    (try simp only [Act.put, List.setIfInBounds_toArray, List.set_cons_zero, List.set_cons_succ])
    go_wp2
    go_ret
    exact ⟨rfl, tn G5 g9⟩
  · have hb1 : ¬ (1000 : Int) < (nO : Int) := by omega
    refine region_named fun O hO => ?_
    refine wpList_val (by rw [hO]; kernel_rfl) (.int .i64 0) (fun K9 hK9 => by go_simp; exact hK9) ?_
    (try simp only [Act.put, List.setIfInBounds_toArray, List.set_cons_zero, List.set_cons_succ])
    refine wpList_val (by rw [hO]; kernel_rfl) (.bool false) (fun K9 hK9 => by go_simp; exact hK9) ?_
    (try simp only [Act.put, List.setIfInBounds_toArray, List.set_cons_zero, List.set_cons_succ])
    refine wpList_val (by rw [hO]; kernel_rfl) (.bool false) (fun K9 hK9 => by go_simp; exact hK9) ?_
    (try simp only [Act.put, List.setIfInBounds_toArray, List.set_cons_zero, List.set_cons_succ])
    refine wpList_val (by rw [hO]; kernel_rfl) (.pointer (some ⟨bb, 0, none⟩)) (fun K9 hK9 => by go_simp; exact hK9) ?_
    (try simp only [Act.put, List.setIfInBounds_toArray, List.set_cons_zero, List.set_cons_succ])
    refine wpList_val (by rw [hO]; kernel_rfl) (.bool false) (fun K9 hK9 => by go_simp; exact hK9) ?_
    (try simp only [Act.put, List.setIfInBounds_toArray, List.set_cons_zero, List.set_cons_succ])
    refine wpList_val (by rw [hO]; kernel_rfl) (.bool false) (fun K9 hK9 => by go_simp; exact hK9) ?_
    (try simp only [Act.put, List.setIfInBounds_toArray, List.set_cons_zero, List.set_cons_succ])
    refine wpList_val (by rw [hO]; kernel_rfl) (.bool false) (fun K9 hK9 => by go_simp; exact hK9) ?_
    (try simp only [Act.put, List.setIfInBounds_toArray, List.set_cons_zero, List.set_cons_succ])
    refine wpList_val (by rw [hO]; kernel_rfl) (.slice a2 nO c2) (fun K9 hK9 => by go_simp; exact hK9) ?_
    (try simp only [Act.put, List.setIfInBounds_toArray, List.set_cons_zero, List.set_cons_succ])
    refine wpList_val (by rw [hO]; kernel_rfl) (.int .i64 (nO : Int)) (fun K9 hK9 => by go_simp; exact hK9) ?_
    (try simp only [Act.put, List.setIfInBounds_toArray, List.set_cons_zero, List.set_cons_succ])
    refine wpList_val (by rw [hO]; kernel_rfl) (.bool false) (fun K9 hK9 => by go_simp; exact hK9) ?_
    (try simp only [Act.put, List.setIfInBounds_toArray, List.set_cons_zero, List.set_cons_succ])
    refine wpList_val (by rw [hO]; kernel_rfl) (.bool false) (fun K9 hK9 => by go_simp; exact hK9) ?_
    (try simp only [Act.put, List.setIfInBounds_toArray, List.set_cons_zero, List.set_cons_succ])
    have hnO := hbig
    clear hb1 hbig
    go_wp2
    go_loopw [9, 10] (fun v9 i wr => ∃ (j : Nat) (B : BoxS) (S : List Txt), j ≤ M ∧ i = .int .i64 j ∧ S.length = j ∧ Sls wr w.heap.size v9 S ∧ BoxAt w wr bb bs bm B ∧ (B.mode = 0 ∨ Cof B) ∧ B.Ok ∧ B.mode = 1 ∧ (B.u ≤ j * 228 ∧ B.L.length = j) ∧ (∀ x ∈ B.L, x.tx.length ≤ 2000) ∧ (∀ i (h1 : i < l.length) (h2 : i < S.length), Good B l[i] S[i].2.2) ∧ w.grownBy wr none) (fun _ i _ => M - (intOf i).toNat)
    case atStart => exact ⟨0, _, [], Nat.zero_le _, rfl, rfl, Sls.nil _ _, hB5, Or.inr ⟨rfl, rfl, fun s h => by simp [BoxS.ss] at h⟩, ok_new 1 (Or.inr rfl) cofT 0, rfl, ⟨Nat.zero_le _, rfl⟩, (fun x h => by simp at h), (fun i h1 h2 => by simp at h2), G5⟩
    case round =>
      clear hB5 G5
      obtain ⟨j, B, S, hj, rfl, hSl, hS0, hB0, hrd, hok, hmo, hbd, htxs, hgood, G⟩ := hrel
      have hM := unhide HM
      by_cases hlt : j < M
      · have hjl : j < l.length := by have := unhide HL; omega
        obtain ⟨ab, af, rfl, hr⟩ := (unhide HA).at j hjl
        have hbe0 := (unhide HA).b3 j hjl
        have htx0 := (unhide HA).b4 j hjl
        obtain ⟨r, hrr⟩ : ∃ r, r = l[j] := ⟨_, rfl⟩
        rw [← hrr] at hr hbe0 htx0
        obtain ⟨s, hse, hgs, hrd', hu', hsub, hmo', hLl'⟩ := back_seal r hrd (by omega)
        have hck : w.cell? ⟨ab, af + j * 5 + 2, none⟩ = some (bv r.key) := hr 2 _ rfl
        have hcb' : w.cell? ⟨ab, af + j * 5 + 3, none⟩ = some (.slice r.bo r.be.length r.bc) := hr 3 _ rfl
        have hcx : w.cell? ⟨ab, af + j * 5 + 4, none⟩ = some (.slice r.xo r.tx.length r.xc) := hr 4 _ rfl
        have hbl : (r.be.take 200).length = sh200 r.be.length := take200_length _
        have htl : (r.tx.take 200).length = sh200 r.tx.length := take200_length _
        have hsl : s.length = sh200 r.tx.length + 28 := by rw [hgs.len, htl]
        have hf3 : r.be.length ≤ r.bc := hbe0.fits
        have hf4 : r.tx.length ≤ r.xc := htx0.fits
        have hs4 := sh200_le r.tx.length
        have cs := fun V gV hV => unhide HSE V bb bs bm B r s _ _ gV hV (hbe0.short 200) (htx0.short 200) hok (by omega) (by omega) hse hbl htl hsl
        have hok' := hok.seal (key1 r.key) (r.be.take 200) (r.tx.take 200) (key1_length _)
        have htxs' := seal_tx B (key1 r.key) (r.be.take 200) (r.tx.take 200) (by omega) htxs
        have hbk := unhide HK1 r.key
        obtain ⟨KA, hKA⟩ : ∃ A : Array Value, A = ((key1 r.key).map bv).toArray := ⟨_, rfl⟩
        rw [← hKA] at hbk
        simp only [← hKA] at cs
        obtain ⟨C, hCC⟩ : ∃ C, C = (B.seal (key1 r.key) (r.be.take 200) (r.tx.take 200)).1 := ⟨_, rfl⟩
        simp only [← hCC] at cs
        rw [← hCC] at hgs hrd' hu' hsub hmo' hok' htxs' hLl'
        obtain ⟨q3, hq3⟩ : ∃ n, n = r.be.length := ⟨_, rfl⟩
        obtain ⟨q4, hq4⟩ : ∃ n, n = r.tx.length := ⟨_, rfl⟩
        obtain ⟨bo, hbo⟩ : ∃ n, n = r.bo := ⟨_, rfl⟩
        obtain ⟨bc, hbc⟩ : ∃ n, n = r.bc := ⟨_, rfl⟩
        obtain ⟨xo, hxo⟩ : ∃ n, n = r.xo := ⟨_, rfl⟩
        obtain ⟨xc, hxc⟩ : ∃ n, n = r.xc := ⟨_, rfl⟩
        obtain ⟨x, hx⟩ : ∃ n, n = r.key := ⟨_, rfl⟩
        rw [← hq3, ← hbo, ← hbc] at hcb'
        rw [← hq4, ← hxo, ← hxc] at hcx
        rw [← hq3, ← hbc] at hf3
        rw [← hq4, ← hxc] at hf4
        rw [← hq4] at hsl hs4
        rw [← hx] at hck hbk
        simp only [← hq3, ← hq4, ← hbo, ← hbc, ← hxo, ← hxc] at cs
        have hgood' : ∀ i (h1 : i < l.length) (h2 : i < j + 1) (y : Txt), y.2.2 = s → ∀ (h3 : i < (S ++ [y]).length), Good C l[i] ((S ++ [y])[i]).2.2 := fun i h1 h2 y hy h3 => by
          by_cases hi : i < S.length
          · rw [List.getElem_append_left hi]
            exact (hgood i h1 hi).grows hmo' hsub
          · have hij : i = j := by omega
            subst hij
            rw [List.getElem_append_right (by omega)]
            simp only [hSl, Nat.sub_self, List.getElem_cons_zero, hy]
            rw [← hrr]; exact hgs
        have hjn : (j : Int) < (Ln : Int) := by have := unhide HL; omega
        have hj0 : (0 : Int) ≤ (j : Int) := by omega
        have hji : (j : Int) < 12 := by omega
        have hwj : IntKind.i64.wrap ((j : Int) + 1) = (j : Int) + 1 := by rw [IntKind.wrap_i64]; omega
        have hwN : IntKind.i64.wrap (((sh200 q4 : Nat) : Int) + 28) = ((sh200 q4 : Nat) : Int) + 28 := by rw [IntKind.wrap_i64]; omega
        obtain ⟨wo, rfl⟩ : ∃ wo, wo = wr := ⟨_, rfl⟩
        have h0 : w.grownBy wo.drew none := gb_drew G
        have cs1 := cs wo.drew h0 (hB0.none (gb_drew (gb_refl wo none)))
        have hB6 := hB0.none (gb_drew (gb_refl wo none))
        have hS6 := hS0.none (gb_drew (gb_refl wo none))
        have HBK := hide hbk
        have HGD := hide hgood'
        have HSL := hide hsl
        clear hr hrr hbe0 htx0 hse hgs hsub hbl htl cs hbk hKA hCC hq3 hq4 hbo hbc hxo hxc hx hgood hgood' hB0 hS0 htxs hok hrd hsl G
        go_upto_region 9 with fail
        refine wp_region_noPanic ?_
        refine wp_region_held_drew (S := fun V => w.grownBy V none) (by kernel_rfl) h0 (fun _ => ?_)
        refine wpAnyH_take (i := 0) (oi := { dst := some 61, op := Op.move (Operand.tmp 7), type := _, pos := _, after := _, guard := _ }) (v := .pointer (some ⟨bb, 0, none⟩)) rfl (by kernel_rfl) (by kernel_rfl) (by kernel_rfl) (fun _ _ _ h => h) (Or.inl ⟨by rfl, fun V (hV : w.grownBy V none) => by go_simp⟩) h0 ?_
        (try simp only [Act.put, List.setIfInBounds_toArray, List.set_cons_zero, List.set_cons_succ])
        refine wpAnyH_take (i := 1) (oi := { dst := some 62, op := Op.move (Operand.tmp 1), type := _, pos := _, after := _, guard := _ }) (v := .slice (some ⟨ab, af, none⟩) Ln cl) rfl (by kernel_rfl) (by kernel_rfl) (by kernel_rfl) (fun _ _ _ h => h) (Or.inl ⟨by rfl, fun V (hV : w.grownBy V none) => by go_simp⟩) h0 ?_
        (try simp only [Act.put, List.setIfInBounds_toArray, List.set_cons_zero, List.set_cons_succ])
        refine wpAnyH_take (i := 2) (oi := { dst := some 63, op := Op.move (Operand.tmp 10), type := _, pos := _, after := _, guard := _ }) (v := .int .i64 (j : Int)) rfl (by kernel_rfl) (by kernel_rfl) (by kernel_rfl) (fun _ _ _ h => h) (Or.inl ⟨by rfl, fun V (hV : w.grownBy V none) => by go_simp⟩) h0 ?_
        (try simp only [Act.put, List.setIfInBounds_toArray, List.set_cons_zero, List.set_cons_succ])
        refine wpAnyH_take (i := 3) (oi := { dst := some 64, op := Op.indexAddr 23 (Operand.tmp 62) (Operand.tmp 63), type := _, pos := _, after := _, guard := _ }) (v := .pointer (some ⟨ab, af + j * 5, none⟩)) rfl (by kernel_rfl) (by kernel_rfl) (by kernel_rfl) (fun _ _ _ h => h) (Or.inl ⟨by rfl, fun V (hV : w.grownBy V none) => by go_simp⟩) h0 ?_
        (try simp only [Act.put, List.setIfInBounds_toArray, List.set_cons_zero, List.set_cons_succ])
        refine wpAnyH_take (i := 4) (oi := { dst := some 65, op := Op.fieldAddr 35 (Operand.tmp 64) 2, type := _, pos := _, after := _, guard := _ }) (v := .pointer (some ⟨ab, af + j * 5 + 2, none⟩)) rfl (by kernel_rfl) (by kernel_rfl) (by kernel_rfl) (fun _ _ _ h => h) (Or.inl ⟨by rfl, fun V (hV : w.grownBy V none) => by go_simp⟩) h0 ?_
        (try simp only [Act.put, List.setIfInBounds_toArray, List.set_cons_zero, List.set_cons_succ])
        refine wpAnyH_take (i := 5) (oi := { dst := some 66, op := Op.load 5 (Operand.tmp 65), type := _, pos := _, after := _, guard := _ }) (v := bv x) rfl (by kernel_rfl) (by kernel_rfl) (by kernel_rfl) (fun _ _ _ h => h) (Or.inl ⟨by rfl, fun V (hV : w.grownBy V none) => by (have hv1 := hV.cell hck (by simp); go_simp)⟩) h0 ?_
        (try simp only [Act.put, List.setIfInBounds_toArray, List.set_cons_zero, List.set_cons_succ])
        refine wpAnyH_take (i := 6) (oi := { dst := some 67, op := Op.build 37 #[(0, (Operand.tmp 66))], type := _, pos := _, after := _, guard := _ }) (v := .agg KA) rfl (by kernel_rfl) (by kernel_rfl) (by kernel_rfl) (fun _ _ _ h => h) (yieldsIf_built (by rfl) _ _ rfl _ (by simpa [Act.eval] using unhide HBK)) h0 ?_
        (try simp only [Act.put, List.setIfInBounds_toArray, List.set_cons_zero, List.set_cons_succ])
        refine wpAnyH_take (i := 7) (oi := { dst := some 68, op := Op.move (Operand.tmp 1), type := _, pos := _, after := _, guard := _ }) (v := .slice (some ⟨ab, af, none⟩) Ln cl) rfl (by kernel_rfl) (by kernel_rfl) (by kernel_rfl) (fun _ _ _ h => h) (Or.inl ⟨by rfl, fun V (hV : w.grownBy V none) => by go_simp⟩) h0 ?_
        (try simp only [Act.put, List.setIfInBounds_toArray, List.set_cons_zero, List.set_cons_succ])
        refine wpAnyH_take (i := 8) (oi := { dst := some 69, op := Op.move (Operand.tmp 10), type := _, pos := _, after := _, guard := _ }) (v := .int .i64 (j : Int)) rfl (by kernel_rfl) (by kernel_rfl) (by kernel_rfl) (fun _ _ _ h => h) (Or.inl ⟨by rfl, fun V (hV : w.grownBy V none) => by go_simp⟩) h0 ?_
        (try simp only [Act.put, List.setIfInBounds_toArray, List.set_cons_zero, List.set_cons_succ])
        refine wpAnyH_take (i := 9) (oi := { dst := some 70, op := Op.indexAddr 23 (Operand.tmp 68) (Operand.tmp 69), type := _, pos := _, after := _, guard := _ }) (v := .pointer (some ⟨ab, af + j * 5, none⟩)) rfl (by kernel_rfl) (by kernel_rfl) (by kernel_rfl) (fun _ _ _ h => h) (Or.inl ⟨by rfl, fun V (hV : w.grownBy V none) => by go_simp⟩) h0 ?_
        (try simp only [Act.put, List.setIfInBounds_toArray, List.set_cons_zero, List.set_cons_succ])
        refine wpAnyH_take (i := 10) (oi := { dst := some 71, op := Op.fieldAddr 35 (Operand.tmp 70) 3, type := _, pos := _, after := _, guard := _ }) (v := .pointer (some ⟨ab, af + j * 5 + 3, none⟩)) rfl (by kernel_rfl) (by kernel_rfl) (by kernel_rfl) (fun _ _ _ h => h) (Or.inl ⟨by rfl, fun V (hV : w.grownBy V none) => by go_simp⟩) h0 ?_
        (try simp only [Act.put, List.setIfInBounds_toArray, List.set_cons_zero, List.set_cons_succ])
        refine wpAnyH_take (i := 11) (oi := { dst := some 72, op := Op.load 22 (Operand.tmp 71), type := _, pos := _, after := _, guard := _ }) (v := .slice bo q3 bc) rfl (by kernel_rfl) (by kernel_rfl) (by kernel_rfl) (fun _ _ _ h => h) (Or.inl ⟨by rfl, fun V (hV : w.grownBy V none) => by (have hv1 := hV.cell hcb' (by simp); go_simp)⟩) h0 ?_
        (try simp only [Act.put, List.setIfInBounds_toArray, List.set_cons_zero, List.set_cons_succ])
        refine wpAnyH_take (i := 13) (oi := { dst := some 74, op := Op.move (Operand.tmp 1), type := _, pos := _, after := _, guard := _ }) (v := .slice (some ⟨ab, af, none⟩) Ln cl) rfl (by kernel_rfl) (by kernel_rfl) (by kernel_rfl) (fun _ _ _ h => h) (Or.inl ⟨by rfl, fun V (hV : w.grownBy V none) => by go_simp⟩) h0 ?_
        (try simp only [Act.put, List.setIfInBounds_toArray, List.set_cons_zero, List.set_cons_succ])
        refine wpAnyH_take (i := 14) (oi := { dst := some 75, op := Op.move (Operand.tmp 10), type := _, pos := _, after := _, guard := _ }) (v := .int .i64 (j : Int)) rfl (by kernel_rfl) (by kernel_rfl) (by kernel_rfl) (fun _ _ _ h => h) (Or.inl ⟨by rfl, fun V (hV : w.grownBy V none) => by go_simp⟩) h0 ?_
        (try simp only [Act.put, List.setIfInBounds_toArray, List.set_cons_zero, List.set_cons_succ])
        refine wpAnyH_take (i := 15) (oi := { dst := some 76, op := Op.indexAddr 23 (Operand.tmp 74) (Operand.tmp 75), type := _, pos := _, after := _, guard := _ }) (v := .pointer (some ⟨ab, af + j * 5, none⟩)) rfl (by kernel_rfl) (by kernel_rfl) (by kernel_rfl) (fun _ _ _ h => h) (Or.inl ⟨by rfl, fun V (hV : w.grownBy V none) => by go_simp⟩) h0 ?_
        (try simp only [Act.put, List.setIfInBounds_toArray, List.set_cons_zero, List.set_cons_succ])
        refine wpAnyH_take (i := 16) (oi := { dst := some 77, op := Op.fieldAddr 35 (Operand.tmp 76) 4, type := _, pos := _, after := _, guard := _ }) (v := .pointer (some ⟨ab, af + j * 5 + 4, none⟩)) rfl (by kernel_rfl) (by kernel_rfl) (by kernel_rfl) (fun _ _ _ h => h) (Or.inl ⟨by rfl, fun V (hV : w.grownBy V none) => by go_simp⟩) h0 ?_
        (try simp only [Act.put, List.setIfInBounds_toArray, List.set_cons_zero, List.set_cons_succ])
        refine wpAnyH_take (i := 17) (oi := { dst := some 78, op := Op.load 22 (Operand.tmp 77), type := _, pos := _, after := _, guard := _ }) (v := .slice xo q4 xc) rfl (by kernel_rfl) (by kernel_rfl) (by kernel_rfl) (fun _ _ _ h => h) (Or.inl ⟨by rfl, fun V (hV : w.grownBy V none) => by (have hv1 := hV.cell hcx (by simp); go_simp)⟩) h0 ?_
        (try simp only [Act.put, List.setIfInBounds_toArray, List.set_cons_zero, List.set_cons_succ])
        refine wpAnyH_ready (rs := [12]) (by kernel_rfl) (by simp) ?_
        refine AllReadyH.cons (o := { dst := some 73, op := Op.call { callee := Callee.value (Operand.func 11), args := #[(Operand.tmp 72)], argTypes := #[22] }, type := _, pos := _, after := _, guard := _ }) rfl (fun K9 hK9 => ?_) AllReadyH.nil
        go_simp
        go_at_call 11
        refine (short8_min _ bo q3 bc hf3).mono ?_
        rintro e w6 ⟨rfl, rfl⟩
        go_wp2_with fail
        refine hK9.out _ _ h0 (fun _ => ?_)
        clear hK9 K9
        (try simp only [Act.put, List.setIfInBounds_toArray, List.set_cons_zero, List.set_cons_succ])
        refine wpAnyH_ready (rs := [18]) (by kernel_rfl) (by simp) ?_
        refine AllReadyH.cons (o := { dst := some 79, op := Op.call { callee := Callee.value (Operand.func 11), args := #[(Operand.tmp 78)], argTypes := #[22] }, type := _, pos := _, after := _, guard := _ }) rfl (fun K9 hK9 => ?_) AllReadyH.nil
        go_simp
        go_at_call 11
        refine (short8_min _ xo q4 xc hf4).mono ?_
        rintro e w6 ⟨rfl, rfl⟩
        go_wp2_with fail
        refine hK9.out _ _ h0 (fun _ => ?_)
        clear hK9 K9
        (try simp only [Act.put, List.setIfInBounds_toArray, List.set_cons_zero, List.set_cons_succ])
        refine wpAnyH_ready (rs := [19]) (by kernel_rfl) (by simp) ?_
        refine AllReadyH.cons (o := { dst := some 80, op := Op.call { callee := Callee.value (Operand.func 12), args := #[(Operand.tmp 61), (Operand.tmp 67), (Operand.tmp 73), (Operand.tmp 79)], argTypes := #[24, 37, 22, 22] }, type := _, pos := _, after := _, guard := _ }) rfl (fun K9 hK9 => ?_) AllReadyH.nil
        go_simp
        go_at_call 12
        refine (cs1).mono ?_
        rintro e w7 ⟨⟨so, sc, rfl, hX7⟩, hB7, b7, G7⟩
        go_wp2_with fail
        refine hK9.out _ _ G7 (fun _ => ?_)
        clear hK9 K9
        (try simp only [Act.put, List.setIfInBounds_toArray, List.set_cons_zero, List.set_cons_succ])
        have hS7 := hS6.box hB6 b7
        clear cs1 hB6 hS6 b7 h0
        refine wpAnyH_take (i := 20) (oi := { dst := some 60, op := Op.move (Operand.tmp 80), type := _, pos := _, after := _, guard := _ }) (v := .tuple #[.slice so (sh200 q4 + 28) sc, .int .i64 0]) rfl (by kernel_rfl) (by kernel_rfl) (by kernel_rfl) (fun _ _ _ h => h) (Or.inl ⟨by rfl, fun V (hV : w.grownBy V none) => by go_simp⟩) G7 ?_
        (try simp only [Act.put, List.setIfInBounds_toArray, List.set_cons_zero, List.set_cons_succ])
        refine wpAnyH_take (i := 21) (oi := { dst := some 81, op := Op.extract (Operand.tmp 60) 0, type := _, pos := _, after := _, guard := _ }) (v := .slice so (sh200 q4 + 28) sc) rfl (by kernel_rfl) (by kernel_rfl) (by kernel_rfl) (fun _ _ _ h => h) (Or.inl ⟨by rfl, fun V (hV : w.grownBy V none) => by go_simp⟩) G7 ?_
        (try simp only [Act.put, List.setIfInBounds_toArray, List.set_cons_zero, List.set_cons_succ])
        refine wpAnyH_take (i := 22) (oi := { dst := some 82, op := Op.extract (Operand.tmp 60) 1, type := _, pos := _, after := _, guard := _ }) (v := .int .i64 0) rfl (by kernel_rfl) (by kernel_rfl) (by kernel_rfl) (fun _ _ _ h => h) (Or.inl ⟨by rfl, fun V (hV : w.grownBy V none) => by go_simp⟩) G7 ?_
        (try simp only [Act.put, List.setIfInBounds_toArray, List.set_cons_zero, List.set_cons_succ])
        refine wpAnyH_take (i := 23) (oi := { dst := some 11, op := Op.assign (Operand.tmp 81), type := _, pos := _, after := _, guard := _ }) (v := .slice so (sh200 q4 + 28) sc) rfl (by kernel_rfl) (by kernel_rfl) (by kernel_rfl) (fun _ _ _ h => h) (Or.inl ⟨by rfl, fun V (hV : w.grownBy V none) => by go_simp⟩) G7 ?_
        (try simp only [Act.put, List.setIfInBounds_toArray, List.set_cons_zero, List.set_cons_succ])
        refine wpAnyH_take (i := 24) (oi := { dst := some 12, op := Op.assign (Operand.tmp 82), type := _, pos := _, after := _, guard := _ }) (v := .int .i64 0) rfl (by kernel_rfl) (by kernel_rfl) (by kernel_rfl) (fun _ _ _ h => h) (Or.inl ⟨by rfl, fun V (hV : w.grownBy V none) => by go_simp⟩) G7 ?_
        (try simp only [Act.put, List.setIfInBounds_toArray, List.set_cons_zero, List.set_cons_succ])
        refine wpAnyH_done (by kernel_rfl) ?_ _
        refine NoPanic.normal ?_
        have hcx7 := G7.cell hcx (by simp)
        go_upto_region 10 with fail
        refine region_named fun O hO => ?_
        refine wpList_val (by rw [hO]; kernel_rfl) (.int .i64 0) (fun K9 hK9 => by go_simp; exact hK9) ?_
        (try simp only [Act.put, List.setIfInBounds_toArray, List.set_cons_zero, List.set_cons_succ])
        refine wpList_val (by rw [hO]; kernel_rfl) (.bool false) (fun K9 hK9 => by go_simp; exact hK9) ?_
        (try simp only [Act.put, List.setIfInBounds_toArray, List.set_cons_zero, List.set_cons_succ])
        refine wpList_val (by rw [hO]; kernel_rfl) (.bool false) (fun K9 hK9 => by go_simp; exact hK9) ?_
        (try simp only [Act.put, List.setIfInBounds_toArray, List.set_cons_zero, List.set_cons_succ])
        refine wpList_val (by rw [hO]; kernel_rfl) (.slice so (sh200 q4 + 28) sc) (fun K9 hK9 => by go_simp; exact hK9) ?_
        (try simp only [Act.put, List.setIfInBounds_toArray, List.set_cons_zero, List.set_cons_succ])
        refine wpList_val (by rw [hO]; kernel_rfl) (.int .i64 (((sh200 q4 : Nat) : Int) + 28)) (fun K9 hK9 => by go_simp; exact hK9) ?_
        (try simp only [Act.put, List.setIfInBounds_toArray, List.set_cons_zero, List.set_cons_succ])
        refine wpList_val (by rw [hO]; kernel_rfl) (.slice (some ⟨ab, af, none⟩) Ln cl) (fun K9 hK9 => by go_simp; exact hK9) ?_
        (try simp only [Act.put, List.setIfInBounds_toArray, List.set_cons_zero, List.set_cons_succ])
        refine wpList_val (by rw [hO]; kernel_rfl) (.int .i64 (j : Int)) (fun K9 hK9 => by go_simp; exact hK9) ?_
        (try simp only [Act.put, List.setIfInBounds_toArray, List.set_cons_zero, List.set_cons_succ])
        refine wpList_val (by rw [hO]; kernel_rfl) (.pointer (some ⟨ab, af + j * 5, none⟩)) (fun K9 hK9 => by go_simp; exact hK9) ?_
        (try simp only [Act.put, List.setIfInBounds_toArray, List.set_cons_zero, List.set_cons_succ])
        refine wpList_val (by rw [hO]; kernel_rfl) (.pointer (some ⟨ab, af + j * 5 + 4, none⟩)) (fun K9 hK9 => by go_simp; exact hK9) ?_
        (try simp only [Act.put, List.setIfInBounds_toArray, List.set_cons_zero, List.set_cons_succ])
        refine wpList_val (by rw [hO]; kernel_rfl) (.slice xo q4 xc) (fun K9 hK9 => by go_simp; exact hK9) ?_
        (try simp only [Act.put, List.setIfInBounds_toArray, List.set_cons_zero, List.set_cons_succ])
        refine wpList_want (by rw [hO]; kernel_rfl) fun K9 hK9 => ?_
        go_simp
        go_at_call 11
        refine (short8_min w7 xo q4 xc hf4).mono ?_
        rintro e w2 ⟨rfl, e2⟩
        subst w2
        refine hK9 _ _ ?_
        clear hK9 K9
        (try simp only [Act.put, List.setIfInBounds_toArray, List.set_cons_zero, List.set_cons_succ])
        refine wpList_val (by rw [hO]; kernel_rfl) (.int .i64 ((sh200 q4 : Nat) : Int)) (fun K9 hK9 => by go_simp; exact hK9) ?_
        (try simp only [Act.put, List.setIfInBounds_toArray, List.set_cons_zero, List.set_cons_succ])
        refine wpList_val (by rw [hO]; kernel_rfl) (.int .i64 (((sh200 q4 : Nat) : Int) + 28)) (fun K9 hK9 => by go_simp; exact hK9) ?_
        (try simp only [Act.put, List.setIfInBounds_toArray, List.set_cons_zero, List.set_cons_succ])
        refine wpList_val (by rw [hO]; kernel_rfl) (.bool false) (fun K9 hK9 => by go_simp; exact hK9) ?_
        (try simp only [Act.put, List.setIfInBounds_toArray, List.set_cons_zero, List.set_cons_succ])
        refine wpList_val (by rw [hO]; kernel_rfl) (.bool false) (fun K9 hK9 => by go_simp; exact hK9) ?_
        (try simp only [Act.put, List.setIfInBounds_toArray, List.set_cons_zero, List.set_cons_succ])
        go_upto_region 12 with fail
        refine region_named fun O hO => ?_
        refine wpList_val (by rw [hO]; kernel_rfl) (u9) (fun K9 hK9 => by go_simp; exact hK9) ?_
        (try simp only [Act.put, List.setIfInBounds_toArray, List.set_cons_zero, List.set_cons_succ])
        refine wpList_val (by rw [hO]; kernel_rfl) (.slice so (sh200 q4 + 28) sc) (fun K9 hK9 => by go_simp; exact hK9) ?_
        (try simp only [Act.put, List.setIfInBounds_toArray, List.set_cons_zero, List.set_cons_succ])
        have hsv : slV (so, sc, s) = .slice so (sh200 q4 + 28) sc := by unfold slV; simp only; rw [unhide HSL]
        refine wpList_want (by rw [hO]; kernel_rfl) fun K9 hK9 => ?_
        go_simp
        refine hK9 _ _ ?_
        clear hK9 K9
        (try simp only [Act.put, List.setIfInBounds_toArray, List.set_cons_zero, List.set_cons_succ])
        obtain ⟨W8, hW8, hp8, g8⟩ := alloc_one w7 (.slice so (sh200 q4 + 28) sc)
        rw [← hW8]
        rw [← hsv] at hp8
        clear hW8 hsv
        refine wpList_append_sl rfl _ _ rfl w.heap.size u9 S (so, sc, s) rfl w7.heap.size rfl hp8 (hS7.none g8) (hX7.none g8) (by omega) (Nat.le_trans G7.size g8.size) ?_
        intro v9 w9 hS9 g9
        have hB9 := (hB7.none g8).sl (hS7.none g8).own g9
        have G9 : w.grownBy w9 none := gb_trans (tn G7 g8) g9 (fun y e => Or.inl ((hS7.none g8).own.lt y e).1)
        clear hp8 hS7 hX7 hB7 g8 g9 G7
        (try simp only [Act.put, List.setIfInBounds_toArray, List.set_cons_zero, List.set_cons_succ])
        refine wpList_val (by rw [hO]; kernel_rfl) (v9) (fun K9 hK9 => by go_simp; exact hK9) ?_
        (try simp only [Act.put, List.setIfInBounds_toArray, List.set_cons_zero, List.set_cons_succ])
        go_wp2
        go_roundw
        case rel => exact ⟨j + 1, C, S ++ [(so, sc, s)], by omega, by go_num, by simp [hSl], hS9, hB9, hrd', hok', by rw [hmo']; exact hmo, ⟨by omega, by rw [hLl']; omega⟩, htxs', (fun i h1 h2 => unhide HGD i h1 (by simpa [hSl] using h2) (so, sc, s) rfl h2), G9⟩
        case measure => simp [intOf]; omega
      · obtain rfl : j = M := by omega
        have hjc : (Ln = j) ∨ (j < Ln ∧ j = 12) := by omega
        have hjM : j ≤ 12 := by omega
        clear hM hlt hj
        go_upto_region 7 with fail
        go_cut [57] (fun x57 wx => x57 = .bool false ∧ wx = wr)
        case first =>
          rcases hjc with rfl | ⟨hjl, hj12⟩
          · have hn1 : ¬ (Ln : Int) < (Ln : Int) := by omega
            clear hSl hbd hjM
            go_wp2
            go_meet
            case rel => exact ⟨rfl, rfl⟩
          · have hn1 : (j : Int) < (Ln : Int) := by omega
            have hn2 : ¬ (j : Int) < 12 := by omega
            clear hjl hj12 hSl hbd hjM
            go_wp2
            go_meet
            case rel => exact ⟨rfl, rfl⟩
        case rest =>
          obtain ⟨rfl, e9⟩ := hcut
          subst wc
          obtain ⟨w6, rfl⟩ : ∃ w6, w6 = wr := ⟨_, rfl⟩
          obtain ⟨vo, vc, rfl, hvo⟩ := own_formE hS0.own
          have hjL : j ≤ l.length := by have := unhide HL; omega
          rw [hSl]
          have HSL := hide hSl
          clear hjc hSl hbd hrd
          go_wp2
          go_loopw [13] (fun i wr => ∃ i2 : Nat, i2 ≤ j ∧ i = .int .i64 i2 ∧ w6.grownBy wr none) (fun i _ => j - (intOf i).toNat)
          case atStart => exact ⟨0, Nat.zero_le _, rfl, gb_refl _ _⟩
          case round =>
            obtain ⟨i2, hi2, rfl, g6⟩ := hrel
            obtain ⟨wo, rfl⟩ : ∃ wo, wo = wr := ⟨_, rfl⟩
            have G6 := tn G g6
            by_cases hlt : i2 < j
            · have hil : i2 < l.length := by omega
              have hiS : i2 < S.length := by have := unhide HSL; omega
              obtain ⟨ab, af, rfl, hr⟩ := (unhide HA).at i2 hil
              have hbe0 := (unhide HA).b3 i2 hil
              have htx0 := (unhide HA).b4 i2 hil
              have hgd := hgood i2 hil hiS
              obtain ⟨g, rfl⟩ := hvo (by have := unhide HSL; omega)
              have hcell := (hS0.none g6).cell i2 hiS
              have htxt := ((hS0.none g6).txt S[i2] (List.getElem_mem hiS))
              obtain ⟨y, hy⟩ : ∃ y, y = S[i2] := ⟨_, rfl⟩
              rw [← hy] at hgd hcell htxt
              obtain ⟨so, sc, s⟩ := y
              simp only [slV] at hgd hcell htxt
              obtain ⟨r, hrr⟩ : ∃ r, r = l[i2] := ⟨_, rfl⟩
              rw [← hrr] at hr hbe0 htx0 hgd
              have hbl : (r.be.take 200).length = sh200 r.be.length := take200_length _
              have htl : (r.tx.take 200).length = sh200 r.tx.length := take200_length _
              have hsl : s.length = sh200 r.tx.length + 28 := by rw [hgd.len, htl]
              rw [hsl] at hcell
              have hs3 := sh200_le r.be.length
              have hs4 := sh200_le r.tx.length
              have hf3 : r.be.length ≤ r.bc := hbe0.fits
              have hf4 : r.tx.length ≤ r.xc := htx0.fits
              have hBe := hbe0.short 200
              have hTx := htx0.short 200
              have hBox := hB0.none g6
              have cop1 : ∀ V, wo.grownBy V none → Calls Tryd.prog 14 #[.pointer (some ⟨bb, 0, none⟩), .agg ((key1 r.key).map bv).toArray, .slice r.bo (sh200 r.be.length) r.bc, .slice so (sh200 r.tx.length + 28) sc] V fun e w' => (∃ xo xc, e = .returned (.tuple #[.slice xo (sh200 r.tx.length) xc, .bool true]) ∧ BtT w' xo xc (r.tx.take 200)) ∧ V.grownBy w' none := fun V gV => by
                have := unhide HOP V bb bs bm B (key1 r.key) (r.be.take 200) s r.bo so r.bc sc _ _ (some (r.tx.take 200)) (tn G6 gV) (hBox.none gV) (key1_length _) (hBe.old (tn G6 gV)) (htxt.none gV).bts (by omega) (by omega) hok htxs (hgd.opens hok) hbl hsl
                refine this.mono fun e w' ⟨⟨xo, xc, he, hx⟩, gg⟩ => ⟨⟨xo, xc, ?_, hx⟩, gg⟩
                rw [he]
                show Ending.returned (.tuple #[.slice xo (r.tx.take 200).length xc, .bool true]) = _
                rw [htl]
              have hcvT : ∀ V, wo.grownBy V none → (convert 22 9 (.slice r.xo (sh200 r.tx.length) r.xc)).run Tryd.prog V = .ok (.string (str (r.tx.take 200))) V := fun V gV => by
                have := conv_str (hTx.old (tn G6 gV))
                rw [htl] at this
                exact this
              have hcvX : ∀ V xo xc, BtT V xo xc (r.tx.take 200) → (convert 22 9 (.slice xo (sh200 r.tx.length) xc)).run Tryd.prog V = .ok (.string (str (r.tx.take 200))) V := fun V xo xc hx => by
                have := conv_str hx.bts
                rw [htl] at this
                exact this
              have cop2 : ∀ V, wo.grownBy V none → Calls Tryd.prog 14 #[.pointer (some ⟨bb, 0, none⟩), .agg ((key2 r.key).map bv).toArray, .slice r.bo (sh200 r.be.length) r.bc, .slice so (sh200 r.tx.length + 28) sc] V fun e w' => (∃ xo xc, e = .returned (.tuple #[.slice xo 0 xc, .bool false])) ∧ V.grownBy w' none := fun V gV => by
                have := unhide HOP V bb bs bm B (key2 r.key) (r.be.take 200) s r.bo so r.bc sc _ _ none (tn G6 gV) (hBox.none gV) (key2_length _) (hBe.old (tn G6 gV)) (htxt.none gV).bts (by omega) (by omega) hok htxs (hgd.other_key hok hmo) hbl hsl
                exact this.mono fun e w' ⟨⟨xo, xc, he, hx⟩, gg⟩ => ⟨⟨xo, xc, he⟩, gg⟩
              have cop3 : ∀ V eo ec, wo.grownBy V none → BtT V eo ec (r.be.take 200 ++ [0]) → Calls Tryd.prog 14 #[.pointer (some ⟨bb, 0, none⟩), .agg ((key1 r.key).map bv).toArray, .slice eo (sh200 r.be.length + 1) ec, .slice so (sh200 r.tx.length + 28) sc] V fun e w' => (∃ xo xc, e = .returned (.tuple #[.slice xo 0 xc, .bool false])) ∧ V.grownBy w' none := fun V eo ec gV hE => by
                have := unhide HOP V bb bs bm B (key1 r.key) (r.be.take 200 ++ [0]) s eo so ec sc (sh200 r.be.length + 1) _ none (tn G6 gV) (hBox.none gV) (key1_length _) hE.bts (htxt.none gV).bts (by rw [List.length_append, hbl, List.length_singleton]; omega) (by omega) hok htxs (hgd.other_beside hok hmo) (by rw [List.length_append, hbl]; rfl) hsl
                exact this.mono fun e w' ⟨⟨xo, xc, he, hx⟩, gg⟩ => ⟨⟨xo, xc, he⟩, gg⟩
              have hrg := range_kept hr G6 (by simp)
              obtain ⟨AC, hAC⟩ : ∃ A, A = [.int .i64 r.kind, .int .i64 r.n, bv r.key, .slice r.bo r.be.length r.bc, .slice r.xo r.tx.length r.xc] := ⟨_, rfl⟩
              rw [← hAC] at hrg
              have hiA : (Tryd.prog.info? 35).map (·.size) = some AC.length := by rw [hAC]; exact info_act
              have hsA : AC.toArray.size = 5 := by rw [hAC]; rfl
              have hoA : AC.toArray.all (·.oneCell') = true := by
                rw [hAC]
                refine all_oneCell_toArray (fun v hv => ?_)
                simp only [List.mem_cons, List.not_mem_nil, or_false] at hv
                rcases hv with rfl | rfl | rfl | rfl | rfl <;> rfl
              have hA2 : AC[2]? = some (bv r.key) := by rw [hAC]; rfl
              have hA3 : AC[3]? = some (.slice r.bo r.be.length r.bc) := by rw [hAC]; rfl
              have hA4 : AC[4]? = some (.slice r.xo r.tx.length r.xc) := by rw [hAC]; rfl
              have hzv := zero_act
              obtain ⟨ZL, hZL⟩ : ∃ Z : List Value, Z = [.int .i64 0, .int .i64 0, .int .u8 0, .slice none 0 0, .slice none 0 0] := ⟨_, rfl⟩
              have hzv2 : ∀ w, (zeroValue 35).run Tryd.prog w = .ok (.agg ZL.toArray) w := fun w => by rw [hZL]; exact hzv w
              have hsZ : ZL.toArray.size = 5 := by rw [hZL]; rfl
              obtain ⟨W1, hW1⟩ : ∃ W1, W1 = (wo.alloc (.cells ZL.toArray 35)).setRow wo.heap.size AC.toArray := ⟨_, rfl⟩
              have hZ1 : Blk (wo.alloc (.cells ZL.toArray 35)) wo.heap.size 35 ZL := Blk.new wo _ _
              have hA1 : Blk W1 wo.heap.size 35 AC := by rw [hW1]; exact hZ1.row AC
              have g1 : wo.grownBy W1 none := by rw [hW1]; exact gb_row (gb_alloc (gb_refl _ _) _) _ (Or.inl (Nat.le_refl _))
              obtain ⟨p, hp⟩ : ∃ p, p = wo.heap.size := ⟨_, rfl⟩
              have hbk := unhide HK1 r.key
              have hbk2 := unhide HK2 r.key
              obtain ⟨KA, hKA⟩ : ∃ A : Array Value, A = ((key1 r.key).map bv).toArray := ⟨_, rfl⟩
              obtain ⟨K2, hK2⟩ : ∃ A : Array Value, A = ((key2 r.key).map bv).toArray := ⟨_, rfl⟩
              rw [← hKA] at hbk
              rw [← hK2] at hbk2
              simp only [← hKA] at cop1
              simp only [← hKA] at cop3
              simp only [← hK2] at cop2
              obtain ⟨be, hbe⟩ : ∃ n, n = r.be.take 200 := ⟨_, rfl⟩
              obtain ⟨tx, htx⟩ : ∃ n, n = r.tx.take 200 := ⟨_, rfl⟩
              rw [← hbe] at hBe hbl
              obtain ⟨q3, hq3⟩ : ∃ n, n = r.be.length := ⟨_, rfl⟩
              obtain ⟨q4, hq4⟩ : ∃ n, n = r.tx.length := ⟨_, rfl⟩
              obtain ⟨bo, hbo⟩ : ∃ n, n = r.bo := ⟨_, rfl⟩
              obtain ⟨bc, hbc⟩ : ∃ n, n = r.bc := ⟨_, rfl⟩
              obtain ⟨xo, hxo⟩ : ∃ n, n = r.xo := ⟨_, rfl⟩
              obtain ⟨xc, hxc⟩ : ∃ n, n = r.xc := ⟨_, rfl⟩
              obtain ⟨x, hx⟩ : ∃ n, n = r.key := ⟨_, rfl⟩
              obtain ⟨sT, hsT⟩ : ∃ n, n = str tx := ⟨_, rfl⟩
              rw [← hx] at hA2 hbk hbk2
              rw [← hq3, ← hbo, ← hbc] at hA3
              rw [← hq4, ← hxo, ← hxc] at hA4
              rw [← hq3] at hf3 hbl hs3
              rw [← hbc] at hf3
              rw [← hq4] at hf4 hcell hs4
              rw [← hxc] at hf4
              rw [← hbo, ← hbc] at hBe
              simp only [← hq3, ← hq4, ← hbo, ← hbc, ← htx] at cop1
              simp only [← hq4, ← hxo, ← hxc, ← htx, ← hsT] at hcvT hcvX
              simp only [← hq3, ← hq4, ← hbo, ← hbc] at cop2
              simp only [← hq3, ← hq4, ← hbe] at cop3
              have hin : (i2 : Int) < (Ln : Int) := by have := unhide HL; omega
              have hi0 : (0 : Int) ≤ (i2 : Int) := by omega
              have hij : (i2 : Int) < (j : Int) := by omega
              have hwj : IntKind.i64.wrap ((i2 : Int) + 1) = (i2 : Int) + 1 := by rw [IntKind.wrap_i64]; omega
              have h0 : wo.grownBy W1.drew none := gb_drew g1
              have ca2 := hA1.cell 2
              have ca3 := hA1.cell 3
              have ca4 := hA1.cell 4
              rw [hA2] at ca2
              rw [hA3] at ca3
              rw [hA4] at ca4
              rw [← hp] at ca2 ca3 ca4
              have hcell1 := g1.cell hcell (by simp)
              have cop1 := cop1 W1.drew h0
              have hBeW := fun V (gV : wo.grownBy V none) => hBe.old (tn G6 gV)
              have HBK := hide hbk
              have HBK2 := hide hbk2
              have HZ1 := hide hZ1
              have HW1 := hide hW1
              have HRG := hide hrg
              have HIA := hide hiA
              have HSA := hide hsA
              have HSZ := hide hsZ
              have HOA := hide hoA
              have HP := hide hp
              clear hr hbe0 htx0 hgd hy htxt hrr htl hsl hTx hrg hAC hiA hsA hoA hA2 hA3 hA4 hzv hZL hsZ hW1 hZ1 hA1 hp hbk hbk2 hKA hK2 hbe htx hq3 hq4 hbo hbc hxo hxc hx hsT hcell hil hiS hBe hi2
              go_upto_region 16 with fail
              refine region_named fun O hO => ?_
              refine wpList_val (by rw [hO]; kernel_rfl) (.slice (some ⟨ab, af, none⟩) Ln cl) (fun K9 hK9 => by go_simp; exact hK9) ?_
              (try simp only [Act.put, List.setIfInBounds_toArray, List.set_cons_zero, List.set_cons_succ])
              refine wpList_val (by rw [hO]; kernel_rfl) (.int .i64 (i2 : Int)) (fun K9 hK9 => by go_simp; exact hK9) ?_
              (try simp only [Act.put, List.setIfInBounds_toArray, List.set_cons_zero, List.set_cons_succ])
              refine wpList_val (by rw [hO]; kernel_rfl) (.pointer (some ⟨ab, af + i2 * 5, none⟩)) (fun K9 hK9 => by go_simp; exact hK9) ?_
              (try simp only [Act.put, List.setIfInBounds_toArray, List.set_cons_zero, List.set_cons_succ])
              refine wpList_val (by rw [hO]; kernel_rfl) (.agg AC.toArray) (fun K9 hK9 => wp_load_mid _ _ rfl ab (af + i2 * 5) rfl AC _ (unhide HRG) Tryd.underlying35 rfl (unhide HIA) hK9) ?_
              (try simp only [Act.put, List.setIfInBounds_toArray, List.set_cons_zero, List.set_cons_succ])
              refine wpList_want (by rw [hO]; kernel_rfl) fun K9 hK9 => ?_
              go_simp
              refine hK9 _ _ ?_
              clear hK9 K9
              (try simp only [Act.put, List.setIfInBounds_toArray, List.set_cons_zero, List.set_cons_succ])
              skip
              refine wpList_store_row rfl 35 _ _ rfl wo.heap.size _ rfl rfl _ _ (unhide HZ1) (by rw [unhide HSA]; exact info_act) (by rw [unhide HSA, unhide HSZ]) (unhide HOA) ?_
              rw [← unhide HW1]
              rw [← unhide HP]
              (try simp only [Act.put])
              have h01 : W1.grownBy W1.drew none := gb_drew (gb_refl _ _)
              go_upto_region 17 with fail
              refine wp_region_noPanic ?_
              refine wp_region_held_drew (S := fun V => W1.grownBy V none) (by kernel_rfl) h01 (fun _ => ?_)
              refine wpAnyH_take (i := 0) (oi := { dst := some 113, op := Op.move (Operand.tmp 7), type := _, pos := _, after := _, guard := _ }) (v := .pointer (some ⟨bb, 0, none⟩)) rfl (by kernel_rfl) (by kernel_rfl) (by kernel_rfl) (fun _ _ _ h => h) (Or.inl ⟨by rfl, fun V (hV : W1.grownBy V none) => by go_simp⟩) h01 ?_
              (try simp only [Act.put, List.setIfInBounds_toArray, List.set_cons_zero, List.set_cons_succ])
              refine wpAnyH_take (i := 1) (oi := { dst := some 114, op := Op.fieldAddr 35 (Operand.tmp 14) 2, type := _, pos := _, after := _, guard := _ }) (v := .pointer (some ⟨p, 2, none⟩)) rfl (by kernel_rfl) (by kernel_rfl) (by kernel_rfl) (fun _ _ _ h => h) (Or.inl ⟨by rfl, fun V (hV : W1.grownBy V none) => by go_simp⟩) h01 ?_
              (try simp only [Act.put, List.setIfInBounds_toArray, List.set_cons_zero, List.set_cons_succ])
              refine wpAnyH_take (i := 2) (oi := { dst := some 115, op := Op.load 5 (Operand.tmp 114), type := _, pos := _, after := _, guard := _ }) (v := bv x) rfl (by kernel_rfl) (by kernel_rfl) (by kernel_rfl) (fun _ _ _ h => h) (Or.inl ⟨by rfl, fun V (hV : W1.grownBy V none) => by (have hv1 := hV.cell ca2 (by simp); go_simp)⟩) h01 ?_
              (try simp only [Act.put, List.setIfInBounds_toArray, List.set_cons_zero, List.set_cons_succ])
              refine wpAnyH_take (i := 3) (oi := { dst := some 116, op := Op.build 37 #[(0, (Operand.tmp 115))], type := _, pos := _, after := _, guard := _ }) (v := .agg KA) rfl (by kernel_rfl) (by kernel_rfl) (by kernel_rfl) (fun _ _ _ h => h) (yieldsIf_built (by rfl) _ _ rfl _ (by simpa [Act.eval] using unhide HBK)) h01 ?_
              (try simp only [Act.put, List.setIfInBounds_toArray, List.set_cons_zero, List.set_cons_succ])
              refine wpAnyH_take (i := 4) (oi := { dst := some 117, op := Op.fieldAddr 35 (Operand.tmp 14) 3, type := _, pos := _, after := _, guard := _ }) (v := .pointer (some ⟨p, 3, none⟩)) rfl (by kernel_rfl) (by kernel_rfl) (by kernel_rfl) (fun _ _ _ h => h) (Or.inl ⟨by rfl, fun V (hV : W1.grownBy V none) => by go_simp⟩) h01 ?_
              (try simp only [Act.put, List.setIfInBounds_toArray, List.set_cons_zero, List.set_cons_succ])
              refine wpAnyH_take (i := 5) (oi := { dst := some 118, op := Op.load 22 (Operand.tmp 117), type := _, pos := _, after := _, guard := _ }) (v := .slice bo q3 bc) rfl (by kernel_rfl) (by kernel_rfl) (by kernel_rfl) (fun _ _ _ h => h) (Or.inl ⟨by rfl, fun V (hV : W1.grownBy V none) => by (have hv1 := hV.cell ca3 (by simp); go_simp)⟩) h01 ?_
              (try simp only [Act.put, List.setIfInBounds_toArray, List.set_cons_zero, List.set_cons_succ])
              refine wpAnyH_take (i := 7) (oi := { dst := some 120, op := Op.move (Operand.tmp 9), type := _, pos := _, after := _, guard := _ }) (v := .slice (some ⟨g, 0, none⟩) j vc) rfl (by kernel_rfl) (by kernel_rfl) (by kernel_rfl) (fun _ _ _ h => h) (Or.inl ⟨by rfl, fun V (hV : W1.grownBy V none) => by go_simp⟩) h01 ?_
              (try simp only [Act.put, List.setIfInBounds_toArray, List.set_cons_zero, List.set_cons_succ])
              refine wpAnyH_take (i := 8) (oi := { dst := some 121, op := Op.move (Operand.tmp 13), type := _, pos := _, after := _, guard := _ }) (v := .int .i64 (i2 : Int)) rfl (by kernel_rfl) (by kernel_rfl) (by kernel_rfl) (fun _ _ _ h => h) (Or.inl ⟨by rfl, fun V (hV : W1.grownBy V none) => by go_simp⟩) h01 ?_
              (try simp only [Act.put, List.setIfInBounds_toArray, List.set_cons_zero, List.set_cons_succ])
              refine wpAnyH_take (i := 9) (oi := { dst := some 122, op := Op.indexAddr 53 (Operand.tmp 120) (Operand.tmp 121), type := _, pos := _, after := _, guard := _ }) (v := .pointer (some ⟨g, i2, none⟩)) rfl (by kernel_rfl) (by kernel_rfl) (by kernel_rfl) (fun _ _ _ h => h) (Or.inl ⟨by rfl, fun V (hV : W1.grownBy V none) => by go_simp⟩) h01 ?_
              (try simp only [Act.put, List.setIfInBounds_toArray, List.set_cons_zero, List.set_cons_succ])
              refine wpAnyH_take (i := 10) (oi := { dst := some 123, op := Op.load 22 (Operand.tmp 122), type := _, pos := _, after := _, guard := _ }) (v := .slice so (sh200 q4 + 28) sc) rfl (by kernel_rfl) (by kernel_rfl) (by kernel_rfl) (fun _ _ _ h => h) (Or.inl ⟨by rfl, fun V (hV : W1.grownBy V none) => by (have hv1 := hV.cell hcell1 (by simp); go_simp)⟩) h01 ?_
              (try simp only [Act.put, List.setIfInBounds_toArray, List.set_cons_zero, List.set_cons_succ])
              refine wpAnyH_ready (rs := [6]) (by kernel_rfl) (by simp) ?_
              refine AllReadyH.cons (o := { dst := some 119, op := Op.call { callee := Callee.value (Operand.func 11), args := #[(Operand.tmp 118)], argTypes := #[22] }, type := _, pos := _, after := _, guard := _ }) rfl (fun K9 hK9 => ?_) AllReadyH.nil
              go_simp
              go_at_call 11
              refine (short8_min _ bo q3 bc hf3).mono ?_
              rintro e wq ⟨rfl, rfl⟩
              go_wp2_with fail
              refine hK9.out _ _ h01 (fun _ => ?_)
              clear hK9 K9
              (try simp only [Act.put, List.setIfInBounds_toArray, List.set_cons_zero, List.set_cons_succ])
              refine wpAnyH_ready (rs := [11]) (by kernel_rfl) (by simp) ?_
              refine AllReadyH.cons (o := { dst := some 124, op := Op.call { callee := Callee.value (Operand.func 14), args := #[(Operand.tmp 113), (Operand.tmp 116), (Operand.tmp 119), (Operand.tmp 123)], argTypes := #[24, 37, 22, 22] }, type := _, pos := _, after := _, guard := _ }) rfl (fun K9 hK9 => ?_) AllReadyH.nil
              go_simp
              go_at_call 14
              refine (cop1).mono ?_
              rintro e w2 ⟨⟨yo, yc, rfl, hX2⟩, gd⟩
              go_wp2_with fail
              refine hK9.out _ _ (tn h01 gd) (fun _ => ?_)
              clear hK9 K9
              (try simp only [Act.put, List.setIfInBounds_toArray, List.set_cons_zero, List.set_cons_succ])
              have h2 := tn h01 gd
              clear gd
              refine wpAnyH_take (i := 12) (oi := { dst := some 112, op := Op.move (Operand.tmp 124), type := _, pos := _, after := _, guard := _ }) (v := .tuple #[.slice yo (sh200 q4) yc, .bool true]) rfl (by kernel_rfl) (by kernel_rfl) (by kernel_rfl) (fun _ _ _ h => h) (Or.inl ⟨by rfl, fun V (hV : W1.grownBy V none) => by go_simp⟩) h2 ?_
              (try simp only [Act.put, List.setIfInBounds_toArray, List.set_cons_zero, List.set_cons_succ])
              refine wpAnyH_take (i := 13) (oi := { dst := some 125, op := Op.extract (Operand.tmp 112) 0, type := _, pos := _, after := _, guard := _ }) (v := .slice yo (sh200 q4) yc) rfl (by kernel_rfl) (by kernel_rfl) (by kernel_rfl) (fun _ _ _ h => h) (Or.inl ⟨by rfl, fun V (hV : W1.grownBy V none) => by go_simp⟩) h2 ?_
              (try simp only [Act.put, List.setIfInBounds_toArray, List.set_cons_zero, List.set_cons_succ])
              refine wpAnyH_take (i := 14) (oi := { dst := some 126, op := Op.extract (Operand.tmp 112) 1, type := _, pos := _, after := _, guard := _ }) (v := .bool true) rfl (by kernel_rfl) (by kernel_rfl) (by kernel_rfl) (fun _ _ _ h => h) (Or.inl ⟨by rfl, fun V (hV : W1.grownBy V none) => by go_simp⟩) h2 ?_
              (try simp only [Act.put, List.setIfInBounds_toArray, List.set_cons_zero, List.set_cons_succ])
              refine wpAnyH_take (i := 15) (oi := { dst := some 15, op := Op.assign (Operand.tmp 125), type := _, pos := _, after := _, guard := _ }) (v := .slice yo (sh200 q4) yc) rfl (by kernel_rfl) (by kernel_rfl) (by kernel_rfl) (fun _ _ _ h => h) (Or.inl ⟨by rfl, fun V (hV : W1.grownBy V none) => by go_simp⟩) h2 ?_
              (try simp only [Act.put, List.setIfInBounds_toArray, List.set_cons_zero, List.set_cons_succ])
              refine wpAnyH_take (i := 16) (oi := { dst := some 16, op := Op.assign (Operand.tmp 126), type := _, pos := _, after := _, guard := _ }) (v := .bool true) rfl (by kernel_rfl) (by kernel_rfl) (by kernel_rfl) (fun _ _ _ h => h) (Or.inl ⟨by rfl, fun V (hV : W1.grownBy V none) => by go_simp⟩) h2 ?_
              (try simp only [Act.put, List.setIfInBounds_toArray, List.set_cons_zero, List.set_cons_succ])
              refine wpAnyH_done (by kernel_rfl) ?_ _
              refine NoPanic.normal ?_
              go_upto_region 18 with fail
              have hX3 := hX2
              have h03 : W1.grownBy w2.drew none := gb_drew h2
              have hcX : ∀ V, w2.grownBy V none → (convert 22 9 (.slice yo (sh200 q4) yc)).run Tryd.prog V = .ok (.string sT) V := fun V gV => hcvX V yo yc (hX2.none gV)
              have hcT : ∀ V, w2.grownBy V none → (convert 22 9 (.slice xo (sh200 q4) xc)).run Tryd.prog V = .ok (.string sT) V := fun V gV => hcvT V (tn (tn g1 h2) gV)
              have ca4' := h2.cell ca4 (by simp)
              have hd2 : w2.grownBy w2.drew none := gb_drew (gb_refl _ _)
              refine wp_region_noPanic ?_
              refine wp_region_held_drew (S := fun V => w2.grownBy V none) (by kernel_rfl) hd2 (fun _ => ?_)
              refine wpAnyH_take (i := 0) (oi := { dst := some 127, op := Op.move (Operand.tmp 16), type := _, pos := _, after := _, guard := _ }) (v := .bool true) rfl (by kernel_rfl) (by kernel_rfl) (by kernel_rfl) (fun _ _ _ h => h) (Or.inl ⟨by rfl, fun V (hV : w2.grownBy V none) => by go_simp⟩) hd2 ?_
              (try simp only [Act.put, List.setIfInBounds_toArray, List.set_cons_zero, List.set_cons_succ])
              refine wpAnyH_take (i := 1) (oi := { dst := some 128, op := Op.unOp UnOp.not 4 (Operand.tmp 127), type := _, pos := _, after := _, guard := _ }) (v := .bool false) rfl (by kernel_rfl) (by kernel_rfl) (by kernel_rfl) (fun _ _ _ h => h) (Or.inl ⟨by rfl, fun V (hV : w2.grownBy V none) => by go_simp⟩) hd2 ?_
              (try simp only [Act.put, List.setIfInBounds_toArray, List.set_cons_zero, List.set_cons_succ])
              refine wpAnyH_take (i := 2) (oi := { dst := some 129, op := Op.move (Operand.tmp 128), type := _, pos := _, after := _, guard := _ }) (v := .bool false) rfl (by kernel_rfl) (by kernel_rfl) (by kernel_rfl) (fun _ _ _ h => h) (Or.inl ⟨by rfl, fun V (hV : w2.grownBy V none) => by go_simp⟩) hd2 ?_
              (try simp only [Act.put, List.setIfInBounds_toArray, List.set_cons_zero, List.set_cons_succ])
              refine wpAnyH_take (i := 3) (oi := { dst := some 130, op := Op.move (Operand.tmp 15), type := _, pos := _, after := _, guard := _ }) (v := .slice yo (sh200 q4) yc) rfl (by kernel_rfl) (by kernel_rfl) (by kernel_rfl) (fun _ _ _ h => h) (Or.inl ⟨by rfl, fun V (hV : w2.grownBy V none) => by go_simp⟩) hd2 ?_
              (try simp only [Act.put, List.setIfInBounds_toArray, List.set_cons_zero, List.set_cons_succ])
              refine wpAnyH_take (i := 4) (oi := { dst := some 131, op := Op.convert 22 9 (Operand.tmp 130), type := _, pos := _, after := _, guard := _ }) (v := .string sT) rfl (by kernel_rfl) (by kernel_rfl) (by kernel_rfl) (fun _ _ _ h => h) (Or.inl ⟨by rfl, fun V (hV : w2.grownBy V none) => by (have hv9 := hcX V hV; go_simp)⟩) hd2 ?_
              (try simp only [Act.put, List.setIfInBounds_toArray, List.set_cons_zero, List.set_cons_succ])
              refine wpAnyH_take (i := 5) (oi := { dst := some 132, op := Op.fieldAddr 35 (Operand.tmp 14) 4, type := _, pos := _, after := _, guard := _ }) (v := .pointer (some ⟨p, 4, none⟩)) rfl (by kernel_rfl) (by kernel_rfl) (by kernel_rfl) (fun _ _ _ h => h) (Or.inl ⟨by rfl, fun V (hV : w2.grownBy V none) => by go_simp⟩) hd2 ?_
              (try simp only [Act.put, List.setIfInBounds_toArray, List.set_cons_zero, List.set_cons_succ])
              refine wpAnyH_take (i := 6) (oi := { dst := some 133, op := Op.load 22 (Operand.tmp 132), type := _, pos := _, after := _, guard := _ }) (v := .slice xo q4 xc) rfl (by kernel_rfl) (by kernel_rfl) (by kernel_rfl) (fun _ _ _ h => h) (Or.inl ⟨by rfl, fun V (hV : w2.grownBy V none) => by (have hv1 := hV.cell ca4' (by simp); go_simp)⟩) hd2 ?_
              (try simp only [Act.put, List.setIfInBounds_toArray, List.set_cons_zero, List.set_cons_succ])
              refine wpAnyH_ready (rs := [7]) (by kernel_rfl) (by simp) ?_
              refine AllReadyH.cons (o := { dst := some 134, op := Op.call { callee := Callee.value (Operand.func 11), args := #[(Operand.tmp 133)], argTypes := #[22] }, type := _, pos := _, after := _, guard := _ }) rfl (fun K9 hK9 => ?_) AllReadyH.nil
              go_simp
              go_at_call 11
              refine (short8_min _ xo q4 xc hf4).mono ?_
              rintro e wq ⟨rfl, rfl⟩
              go_wp2_with fail
              refine hK9.out _ _ hd2 (fun _ => ?_)
              clear hK9 K9
              (try simp only [Act.put, List.setIfInBounds_toArray, List.set_cons_zero, List.set_cons_succ])
              refine wpAnyH_take (i := 8) (oi := { dst := some 135, op := Op.convert 22 9 (Operand.tmp 134), type := _, pos := _, after := _, guard := _ }) (v := .string sT) rfl (by kernel_rfl) (by kernel_rfl) (by kernel_rfl) (fun _ _ _ h => h) (Or.inl ⟨by rfl, fun V (hV : w2.grownBy V none) => by (have hv9 := hcT V hV; go_simp)⟩) hd2 ?_
              (try simp only [Act.put, List.setIfInBounds_toArray, List.set_cons_zero, List.set_cons_succ])
              refine wpAnyH_take (i := 9) (oi := { dst := some 136, op := Op.binOp BinOp.neq 9 (Operand.tmp 131) (Operand.tmp 135) 9, type := _, pos := _, after := _, guard := _ }) (v := .bool false) rfl (by kernel_rfl) (by kernel_rfl) (by kernel_rfl) (fun _ _ _ h => h) (Or.inl ⟨by rfl, fun V (hV : w2.grownBy V none) => by go_simp⟩) hd2 ?_
              (try simp only [Act.put, List.setIfInBounds_toArray, List.set_cons_zero, List.set_cons_succ])
              refine wpAnyH_take (i := 10) (oi := { dst := some 137, op := Op.pick (Operand.tmp 129) (Operand.const (Value.bool true)) (Operand.tmp 136), type := _, pos := _, after := _, guard := _ }) (v := .bool false) rfl (by kernel_rfl) (by kernel_rfl) (by kernel_rfl) (fun _ _ _ h => h) (Or.inl ⟨by rfl, fun V (hV : w2.grownBy V none) => by go_simp⟩) hd2 ?_
              (try simp only [Act.put, List.setIfInBounds_toArray, List.set_cons_zero, List.set_cons_succ])
              refine wpAnyH_done (by kernel_rfl) ?_ _
              refine NoPanic.normal ?_
              clear hcX hcT ca4' hX2 hX3 hcvX hcvT
              go_upto_region 20 with fail
              refine region_named fun O hO => ?_
              refine wpList_val (by rw [hO]; kernel_rfl) (.int .i64 1) (fun K9 hK9 => by go_simp; exact hK9) ?_
              (try simp only [Act.put, List.setIfInBounds_toArray, List.set_cons_zero, List.set_cons_succ])
              refine wpList_val (by rw [hO]; kernel_rfl) (.bool false) (fun K9 hK9 => by go_simp; exact hK9) ?_
              (try simp only [Act.put, List.setIfInBounds_toArray, List.set_cons_zero, List.set_cons_succ])
              have g3 : wo.grownBy w2.drew none := tn g1 (tn h2 hd2)
              obtain ⟨w3, hw3⟩ : ∃ w3, w3 = w2.drew := ⟨_, rfl⟩
              have h23 : W1.grownBy w3 none := by rw [hw3]; exact tn h2 hd2
              rw [← hw3] at g3 ⊢
              clear hw3 h03 hd2 h2
              have ca2b := h23.cell ca2 (by simp)
              have ca3b := h23.cell ca3 (by simp)
              have hcellb := h23.cell hcell1 (by simp)
              have h0b : w3.grownBy w3.drew none := gb_drew (gb_refl _ _)
              have cop2 := cop2 w3.drew (tn g3 h0b)
              go_upto_region 21 with fail
              refine wp_region_noPanic ?_
              refine wp_region_held_drew (S := fun V => w3.grownBy V none) (by kernel_rfl) h0b (fun _ => ?_)
              refine wpAnyH_take (i := 0) (oi := { dst := some 141, op := Op.move (Operand.tmp 7), type := _, pos := _, after := _, guard := _ }) (v := .pointer (some ⟨bb, 0, none⟩)) rfl (by kernel_rfl) (by kernel_rfl) (by kernel_rfl) (fun _ _ _ h => h) (Or.inl ⟨by rfl, fun V (hV : w3.grownBy V none) => by go_simp⟩) h0b ?_
              (try simp only [Act.put, List.setIfInBounds_toArray, List.set_cons_zero, List.set_cons_succ])
              refine wpAnyH_take (i := 1) (oi := { dst := some 142, op := Op.fieldAddr 35 (Operand.tmp 14) 2, type := _, pos := _, after := _, guard := _ }) (v := .pointer (some ⟨p, 2, none⟩)) rfl (by kernel_rfl) (by kernel_rfl) (by kernel_rfl) (fun _ _ _ h => h) (Or.inl ⟨by rfl, fun V (hV : w3.grownBy V none) => by go_simp⟩) h0b ?_
              (try simp only [Act.put, List.setIfInBounds_toArray, List.set_cons_zero, List.set_cons_succ])
              refine wpAnyH_take (i := 2) (oi := { dst := some 143, op := Op.load 5 (Operand.tmp 142), type := _, pos := _, after := _, guard := _ }) (v := bv x) rfl (by kernel_rfl) (by kernel_rfl) (by kernel_rfl) (fun _ _ _ h => h) (Or.inl ⟨by rfl, fun V (hV : w3.grownBy V none) => by (have hv1 := hV.cell ca2b (by simp); go_simp)⟩) h0b ?_
              (try simp only [Act.put, List.setIfInBounds_toArray, List.set_cons_zero, List.set_cons_succ])
              refine wpAnyH_take (i := 3) (oi := { dst := some 144, op := Op.build 37 #[(0, (Operand.tmp 143)), (1, Operand.const (Value.int IntKind.u8 1))], type := _, pos := _, after := _, guard := _ }) (v := .agg K2) rfl (by kernel_rfl) (by kernel_rfl) (by kernel_rfl) (fun _ _ _ h => h) (yieldsIf_built (by rfl) _ _ rfl _ (by simpa [Act.eval] using unhide HBK2)) h0b ?_
              (try simp only [Act.put, List.setIfInBounds_toArray, List.set_cons_zero, List.set_cons_succ])
              refine wpAnyH_take (i := 4) (oi := { dst := some 145, op := Op.fieldAddr 35 (Operand.tmp 14) 3, type := _, pos := _, after := _, guard := _ }) (v := .pointer (some ⟨p, 3, none⟩)) rfl (by kernel_rfl) (by kernel_rfl) (by kernel_rfl) (fun _ _ _ h => h) (Or.inl ⟨by rfl, fun V (hV : w3.grownBy V none) => by go_simp⟩) h0b ?_
              (try simp only [Act.put, List.setIfInBounds_toArray, List.set_cons_zero, List.set_cons_succ])
              refine wpAnyH_take (i := 5) (oi := { dst := some 146, op := Op.load 22 (Operand.tmp 145), type := _, pos := _, after := _, guard := _ }) (v := .slice bo q3 bc) rfl (by kernel_rfl) (by kernel_rfl) (by kernel_rfl) (fun _ _ _ h => h) (Or.inl ⟨by rfl, fun V (hV : w3.grownBy V none) => by (have hv1 := hV.cell ca3b (by simp); go_simp)⟩) h0b ?_
              (try simp only [Act.put, List.setIfInBounds_toArray, List.set_cons_zero, List.set_cons_succ])
              refine wpAnyH_take (i := 7) (oi := { dst := some 148, op := Op.move (Operand.tmp 9), type := _, pos := _, after := _, guard := _ }) (v := .slice (some ⟨g, 0, none⟩) j vc) rfl (by kernel_rfl) (by kernel_rfl) (by kernel_rfl) (fun _ _ _ h => h) (Or.inl ⟨by rfl, fun V (hV : w3.grownBy V none) => by go_simp⟩) h0b ?_
              (try simp only [Act.put, List.setIfInBounds_toArray, List.set_cons_zero, List.set_cons_succ])
              refine wpAnyH_take (i := 8) (oi := { dst := some 149, op := Op.move (Operand.tmp 13), type := _, pos := _, after := _, guard := _ }) (v := .int .i64 (i2 : Int)) rfl (by kernel_rfl) (by kernel_rfl) (by kernel_rfl) (fun _ _ _ h => h) (Or.inl ⟨by rfl, fun V (hV : w3.grownBy V none) => by go_simp⟩) h0b ?_
              (try simp only [Act.put, List.setIfInBounds_toArray, List.set_cons_zero, List.set_cons_succ])
              refine wpAnyH_take (i := 9) (oi := { dst := some 150, op := Op.indexAddr 53 (Operand.tmp 148) (Operand.tmp 149), type := _, pos := _, after := _, guard := _ }) (v := .pointer (some ⟨g, i2, none⟩)) rfl (by kernel_rfl) (by kernel_rfl) (by kernel_rfl) (fun _ _ _ h => h) (Or.inl ⟨by rfl, fun V (hV : w3.grownBy V none) => by go_simp⟩) h0b ?_
              (try simp only [Act.put, List.setIfInBounds_toArray, List.set_cons_zero, List.set_cons_succ])
              refine wpAnyH_take (i := 10) (oi := { dst := some 151, op := Op.load 22 (Operand.tmp 150), type := _, pos := _, after := _, guard := _ }) (v := .slice so (sh200 q4 + 28) sc) rfl (by kernel_rfl) (by kernel_rfl) (by kernel_rfl) (fun _ _ _ h => h) (Or.inl ⟨by rfl, fun V (hV : w3.grownBy V none) => by (have hv1 := hV.cell hcellb (by simp); go_simp)⟩) h0b ?_
              (try simp only [Act.put, List.setIfInBounds_toArray, List.set_cons_zero, List.set_cons_succ])
              refine wpAnyH_ready (rs := [6]) (by kernel_rfl) (by simp) ?_
              refine AllReadyH.cons (o := { dst := some 147, op := Op.call { callee := Callee.value (Operand.func 11), args := #[(Operand.tmp 146)], argTypes := #[22] }, type := _, pos := _, after := _, guard := _ }) rfl (fun K9 hK9 => ?_) AllReadyH.nil
              go_simp
              go_at_call 11
              refine (short8_min _ bo q3 bc hf3).mono ?_
              rintro e wq ⟨rfl, rfl⟩
              go_wp2_with fail
              refine hK9.out _ _ h0b (fun _ => ?_)
              clear hK9 K9
              (try simp only [Act.put, List.setIfInBounds_toArray, List.set_cons_zero, List.set_cons_succ])
              refine wpAnyH_ready (rs := [11]) (by kernel_rfl) (by simp) ?_
              refine AllReadyH.cons (o := { dst := some 152, op := Op.call { callee := Callee.value (Operand.func 14), args := #[(Operand.tmp 141), (Operand.tmp 144), (Operand.tmp 147), (Operand.tmp 151)], argTypes := #[24, 37, 22, 22] }, type := _, pos := _, after := _, guard := _ }) rfl (fun K9 hK9 => ?_) AllReadyH.nil
              go_simp
              go_at_call 14
              refine (cop2).mono ?_
              rintro e w4 ⟨⟨zo, zc, rfl⟩, gd⟩
              go_wp2_with fail
              refine hK9.out _ _ (tn h0b gd) (fun _ => ?_)
              clear hK9 K9
              (try simp only [Act.put, List.setIfInBounds_toArray, List.set_cons_zero, List.set_cons_succ])
              have h34 := tn h0b gd
              clear gd
              refine wpAnyH_take (i := 12) (oi := { dst := some 140, op := Op.move (Operand.tmp 152), type := _, pos := _, after := _, guard := _ }) (v := .tuple #[.slice zo 0 zc, .bool false]) rfl (by kernel_rfl) (by kernel_rfl) (by kernel_rfl) (fun _ _ _ h => h) (Or.inl ⟨by rfl, fun V (hV : w3.grownBy V none) => by go_simp⟩) h34 ?_
              (try simp only [Act.put, List.setIfInBounds_toArray, List.set_cons_zero, List.set_cons_succ])
              refine wpAnyH_take (i := 13) (oi := { dst := some 153, op := Op.extract (Operand.tmp 140) 0, type := _, pos := _, after := _, guard := _ }) (v := .slice zo 0 zc) rfl (by kernel_rfl) (by kernel_rfl) (by kernel_rfl) (fun _ _ _ h => h) (Or.inl ⟨by rfl, fun V (hV : w3.grownBy V none) => by go_simp⟩) h34 ?_
              (try simp only [Act.put, List.setIfInBounds_toArray, List.set_cons_zero, List.set_cons_succ])
              refine wpAnyH_take (i := 14) (oi := { dst := some 154, op := Op.extract (Operand.tmp 140) 1, type := _, pos := _, after := _, guard := _ }) (v := .bool false) rfl (by kernel_rfl) (by kernel_rfl) (by kernel_rfl) (fun _ _ _ h => h) (Or.inl ⟨by rfl, fun V (hV : w3.grownBy V none) => by go_simp⟩) h34 ?_
              (try simp only [Act.put, List.setIfInBounds_toArray, List.set_cons_zero, List.set_cons_succ])
              refine wpAnyH_take (i := 15) (oi := { dst := some 17, op := Op.assign (Operand.tmp 153), type := _, pos := _, after := _, guard := _ }) (v := .slice zo 0 zc) rfl (by kernel_rfl) (by kernel_rfl) (by kernel_rfl) (fun _ _ _ h => h) (Or.inl ⟨by rfl, fun V (hV : w3.grownBy V none) => by go_simp⟩) h34 ?_
              (try simp only [Act.put, List.setIfInBounds_toArray, List.set_cons_zero, List.set_cons_succ])
              refine wpAnyH_take (i := 16) (oi := { dst := some 18, op := Op.assign (Operand.tmp 154), type := _, pos := _, after := _, guard := _ }) (v := .bool false) rfl (by kernel_rfl) (by kernel_rfl) (by kernel_rfl) (fun _ _ _ h => h) (Or.inl ⟨by rfl, fun V (hV : w3.grownBy V none) => by go_simp⟩) h34 ?_
              (try simp only [Act.put, List.setIfInBounds_toArray, List.set_cons_zero, List.set_cons_succ])
              refine wpAnyH_done (by kernel_rfl) ?_ _
              refine NoPanic.normal ?_
              have g4 : wo.grownBy w4 none := tn g3 h34
              have ca2c := h34.cell ca2b (by simp)
              have ca3c := h34.cell ca3b (by simp)
              have hcellc := h34.cell hcellb (by simp)
              have hBe4 := fun V (gV : w4.grownBy V none) => hBeW V (tn g4 gV)
              have hcop3 : ∀ V eo ec, w4.grownBy V none → BtT V eo ec (be ++ [0]) → Calls Tryd.prog 14 #[.pointer (some ⟨bb, 0, none⟩), .agg KA, .slice eo (sh200 q3 + 1) ec, .slice so (sh200 q4 + 28) sc] V fun e w' => (∃ xo xc, e = .returned (.tuple #[.slice xo 0 xc, .bool false])) ∧ V.grownBy w' none := fun V eo ec gV hE => cop3 V eo ec (tn g4 gV) hE
              have hend : ∀ V, w4.grownBy V none → w6.grownBy V none := fun V gV => tn g6 (tn g4 gV)
              have h0c : w4.grownBy w4.drew none := gb_drew (gb_refl _ _)
              have hb4 : w4.heap.size ≤ w4.drew.heap.size := h0c.size
              have HBL := hide hbl
              have HC3 := hide hcop3
              have HBE4 := hide hBe4
              have HEND := hide hend
              clear cop3 hcop3 hBe4 hend hBeW ca2 ca3 ca4 ca2b ca3b hcellb hcell1 hbl
              go_upto_region 22 with fail
              refine wp_region_noPanic ?_
              refine wp_region_held_drew (S := fun V => w4.grownBy V none) (by kernel_rfl) h0c (fun _ => ?_)
              refine wpAnyH_take (i := 0) (oi := { dst := some 156, op := Op.move (Operand.tmp 7), type := _, pos := _, after := _, guard := _ }) (v := .pointer (some ⟨bb, 0, none⟩)) rfl (by kernel_rfl) (by kernel_rfl) (by kernel_rfl) (fun _ _ _ h => h) (Or.inl ⟨by rfl, fun V (hV : w4.grownBy V none) => by go_simp⟩) h0c ?_
              (try simp only [Act.put, List.setIfInBounds_toArray, List.set_cons_zero, List.set_cons_succ])
              refine wpAnyH_take (i := 1) (oi := { dst := some 157, op := Op.fieldAddr 35 (Operand.tmp 14) 2, type := _, pos := _, after := _, guard := _ }) (v := .pointer (some ⟨p, 2, none⟩)) rfl (by kernel_rfl) (by kernel_rfl) (by kernel_rfl) (fun _ _ _ h => h) (Or.inl ⟨by rfl, fun V (hV : w4.grownBy V none) => by go_simp⟩) h0c ?_
              (try simp only [Act.put, List.setIfInBounds_toArray, List.set_cons_zero, List.set_cons_succ])
              refine wpAnyH_take (i := 2) (oi := { dst := some 158, op := Op.load 5 (Operand.tmp 157), type := _, pos := _, after := _, guard := _ }) (v := bv x) rfl (by kernel_rfl) (by kernel_rfl) (by kernel_rfl) (fun _ _ _ h => h) (Or.inl ⟨by rfl, fun V (hV : w4.grownBy V none) => by (have hv1 := hV.cell ca2c (by simp); go_simp)⟩) h0c ?_
              (try simp only [Act.put, List.setIfInBounds_toArray, List.set_cons_zero, List.set_cons_succ])
              refine wpAnyH_take (i := 3) (oi := { dst := some 159, op := Op.build 37 #[(0, (Operand.tmp 158))], type := _, pos := _, after := _, guard := _ }) (v := .agg KA) rfl (by kernel_rfl) (by kernel_rfl) (by kernel_rfl) (fun _ _ _ h => h) (yieldsIf_built (by rfl) _ _ rfl _ (by simpa [Act.eval] using unhide HBK)) h0c ?_
              (try simp only [Act.put, List.setIfInBounds_toArray, List.set_cons_zero, List.set_cons_succ])
              refine wpAnyH_take (i := 5) (oi := { dst := some 161, op := Op.fieldAddr 35 (Operand.tmp 14) 3, type := _, pos := _, after := _, guard := _ }) (v := .pointer (some ⟨p, 3, none⟩)) rfl (by kernel_rfl) (by kernel_rfl) (by kernel_rfl) (fun _ _ _ h => h) (Or.inl ⟨by rfl, fun V (hV : w4.grownBy V none) => by go_simp⟩) h0c ?_
              (try simp only [Act.put, List.setIfInBounds_toArray, List.set_cons_zero, List.set_cons_succ])
              refine wpAnyH_take (i := 6) (oi := { dst := some 162, op := Op.load 22 (Operand.tmp 161), type := _, pos := _, after := _, guard := _ }) (v := .slice bo q3 bc) rfl (by kernel_rfl) (by kernel_rfl) (by kernel_rfl) (fun _ _ _ h => h) (Or.inl ⟨by rfl, fun V (hV : w4.grownBy V none) => by (have hv1 := hV.cell ca3c (by simp); go_simp)⟩) h0c ?_
              (try simp only [Act.put, List.setIfInBounds_toArray, List.set_cons_zero, List.set_cons_succ])
              refine wpAnyH_take (i := 11) (oi := { dst := some 167, op := Op.move (Operand.tmp 9), type := _, pos := _, after := _, guard := _ }) (v := .slice (some ⟨g, 0, none⟩) j vc) rfl (by kernel_rfl) (by kernel_rfl) (by kernel_rfl) (fun _ _ _ h => h) (Or.inl ⟨by rfl, fun V (hV : w4.grownBy V none) => by go_simp⟩) h0c ?_
              (try simp only [Act.put, List.setIfInBounds_toArray, List.set_cons_zero, List.set_cons_succ])
              refine wpAnyH_take (i := 12) (oi := { dst := some 168, op := Op.move (Operand.tmp 13), type := _, pos := _, after := _, guard := _ }) (v := .int .i64 (i2 : Int)) rfl (by kernel_rfl) (by kernel_rfl) (by kernel_rfl) (fun _ _ _ h => h) (Or.inl ⟨by rfl, fun V (hV : w4.grownBy V none) => by go_simp⟩) h0c ?_
              (try simp only [Act.put, List.setIfInBounds_toArray, List.set_cons_zero, List.set_cons_succ])
              refine wpAnyH_take (i := 13) (oi := { dst := some 169, op := Op.indexAddr 53 (Operand.tmp 167) (Operand.tmp 168), type := _, pos := _, after := _, guard := _ }) (v := .pointer (some ⟨g, i2, none⟩)) rfl (by kernel_rfl) (by kernel_rfl) (by kernel_rfl) (fun _ _ _ h => h) (Or.inl ⟨by rfl, fun V (hV : w4.grownBy V none) => by go_simp⟩) h0c ?_
              (try simp only [Act.put, List.setIfInBounds_toArray, List.set_cons_zero, List.set_cons_succ])
              refine wpAnyH_take (i := 14) (oi := { dst := some 170, op := Op.load 22 (Operand.tmp 169), type := _, pos := _, after := _, guard := _ }) (v := .slice so (sh200 q4 + 28) sc) rfl (by kernel_rfl) (by kernel_rfl) (by kernel_rfl) (fun _ _ _ h => h) (Or.inl ⟨by rfl, fun V (hV : w4.grownBy V none) => by (have hv1 := hV.cell hcellc (by simp); go_simp)⟩) h0c ?_
              (try simp only [Act.put, List.setIfInBounds_toArray, List.set_cons_zero, List.set_cons_succ])
              refine wpAnyH_ready (rs := [4, 7, 9]) (by kernel_rfl) (by simp) ?_
              refine AllReadyH.cons (o := { dst := some 160, op := Op.buildSlice 22 0 #[], type := _, pos := _, after := _, guard := _ }) rfl (fun K9 hK9 => ?_) (AllReadyH.cons (o := { dst := some 163, op := Op.call { callee := Callee.value (Operand.func 11), args := #[(Operand.tmp 162)], argTypes := #[22] }, type := _, pos := _, after := _, guard := _ }) rfl (fun K9 hK9 => ?_) (AllReadyH.cons (o := { dst := some 165, op := Op.buildSlice 22 1 #[(0, Operand.const (Value.int IntKind.u8 0))], type := _, pos := _, after := _, guard := _ }) rfl (fun K9 hK9 => ?_) AllReadyH.nil))
              · go_simp
                refine hK9.out _ _ (gb_alloc h0c _) (fun _ => ?_)
                clear hK9 K9
                (try simp only [Act.put, List.setIfInBounds_toArray, List.set_cons_zero, List.set_cons_succ])
                obtain ⟨W4, hW4, hv4, gw4⟩ := own_new (w4.drew) w4.heap.size (h0c).size
                rw [show (w4.alloc (.cells #[] 5)).drew = W4 by rw [hW4]; rfl]
                clear hW4
                have G4b := tn h0c gw4
                refine wpAnyH_ready (rs := [7, 9]) (by kernel_rfl) (by simp) ?_
                refine AllReadyH.cons (o := { dst := some 163, op := Op.call { callee := Callee.value (Operand.func 11), args := #[(Operand.tmp 162)], argTypes := #[22] }, type := _, pos := _, after := _, guard := _ }) rfl (fun K9 hK9 => ?_) (AllReadyH.cons (o := { dst := some 165, op := Op.buildSlice 22 1 #[(0, Operand.const (Value.int IntKind.u8 0))], type := _, pos := _, after := _, guard := _ }) rfl (fun K9 hK9 => ?_) AllReadyH.nil)
                · go_simp
                  go_at_call 11
                  refine (short8_min _ bo q3 bc hf3).mono ?_
                  rintro e wq ⟨rfl, eq9⟩
                  subst wq
                  go_wp2_with fail
                  refine hK9.out _ _ G4b (fun _ => ?_)
                  clear hK9 K9
                  (try simp only [Act.put, List.setIfInBounds_toArray, List.set_cons_zero, List.set_cons_succ])
                  refine wpAnyH_ready (rs := [8, 9]) (by kernel_rfl) (by simp) ?_
                  refine AllReadyH.cons (o := { dst := some 164, op := Op.call { callee := Callee.builtin Builtin.append, args := #[(Operand.tmp 160), (Operand.tmp 163)], argTypes := #[22, 22] }, type := _, pos := _, after := _, guard := _ }) rfl (fun K9 hK9 => ?_) (AllReadyH.cons (o := { dst := some 165, op := Op.buildSlice 22 1 #[(0, Operand.const (Value.int IntKind.u8 0))], type := _, pos := _, after := _, guard := _ }) rfl (fun K9 hK9 => ?_) AllReadyH.nil)
                  · refine step_append_bts (by rfl) _ _ rfl w4.heap.size (.slice (some ⟨(w4.drew).heap.size, 0, none⟩) 0 0) 0 _ rfl hv4 bo bc be (unhide HBE4 _ G4b) (sh200 q3) (unhide HBL).symm rfl (by rw [unhide HBL]; omega) (G4b).size ?_
                    intro v8 w8 hv8 g8
                    have G8 : w4.grownBy w8 none := gb_trans G4b g8 (fun y e => Or.inl (hv4.lt y e).1)
                    refine hK9.out _ _ G8 (fun _ => ?_)
                    clear hK9 K9
                    (try simp only [Act.put, List.setIfInBounds_toArray, List.set_cons_zero, List.set_cons_succ])
                    rw [Nat.zero_add, List.nil_append, unhide HBL] at hv8
                    refine wpAnyH_ready (rs := [9]) (by kernel_rfl) (by simp) ?_
                    refine AllReadyH.cons (o := { dst := some 165, op := Op.buildSlice 22 1 #[(0, Operand.const (Value.int IntKind.u8 0))], type := _, pos := _, after := _, guard := _ }) rfl (fun K9 hK9 => ?_) AllReadyH.nil
                    go_simp
                    refine hK9.out _ _ (gb_alloc G8 _) (fun _ => ?_)
                    clear hK9 K9
                    (try simp only [Act.put, List.setIfInBounds_toArray, List.set_cons_zero, List.set_cons_succ])
                    obtain ⟨W9, hW9, hb9, gw9⟩ := alloc_zero (w8)
                    rw [← hW9]
                    clear hW9
                    have G9b := tn G8 gw9
                    have hv8 := own_keep hv8 gw9
                    refine wpAnyH_ready (rs := [10]) (by kernel_rfl) (by simp) ?_
                    refine AllReadyH.cons (o := { dst := some 166, op := Op.call { callee := Callee.builtin Builtin.append, args := #[(Operand.tmp 164), (Operand.tmp 165)], argTypes := #[22, 22] }, type := _, pos := _, after := _, guard := _ }) rfl (fun K9 hK9 => ?_) AllReadyH.nil
                    refine step_append_bts (by rfl) _ _ rfl w4.heap.size v8 (sh200 q3) _ rfl hv8 (some ⟨(w8).heap.size, 0, none⟩) 1 [0] hb9.bts 1 rfl rfl (by simp; omega) (G9b).size ?_
                    intro v10 w10 hv10 g10
                    have G10 : w4.grownBy w10 none := gb_trans G9b g10 (fun y e => Or.inl (hv8.lt y e).1)
                    refine hK9.out _ _ G10 (fun _ => ?_)
                    clear hK9 K9
                    (try simp only [Act.put, List.setIfInBounds_toArray, List.set_cons_zero, List.set_cons_succ])
                    rw [← List.map_append] at hv10
                    obtain ⟨eo, ec, rfl, hE⟩ := own_btT hv10
                    rw [show List.length (be ++ [(0 : UInt8)]) = sh200 q3 + 1 by rw [List.length_append, unhide HBL]; rfl]
                    have c15 := unhide HC3 w10 eo ec G10 hE
                    refine wpAnyH_ready (rs := [15]) (by kernel_rfl) (by simp) ?_
                    refine AllReadyH.cons (o := { dst := some 171, op := Op.call { callee := Callee.value (Operand.func 14), args := #[(Operand.tmp 156), (Operand.tmp 159), (Operand.tmp 166), (Operand.tmp 170)], argTypes := #[24, 37, 22, 22] }, type := _, pos := _, after := _, guard := _ }) rfl (fun K9 hK9 => ?_) AllReadyH.nil
                    go_simp
                    go_at_call 14
                    refine (c15).mono ?_
                    rintro e w15 ⟨⟨zo2, zc2, rfl⟩, gz⟩
                    go_wp2_with fail
                    refine hK9.out _ _ (tn G10 gz) (fun _ => ?_)
                    clear hK9 K9
                    (try simp only [Act.put, List.setIfInBounds_toArray, List.set_cons_zero, List.set_cons_succ])
                    have G15 := tn G10 gz
                    refine wpAnyH_take (i := 16) (oi := { dst := some 155, op := Op.move (Operand.tmp 171), type := _, pos := _, after := _, guard := _ }) (v := .tuple #[.slice zo2 0 zc2, .bool false]) rfl (by kernel_rfl) (by kernel_rfl) (by kernel_rfl) (fun _ _ _ h => h) (Or.inl ⟨by rfl, fun V (hV : w4.grownBy V none) => by go_simp⟩) G15 ?_
                    (try simp only [Act.put, List.setIfInBounds_toArray, List.set_cons_zero, List.set_cons_succ])
                    refine wpAnyH_take (i := 17) (oi := { dst := some 172, op := Op.extract (Operand.tmp 155) 0, type := _, pos := _, after := _, guard := _ }) (v := .slice zo2 0 zc2) rfl (by kernel_rfl) (by kernel_rfl) (by kernel_rfl) (fun _ _ _ h => h) (Or.inl ⟨by rfl, fun V (hV : w4.grownBy V none) => by go_simp⟩) G15 ?_
                    (try simp only [Act.put, List.setIfInBounds_toArray, List.set_cons_zero, List.set_cons_succ])
                    refine wpAnyH_take (i := 18) (oi := { dst := some 173, op := Op.extract (Operand.tmp 155) 1, type := _, pos := _, after := _, guard := _ }) (v := .bool false) rfl (by kernel_rfl) (by kernel_rfl) (by kernel_rfl) (fun _ _ _ h => h) (Or.inl ⟨by rfl, fun V (hV : w4.grownBy V none) => by go_simp⟩) G15 ?_
                    (try simp only [Act.put, List.setIfInBounds_toArray, List.set_cons_zero, List.set_cons_succ])
                    refine wpAnyH_take (i := 19) (oi := { dst := some 19, op := Op.assign (Operand.tmp 172), type := _, pos := _, after := _, guard := _ }) (v := .slice zo2 0 zc2) rfl (by kernel_rfl) (by kernel_rfl) (by kernel_rfl) (fun _ _ _ h => h) (Or.inl ⟨by rfl, fun V (hV : w4.grownBy V none) => by go_simp⟩) G15 ?_
                    (try simp only [Act.put, List.setIfInBounds_toArray, List.set_cons_zero, List.set_cons_succ])
                    refine wpAnyH_take (i := 20) (oi := { dst := some 20, op := Op.assign (Operand.tmp 173), type := _, pos := _, after := _, guard := _ }) (v := .bool false) rfl (by kernel_rfl) (by kernel_rfl) (by kernel_rfl) (fun _ _ _ h => h) (Or.inl ⟨by rfl, fun V (hV : w4.grownBy V none) => by go_simp⟩) G15 ?_
                    (try simp only [Act.put, List.setIfInBounds_toArray, List.set_cons_zero, List.set_cons_succ])
                    refine wpAnyH_done (by kernel_rfl) ?_ _
                    refine NoPanic.normal ?_
                    go_upto_region 23 with fail
                    refine region_named fun O hO => ?_
                    refine wpList_val (by rw [hO]; kernel_rfl) (.bool false) (fun K9 hK9 => by go_simp; exact hK9) ?_
                    (try simp only [Act.put, List.setIfInBounds_toArray, List.set_cons_zero, List.set_cons_succ])
                    refine wpList_val (by rw [hO]; kernel_rfl) (.bool false) (fun K9 hK9 => by go_simp; exact hK9) ?_
                    (try simp only [Act.put, List.setIfInBounds_toArray, List.set_cons_zero, List.set_cons_succ])
                    refine wpList_val (by rw [hO]; kernel_rfl) (.bool false) (fun K9 hK9 => by go_simp; exact hK9) ?_
                    (try simp only [Act.put, List.setIfInBounds_toArray, List.set_cons_zero, List.set_cons_succ])
                    refine wpList_val (by rw [hO]; kernel_rfl) (.bool false) (fun K9 hK9 => by go_simp; exact hK9) ?_
                    (try simp only [Act.put, List.setIfInBounds_toArray, List.set_cons_zero, List.set_cons_succ])
                    go_wp2
                    go_roundw
                    case rel => exact ⟨i2 + 1, by omega, by go_num, unhide HEND _ G15⟩
                    case measure => simp [intOf]; omega
                  · go_simp
                    refine hK9.out _ _ (gb_alloc G4b _) (fun _ => ?_)
                    clear hK9 K9
                    (try simp only [Act.put, List.setIfInBounds_toArray, List.set_cons_zero, List.set_cons_succ])
                    obtain ⟨W9, hW9, hb9, gw9⟩ := alloc_zero (W4)
                    rw [← hW9]
                    clear hW9
                    have G9b := tn G4b gw9
                    have hne94 : (W4).heap.size ≠ (w4.drew).heap.size := Nat.ne_of_gt (hv4.lt _ rfl).2
                    have hv4 := own_keep hv4 gw9
                    refine wpAnyH_ready (rs := [8]) (by kernel_rfl) (by simp) ?_
                    refine AllReadyH.cons (o := { dst := some 164, op := Op.call { callee := Callee.builtin Builtin.append, args := #[(Operand.tmp 160), (Operand.tmp 163)], argTypes := #[22, 22] }, type := _, pos := _, after := _, guard := _ }) rfl (fun K9 hK9 => ?_) AllReadyH.nil
                    refine step_append_bts (by rfl) _ _ rfl w4.heap.size (.slice (some ⟨(w4.drew).heap.size, 0, none⟩) 0 0) 0 _ rfl hv4 bo bc be (unhide HBE4 _ G9b) (sh200 q3) (unhide HBL).symm rfl (by rw [unhide HBL]; omega) (G9b).size ?_
                    intro v8 w8 hv8 g8
                    have G8 : w4.grownBy w8 none := gb_trans G9b g8 (fun y e => Or.inl (hv4.lt y e).1)
                    refine hK9.out _ _ G8 (fun _ => ?_)
                    clear hK9 K9
                    (try simp only [Act.put, List.setIfInBounds_toArray, List.set_cons_zero, List.set_cons_succ])
                    rw [Nat.zero_add, List.nil_append, unhide HBL] at hv8
                    have hb9 : BtT w8 (some ⟨(W4).heap.size, 0, none⟩) 1 [0] := ⟨hb9.bts.kept g8 (fun y e ad e2 e3 => by cases e2; exact hne94 (by have e4 : (w4.drew).heap.size = y := (by simpa [Value.ownBlock] using e); rw [e4]; exact e3)), fun ad e => (hb9.typ ad e).kept g8 (fun e2 => by cases e; exact hne94 (by simpa [Value.ownBlock] using e2))⟩
                    refine wpAnyH_ready (rs := [10]) (by kernel_rfl) (by simp) ?_
                    refine AllReadyH.cons (o := { dst := some 166, op := Op.call { callee := Callee.builtin Builtin.append, args := #[(Operand.tmp 164), (Operand.tmp 165)], argTypes := #[22, 22] }, type := _, pos := _, after := _, guard := _ }) rfl (fun K9 hK9 => ?_) AllReadyH.nil
                    refine step_append_bts (by rfl) _ _ rfl w4.heap.size v8 (sh200 q3) _ rfl hv8 (some ⟨(W4).heap.size, 0, none⟩) 1 [0] hb9.bts 1 rfl rfl (by simp; omega) (G8).size ?_
                    intro v10 w10 hv10 g10
                    have G10 : w4.grownBy w10 none := gb_trans G8 g10 (fun y e => Or.inl (hv8.lt y e).1)
                    refine hK9.out _ _ G10 (fun _ => ?_)
                    clear hK9 K9
                    (try simp only [Act.put, List.setIfInBounds_toArray, List.set_cons_zero, List.set_cons_succ])
                    rw [← List.map_append] at hv10
                    obtain ⟨eo, ec, rfl, hE⟩ := own_btT hv10
                    rw [show List.length (be ++ [(0 : UInt8)]) = sh200 q3 + 1 by rw [List.length_append, unhide HBL]; rfl]
                    have c15 := unhide HC3 w10 eo ec G10 hE
                    refine wpAnyH_ready (rs := [15]) (by kernel_rfl) (by simp) ?_
                    refine AllReadyH.cons (o := { dst := some 171, op := Op.call { callee := Callee.value (Operand.func 14), args := #[(Operand.tmp 156), (Operand.tmp 159), (Operand.tmp 166), (Operand.tmp 170)], argTypes := #[24, 37, 22, 22] }, type := _, pos := _, after := _, guard := _ }) rfl (fun K9 hK9 => ?_) AllReadyH.nil
                    go_simp
                    go_at_call 14
                    refine (c15).mono ?_
                    rintro e w15 ⟨⟨zo2, zc2, rfl⟩, gz⟩
                    go_wp2_with fail
                    refine hK9.out _ _ (tn G10 gz) (fun _ => ?_)
                    clear hK9 K9
                    (try simp only [Act.put, List.setIfInBounds_toArray, List.set_cons_zero, List.set_cons_succ])
                    have G15 := tn G10 gz
                    refine wpAnyH_take (i := 16) (oi := { dst := some 155, op := Op.move (Operand.tmp 171), type := _, pos := _, after := _, guard := _ }) (v := .tuple #[.slice zo2 0 zc2, .bool false]) rfl (by kernel_rfl) (by kernel_rfl) (by kernel_rfl) (fun _ _ _ h => h) (Or.inl ⟨by rfl, fun V (hV : w4.grownBy V none) => by go_simp⟩) G15 ?_
                    (try simp only [Act.put, List.setIfInBounds_toArray, List.set_cons_zero, List.set_cons_succ])
                    refine wpAnyH_take (i := 17) (oi := { dst := some 172, op := Op.extract (Operand.tmp 155) 0, type := _, pos := _, after := _, guard := _ }) (v := .slice zo2 0 zc2) rfl (by kernel_rfl) (by kernel_rfl) (by kernel_rfl) (fun _ _ _ h => h) (Or.inl ⟨by rfl, fun V (hV : w4.grownBy V none) => by go_simp⟩) G15 ?_
                    (try simp only [Act.put, List.setIfInBounds_toArray, List.set_cons_zero, List.set_cons_succ])
                    refine wpAnyH_take (i := 18) (oi := { dst := some 173, op := Op.extract (Operand.tmp 155) 1, type := _, pos := _, after := _, guard := _ }) (v := .bool false) rfl (by kernel_rfl) (by kernel_rfl) (by kernel_rfl) (fun _ _ _ h => h) (Or.inl ⟨by rfl, fun V (hV : w4.grownBy V none) => by go_simp⟩) G15 ?_
                    (try simp only [Act.put, List.setIfInBounds_toArray, List.set_cons_zero, List.set_cons_succ])
                    refine wpAnyH_take (i := 19) (oi := { dst := some 19, op := Op.assign (Operand.tmp 172), type := _, pos := _, after := _, guard := _ }) (v := .slice zo2 0 zc2) rfl (by kernel_rfl) (by kernel_rfl) (by kernel_rfl) (fun _ _ _ h => h) (Or.inl ⟨by rfl, fun V (hV : w4.grownBy V none) => by go_simp⟩) G15 ?_
                    (try simp only [Act.put, List.setIfInBounds_toArray, List.set_cons_zero, List.set_cons_succ])
                    refine wpAnyH_take (i := 20) (oi := { dst := some 20, op := Op.assign (Operand.tmp 173), type := _, pos := _, after := _, guard := _ }) (v := .bool false) rfl (by kernel_rfl) (by kernel_rfl) (by kernel_rfl) (fun _ _ _ h => h) (Or.inl ⟨by rfl, fun V (hV : w4.grownBy V none) => by go_simp⟩) G15 ?_
                    (try simp only [Act.put, List.setIfInBounds_toArray, List.set_cons_zero, List.set_cons_succ])
                    refine wpAnyH_done (by kernel_rfl) ?_ _
                    refine NoPanic.normal ?_
                    go_upto_region 23 with fail
                    refine region_named fun O hO => ?_
                    refine wpList_val (by rw [hO]; kernel_rfl) (.bool false) (fun K9 hK9 => by go_simp; exact hK9) ?_
                    (try simp only [Act.put, List.setIfInBounds_toArray, List.set_cons_zero, List.set_cons_succ])
                    refine wpList_val (by rw [hO]; kernel_rfl) (.bool false) (fun K9 hK9 => by go_simp; exact hK9) ?_
                    (try simp only [Act.put, List.setIfInBounds_toArray, List.set_cons_zero, List.set_cons_succ])
                    refine wpList_val (by rw [hO]; kernel_rfl) (.bool false) (fun K9 hK9 => by go_simp; exact hK9) ?_
                    (try simp only [Act.put, List.setIfInBounds_toArray, List.set_cons_zero, List.set_cons_succ])
                    refine wpList_val (by rw [hO]; kernel_rfl) (.bool false) (fun K9 hK9 => by go_simp; exact hK9) ?_
                    (try simp only [Act.put, List.setIfInBounds_toArray, List.set_cons_zero, List.set_cons_succ])
                    go_wp2
                    go_roundw
                    case rel => exact ⟨i2 + 1, by omega, by go_num, unhide HEND _ G15⟩
                    case measure => simp [intOf]; omega
                · go_simp
                  refine hK9.out _ _ (gb_alloc G4b _) (fun _ => ?_)
                  clear hK9 K9
                  (try simp only [Act.put, List.setIfInBounds_toArray, List.set_cons_zero, List.set_cons_succ])
                  obtain ⟨W9, hW9, hb9, gw9⟩ := alloc_zero (W4)
                  rw [← hW9]
                  clear hW9
                  have G9b := tn G4b gw9
                  have hne94 : (W4).heap.size ≠ (w4.drew).heap.size := Nat.ne_of_gt (hv4.lt _ rfl).2
                  have hv4 := own_keep hv4 gw9
                  refine wpAnyH_ready (rs := [7]) (by kernel_rfl) (by simp) ?_
                  refine AllReadyH.cons (o := { dst := some 163, op := Op.call { callee := Callee.value (Operand.func 11), args := #[(Operand.tmp 162)], argTypes := #[22] }, type := _, pos := _, after := _, guard := _ }) rfl (fun K9 hK9 => ?_) AllReadyH.nil
                  go_simp
                  go_at_call 11
                  refine (short8_min _ bo q3 bc hf3).mono ?_
                  rintro e wq ⟨rfl, eq9⟩
                  subst wq
                  go_wp2_with fail
                  refine hK9.out _ _ G9b (fun _ => ?_)
                  clear hK9 K9
                  (try simp only [Act.put, List.setIfInBounds_toArray, List.set_cons_zero, List.set_cons_succ])
                  refine wpAnyH_ready (rs := [8]) (by kernel_rfl) (by simp) ?_
                  refine AllReadyH.cons (o := { dst := some 164, op := Op.call { callee := Callee.builtin Builtin.append, args := #[(Operand.tmp 160), (Operand.tmp 163)], argTypes := #[22, 22] }, type := _, pos := _, after := _, guard := _ }) rfl (fun K9 hK9 => ?_) AllReadyH.nil
                  refine step_append_bts (by rfl) _ _ rfl w4.heap.size (.slice (some ⟨(w4.drew).heap.size, 0, none⟩) 0 0) 0 _ rfl hv4 bo bc be (unhide HBE4 _ G9b) (sh200 q3) (unhide HBL).symm rfl (by rw [unhide HBL]; omega) (G9b).size ?_
                  intro v8 w8 hv8 g8
                  have G8 : w4.grownBy w8 none := gb_trans G9b g8 (fun y e => Or.inl (hv4.lt y e).1)
                  refine hK9.out _ _ G8 (fun _ => ?_)
                  clear hK9 K9
                  (try simp only [Act.put, List.setIfInBounds_toArray, List.set_cons_zero, List.set_cons_succ])
                  rw [Nat.zero_add, List.nil_append, unhide HBL] at hv8
                  have hb9 : BtT w8 (some ⟨(W4).heap.size, 0, none⟩) 1 [0] := ⟨hb9.bts.kept g8 (fun y e ad e2 e3 => by cases e2; exact hne94 (by have e4 : (w4.drew).heap.size = y := (by simpa [Value.ownBlock] using e); rw [e4]; exact e3)), fun ad e => (hb9.typ ad e).kept g8 (fun e2 => by cases e; exact hne94 (by simpa [Value.ownBlock] using e2))⟩
                  refine wpAnyH_ready (rs := [10]) (by kernel_rfl) (by simp) ?_
                  refine AllReadyH.cons (o := { dst := some 166, op := Op.call { callee := Callee.builtin Builtin.append, args := #[(Operand.tmp 164), (Operand.tmp 165)], argTypes := #[22, 22] }, type := _, pos := _, after := _, guard := _ }) rfl (fun K9 hK9 => ?_) AllReadyH.nil
                  refine step_append_bts (by rfl) _ _ rfl w4.heap.size v8 (sh200 q3) _ rfl hv8 (some ⟨(W4).heap.size, 0, none⟩) 1 [0] hb9.bts 1 rfl rfl (by simp; omega) (G8).size ?_
                  intro v10 w10 hv10 g10
                  have G10 : w4.grownBy w10 none := gb_trans G8 g10 (fun y e => Or.inl (hv8.lt y e).1)
                  refine hK9.out _ _ G10 (fun _ => ?_)
                  clear hK9 K9
                  (try simp only [Act.put, List.setIfInBounds_toArray, List.set_cons_zero, List.set_cons_succ])
                  rw [← List.map_append] at hv10
                  obtain ⟨eo, ec, rfl, hE⟩ := own_btT hv10
                  rw [show List.length (be ++ [(0 : UInt8)]) = sh200 q3 + 1 by rw [List.length_append, unhide HBL]; rfl]
                  have c15 := unhide HC3 w10 eo ec G10 hE
                  refine wpAnyH_ready (rs := [15]) (by kernel_rfl) (by simp) ?_
                  refine AllReadyH.cons (o := { dst := some 171, op := Op.call { callee := Callee.value (Operand.func 14), args := #[(Operand.tmp 156), (Operand.tmp 159), (Operand.tmp 166), (Operand.tmp 170)], argTypes := #[24, 37, 22, 22] }, type := _, pos := _, after := _, guard := _ }) rfl (fun K9 hK9 => ?_) AllReadyH.nil
                  go_simp
                  go_at_call 14
                  refine (c15).mono ?_
                  rintro e w15 ⟨⟨zo2, zc2, rfl⟩, gz⟩
                  go_wp2_with fail
                  refine hK9.out _ _ (tn G10 gz) (fun _ => ?_)
                  clear hK9 K9
                  (try simp only [Act.put, List.setIfInBounds_toArray, List.set_cons_zero, List.set_cons_succ])
                  have G15 := tn G10 gz
                  refine wpAnyH_take (i := 16) (oi := { dst := some 155, op := Op.move (Operand.tmp 171), type := _, pos := _, after := _, guard := _ }) (v := .tuple #[.slice zo2 0 zc2, .bool false]) rfl (by kernel_rfl) (by kernel_rfl) (by kernel_rfl) (fun _ _ _ h => h) (Or.inl ⟨by rfl, fun V (hV : w4.grownBy V none) => by go_simp⟩) G15 ?_
                  (try simp only [Act.put, List.setIfInBounds_toArray, List.set_cons_zero, List.set_cons_succ])
                  refine wpAnyH_take (i := 17) (oi := { dst := some 172, op := Op.extract (Operand.tmp 155) 0, type := _, pos := _, after := _, guard := _ }) (v := .slice zo2 0 zc2) rfl (by kernel_rfl) (by kernel_rfl) (by kernel_rfl) (fun _ _ _ h => h) (Or.inl ⟨by rfl, fun V (hV : w4.grownBy V none) => by go_simp⟩) G15 ?_
                  (try simp only [Act.put, List.setIfInBounds_toArray, List.set_cons_zero, List.set_cons_succ])
                  refine wpAnyH_take (i := 18) (oi := { dst := some 173, op := Op.extract (Operand.tmp 155) 1, type := _, pos := _, after := _, guard := _ }) (v := .bool false) rfl (by kernel_rfl) (by kernel_rfl) (by kernel_rfl) (fun _ _ _ h => h) (Or.inl ⟨by rfl, fun V (hV : w4.grownBy V none) => by go_simp⟩) G15 ?_
                  (try simp only [Act.put, List.setIfInBounds_toArray, List.set_cons_zero, List.set_cons_succ])
                  refine wpAnyH_take (i := 19) (oi := { dst := some 19, op := Op.assign (Operand.tmp 172), type := _, pos := _, after := _, guard := _ }) (v := .slice zo2 0 zc2) rfl (by kernel_rfl) (by kernel_rfl) (by kernel_rfl) (fun _ _ _ h => h) (Or.inl ⟨by rfl, fun V (hV : w4.grownBy V none) => by go_simp⟩) G15 ?_
                  (try simp only [Act.put, List.setIfInBounds_toArray, List.set_cons_zero, List.set_cons_succ])
                  refine wpAnyH_take (i := 20) (oi := { dst := some 20, op := Op.assign (Operand.tmp 173), type := _, pos := _, after := _, guard := _ }) (v := .bool false) rfl (by kernel_rfl) (by kernel_rfl) (by kernel_rfl) (fun _ _ _ h => h) (Or.inl ⟨by rfl, fun V (hV : w4.grownBy V none) => by go_simp⟩) G15 ?_
                  (try simp only [Act.put, List.setIfInBounds_toArray, List.set_cons_zero, List.set_cons_succ])
                  refine wpAnyH_done (by kernel_rfl) ?_ _
                  refine NoPanic.normal ?_
                  go_upto_region 23 with fail
                  refine region_named fun O hO => ?_
                  refine wpList_val (by rw [hO]; kernel_rfl) (.bool false) (fun K9 hK9 => by go_simp; exact hK9) ?_
                  (try simp only [Act.put, List.setIfInBounds_toArray, List.set_cons_zero, List.set_cons_succ])
                  refine wpList_val (by rw [hO]; kernel_rfl) (.bool false) (fun K9 hK9 => by go_simp; exact hK9) ?_
                  (try simp only [Act.put, List.setIfInBounds_toArray, List.set_cons_zero, List.set_cons_succ])
                  refine wpList_val (by rw [hO]; kernel_rfl) (.bool false) (fun K9 hK9 => by go_simp; exact hK9) ?_
                  (try simp only [Act.put, List.setIfInBounds_toArray, List.set_cons_zero, List.set_cons_succ])
                  refine wpList_val (by rw [hO]; kernel_rfl) (.bool false) (fun K9 hK9 => by go_simp; exact hK9) ?_
                  (try simp only [Act.put, List.setIfInBounds_toArray, List.set_cons_zero, List.set_cons_succ])
                  go_wp2
                  go_roundw
                  case rel => exact ⟨i2 + 1, by omega, by go_num, unhide HEND _ G15⟩
                  case measure => simp [intOf]; omega
              · go_simp
                go_at_call 11
                refine (short8_min _ bo q3 bc hf3).mono ?_
                rintro e wq ⟨rfl, eq9⟩
                subst wq
                go_wp2_with fail
                refine hK9.out _ _ h0c (fun _ => ?_)
                clear hK9 K9
                (try simp only [Act.put, List.setIfInBounds_toArray, List.set_cons_zero, List.set_cons_succ])
                refine wpAnyH_ready (rs := [4, 9]) (by kernel_rfl) (by simp) ?_
                refine AllReadyH.cons (o := { dst := some 160, op := Op.buildSlice 22 0 #[], type := _, pos := _, after := _, guard := _ }) rfl (fun K9 hK9 => ?_) (AllReadyH.cons (o := { dst := some 165, op := Op.buildSlice 22 1 #[(0, Operand.const (Value.int IntKind.u8 0))], type := _, pos := _, after := _, guard := _ }) rfl (fun K9 hK9 => ?_) AllReadyH.nil)
                · go_simp
                  refine hK9.out _ _ (gb_alloc h0c _) (fun _ => ?_)
                  clear hK9 K9
                  (try simp only [Act.put, List.setIfInBounds_toArray, List.set_cons_zero, List.set_cons_succ])
                  obtain ⟨W4, hW4, hv4, gw4⟩ := own_new (w4.drew) w4.heap.size (h0c).size
                  rw [show (w4.alloc (.cells #[] 5)).drew = W4 by rw [hW4]; rfl]
                  clear hW4
                  have G4b := tn h0c gw4
                  refine wpAnyH_ready (rs := [8, 9]) (by kernel_rfl) (by simp) ?_
                  refine AllReadyH.cons (o := { dst := some 164, op := Op.call { callee := Callee.builtin Builtin.append, args := #[(Operand.tmp 160), (Operand.tmp 163)], argTypes := #[22, 22] }, type := _, pos := _, after := _, guard := _ }) rfl (fun K9 hK9 => ?_) (AllReadyH.cons (o := { dst := some 165, op := Op.buildSlice 22 1 #[(0, Operand.const (Value.int IntKind.u8 0))], type := _, pos := _, after := _, guard := _ }) rfl (fun K9 hK9 => ?_) AllReadyH.nil)
                  · refine step_append_bts (by rfl) _ _ rfl w4.heap.size (.slice (some ⟨(w4.drew).heap.size, 0, none⟩) 0 0) 0 _ rfl hv4 bo bc be (unhide HBE4 _ G4b) (sh200 q3) (unhide HBL).symm rfl (by rw [unhide HBL]; omega) (G4b).size ?_
                    intro v8 w8 hv8 g8
                    have G8 : w4.grownBy w8 none := gb_trans G4b g8 (fun y e => Or.inl (hv4.lt y e).1)
                    refine hK9.out _ _ G8 (fun _ => ?_)
                    clear hK9 K9
                    (try simp only [Act.put, List.setIfInBounds_toArray, List.set_cons_zero, List.set_cons_succ])
                    rw [Nat.zero_add, List.nil_append, unhide HBL] at hv8
                    refine wpAnyH_ready (rs := [9]) (by kernel_rfl) (by simp) ?_
                    refine AllReadyH.cons (o := { dst := some 165, op := Op.buildSlice 22 1 #[(0, Operand.const (Value.int IntKind.u8 0))], type := _, pos := _, after := _, guard := _ }) rfl (fun K9 hK9 => ?_) AllReadyH.nil
                    go_simp
                    refine hK9.out _ _ (gb_alloc G8 _) (fun _ => ?_)
                    clear hK9 K9
                    (try simp only [Act.put, List.setIfInBounds_toArray, List.set_cons_zero, List.set_cons_succ])
                    obtain ⟨W9, hW9, hb9, gw9⟩ := alloc_zero (w8)
                    rw [← hW9]
                    clear hW9
                    have G9b := tn G8 gw9
                    have hv8 := own_keep hv8 gw9
                    refine wpAnyH_ready (rs := [10]) (by kernel_rfl) (by simp) ?_
                    refine AllReadyH.cons (o := { dst := some 166, op := Op.call { callee := Callee.builtin Builtin.append, args := #[(Operand.tmp 164), (Operand.tmp 165)], argTypes := #[22, 22] }, type := _, pos := _, after := _, guard := _ }) rfl (fun K9 hK9 => ?_) AllReadyH.nil
                    refine step_append_bts (by rfl) _ _ rfl w4.heap.size v8 (sh200 q3) _ rfl hv8 (some ⟨(w8).heap.size, 0, none⟩) 1 [0] hb9.bts 1 rfl rfl (by simp; omega) (G9b).size ?_
                    intro v10 w10 hv10 g10
                    have G10 : w4.grownBy w10 none := gb_trans G9b g10 (fun y e => Or.inl (hv8.lt y e).1)
                    refine hK9.out _ _ G10 (fun _ => ?_)
                    clear hK9 K9
                    (try simp only [Act.put, List.setIfInBounds_toArray, List.set_cons_zero, List.set_cons_succ])
                    rw [← List.map_append] at hv10
                    obtain ⟨eo, ec, rfl, hE⟩ := own_btT hv10
                    rw [show List.length (be ++ [(0 : UInt8)]) = sh200 q3 + 1 by rw [List.length_append, unhide HBL]; rfl]
                    have c15 := unhide HC3 w10 eo ec G10 hE
                    refine wpAnyH_ready (rs := [15]) (by kernel_rfl) (by simp) ?_
                    refine AllReadyH.cons (o := { dst := some 171, op := Op.call { callee := Callee.value (Operand.func 14), args := #[(Operand.tmp 156), (Operand.tmp 159), (Operand.tmp 166), (Operand.tmp 170)], argTypes := #[24, 37, 22, 22] }, type := _, pos := _, after := _, guard := _ }) rfl (fun K9 hK9 => ?_) AllReadyH.nil
                    go_simp
                    go_at_call 14
                    refine (c15).mono ?_
                    rintro e w15 ⟨⟨zo2, zc2, rfl⟩, gz⟩
                    go_wp2_with fail
                    refine hK9.out _ _ (tn G10 gz) (fun _ => ?_)
                    clear hK9 K9
                    (try simp only [Act.put, List.setIfInBounds_toArray, List.set_cons_zero, List.set_cons_succ])
                    have G15 := tn G10 gz
                    refine wpAnyH_take (i := 16) (oi := { dst := some 155, op := Op.move (Operand.tmp 171), type := _, pos := _, after := _, guard := _ }) (v := .tuple #[.slice zo2 0 zc2, .bool false]) rfl (by kernel_rfl) (by kernel_rfl) (by kernel_rfl) (fun _ _ _ h => h) (Or.inl ⟨by rfl, fun V (hV : w4.grownBy V none) => by go_simp⟩) G15 ?_
                    (try simp only [Act.put, List.setIfInBounds_toArray, List.set_cons_zero, List.set_cons_succ])
                    refine wpAnyH_take (i := 17) (oi := { dst := some 172, op := Op.extract (Operand.tmp 155) 0, type := _, pos := _, after := _, guard := _ }) (v := .slice zo2 0 zc2) rfl (by kernel_rfl) (by kernel_rfl) (by kernel_rfl) (fun _ _ _ h => h) (Or.inl ⟨by rfl, fun V (hV : w4.grownBy V none) => by go_simp⟩) G15 ?_
                    (try simp only [Act.put, List.setIfInBounds_toArray, List.set_cons_zero, List.set_cons_succ])
                    refine wpAnyH_take (i := 18) (oi := { dst := some 173, op := Op.extract (Operand.tmp 155) 1, type := _, pos := _, after := _, guard := _ }) (v := .bool false) rfl (by kernel_rfl) (by kernel_rfl) (by kernel_rfl) (fun _ _ _ h => h) (Or.inl ⟨by rfl, fun V (hV : w4.grownBy V none) => by go_simp⟩) G15 ?_
                    (try simp only [Act.put, List.setIfInBounds_toArray, List.set_cons_zero, List.set_cons_succ])
                    refine wpAnyH_take (i := 19) (oi := { dst := some 19, op := Op.assign (Operand.tmp 172), type := _, pos := _, after := _, guard := _ }) (v := .slice zo2 0 zc2) rfl (by kernel_rfl) (by kernel_rfl) (by kernel_rfl) (fun _ _ _ h => h) (Or.inl ⟨by rfl, fun V (hV : w4.grownBy V none) => by go_simp⟩) G15 ?_
                    (try simp only [Act.put, List.setIfInBounds_toArray, List.set_cons_zero, List.set_cons_succ])
                    refine wpAnyH_take (i := 20) (oi := { dst := some 20, op := Op.assign (Operand.tmp 173), type := _, pos := _, after := _, guard := _ }) (v := .bool false) rfl (by kernel_rfl) (by kernel_rfl) (by kernel_rfl) (fun _ _ _ h => h) (Or.inl ⟨by rfl, fun V (hV : w4.grownBy V none) => by go_simp⟩) G15 ?_
                    (try simp only [Act.put, List.setIfInBounds_toArray, List.set_cons_zero, List.set_cons_succ])
                    refine wpAnyH_done (by kernel_rfl) ?_ _
                    refine NoPanic.normal ?_
                    go_upto_region 23 with fail
                    refine region_named fun O hO => ?_
                    refine wpList_val (by rw [hO]; kernel_rfl) (.bool false) (fun K9 hK9 => by go_simp; exact hK9) ?_
                    (try simp only [Act.put, List.setIfInBounds_toArray, List.set_cons_zero, List.set_cons_succ])
                    refine wpList_val (by rw [hO]; kernel_rfl) (.bool false) (fun K9 hK9 => by go_simp; exact hK9) ?_
                    (try simp only [Act.put, List.setIfInBounds_toArray, List.set_cons_zero, List.set_cons_succ])
                    refine wpList_val (by rw [hO]; kernel_rfl) (.bool false) (fun K9 hK9 => by go_simp; exact hK9) ?_
                    (try simp only [Act.put, List.setIfInBounds_toArray, List.set_cons_zero, List.set_cons_succ])
                    refine wpList_val (by rw [hO]; kernel_rfl) (.bool false) (fun K9 hK9 => by go_simp; exact hK9) ?_
                    (try simp only [Act.put, List.setIfInBounds_toArray, List.set_cons_zero, List.set_cons_succ])
                    go_wp2
                    go_roundw
                    case rel => exact ⟨i2 + 1, by omega, by go_num, unhide HEND _ G15⟩
                    case measure => simp [intOf]; omega
                  · go_simp
                    refine hK9.out _ _ (gb_alloc G4b _) (fun _ => ?_)
                    clear hK9 K9
                    (try simp only [Act.put, List.setIfInBounds_toArray, List.set_cons_zero, List.set_cons_succ])
                    obtain ⟨W9, hW9, hb9, gw9⟩ := alloc_zero (W4)
                    rw [← hW9]
                    clear hW9
                    have G9b := tn G4b gw9
                    have hne94 : (W4).heap.size ≠ (w4.drew).heap.size := Nat.ne_of_gt (hv4.lt _ rfl).2
                    have hv4 := own_keep hv4 gw9
                    refine wpAnyH_ready (rs := [8]) (by kernel_rfl) (by simp) ?_
                    refine AllReadyH.cons (o := { dst := some 164, op := Op.call { callee := Callee.builtin Builtin.append, args := #[(Operand.tmp 160), (Operand.tmp 163)], argTypes := #[22, 22] }, type := _, pos := _, after := _, guard := _ }) rfl (fun K9 hK9 => ?_) AllReadyH.nil
                    refine step_append_bts (by rfl) _ _ rfl w4.heap.size (.slice (some ⟨(w4.drew).heap.size, 0, none⟩) 0 0) 0 _ rfl hv4 bo bc be (unhide HBE4 _ G9b) (sh200 q3) (unhide HBL).symm rfl (by rw [unhide HBL]; omega) (G9b).size ?_
                    intro v8 w8 hv8 g8
                    have G8 : w4.grownBy w8 none := gb_trans G9b g8 (fun y e => Or.inl (hv4.lt y e).1)
                    refine hK9.out _ _ G8 (fun _ => ?_)
                    clear hK9 K9
                    (try simp only [Act.put, List.setIfInBounds_toArray, List.set_cons_zero, List.set_cons_succ])
                    rw [Nat.zero_add, List.nil_append, unhide HBL] at hv8
                    have hb9 : BtT w8 (some ⟨(W4).heap.size, 0, none⟩) 1 [0] := ⟨hb9.bts.kept g8 (fun y e ad e2 e3 => by cases e2; exact hne94 (by have e4 : (w4.drew).heap.size = y := (by simpa [Value.ownBlock] using e); rw [e4]; exact e3)), fun ad e => (hb9.typ ad e).kept g8 (fun e2 => by cases e; exact hne94 (by simpa [Value.ownBlock] using e2))⟩
                    refine wpAnyH_ready (rs := [10]) (by kernel_rfl) (by simp) ?_
                    refine AllReadyH.cons (o := { dst := some 166, op := Op.call { callee := Callee.builtin Builtin.append, args := #[(Operand.tmp 164), (Operand.tmp 165)], argTypes := #[22, 22] }, type := _, pos := _, after := _, guard := _ }) rfl (fun K9 hK9 => ?_) AllReadyH.nil
                    refine step_append_bts (by rfl) _ _ rfl w4.heap.size v8 (sh200 q3) _ rfl hv8 (some ⟨(W4).heap.size, 0, none⟩) 1 [0] hb9.bts 1 rfl rfl (by simp; omega) (G8).size ?_
                    intro v10 w10 hv10 g10
                    have G10 : w4.grownBy w10 none := gb_trans G8 g10 (fun y e => Or.inl (hv8.lt y e).1)
                    refine hK9.out _ _ G10 (fun _ => ?_)
                    clear hK9 K9
                    (try simp only [Act.put, List.setIfInBounds_toArray, List.set_cons_zero, List.set_cons_succ])
                    rw [← List.map_append] at hv10
                    obtain ⟨eo, ec, rfl, hE⟩ := own_btT hv10
                    rw [show List.length (be ++ [(0 : UInt8)]) = sh200 q3 + 1 by rw [List.length_append, unhide HBL]; rfl]
                    have c15 := unhide HC3 w10 eo ec G10 hE
                    refine wpAnyH_ready (rs := [15]) (by kernel_rfl) (by simp) ?_
                    refine AllReadyH.cons (o := { dst := some 171, op := Op.call { callee := Callee.value (Operand.func 14), args := #[(Operand.tmp 156), (Operand.tmp 159), (Operand.tmp 166), (Operand.tmp 170)], argTypes := #[24, 37, 22, 22] }, type := _, pos := _, after := _, guard := _ }) rfl (fun K9 hK9 => ?_) AllReadyH.nil
                    go_simp
                    go_at_call 14
                    refine (c15).mono ?_
                    rintro e w15 ⟨⟨zo2, zc2, rfl⟩, gz⟩
                    go_wp2_with fail
                    refine hK9.out _ _ (tn G10 gz) (fun _ => ?_)
                    clear hK9 K9
                    (try simp only [Act.put, List.setIfInBounds_toArray, List.set_cons_zero, List.set_cons_succ])
                    have G15 := tn G10 gz
                    refine wpAnyH_take (i := 16) (oi := { dst := some 155, op := Op.move (Operand.tmp 171), type := _, pos := _, after := _, guard := _ }) (v := .tuple #[.slice zo2 0 zc2, .bool false]) rfl (by kernel_rfl) (by kernel_rfl) (by kernel_rfl) (fun _ _ _ h => h) (Or.inl ⟨by rfl, fun V (hV : w4.grownBy V none) => by go_simp⟩) G15 ?_
                    (try simp only [Act.put, List.setIfInBounds_toArray, List.set_cons_zero, List.set_cons_succ])
                    refine wpAnyH_take (i := 17) (oi := { dst := some 172, op := Op.extract (Operand.tmp 155) 0, type := _, pos := _, after := _, guard := _ }) (v := .slice zo2 0 zc2) rfl (by kernel_rfl) (by kernel_rfl) (by kernel_rfl) (fun _ _ _ h => h) (Or.inl ⟨by rfl, fun V (hV : w4.grownBy V none) => by go_simp⟩) G15 ?_
                    (try simp only [Act.put, List.setIfInBounds_toArray, List.set_cons_zero, List.set_cons_succ])
                    refine wpAnyH_take (i := 18) (oi := { dst := some 173, op := Op.extract (Operand.tmp 155) 1, type := _, pos := _, after := _, guard := _ }) (v := .bool false) rfl (by kernel_rfl) (by kernel_rfl) (by kernel_rfl) (fun _ _ _ h => h) (Or.inl ⟨by rfl, fun V (hV : w4.grownBy V none) => by go_simp⟩) G15 ?_
                    (try simp only [Act.put, List.setIfInBounds_toArray, List.set_cons_zero, List.set_cons_succ])
                    refine wpAnyH_take (i := 19) (oi := { dst := some 19, op := Op.assign (Operand.tmp 172), type := _, pos := _, after := _, guard := _ }) (v := .slice zo2 0 zc2) rfl (by kernel_rfl) (by kernel_rfl) (by kernel_rfl) (fun _ _ _ h => h) (Or.inl ⟨by rfl, fun V (hV : w4.grownBy V none) => by go_simp⟩) G15 ?_
                    (try simp only [Act.put, List.setIfInBounds_toArray, List.set_cons_zero, List.set_cons_succ])
                    refine wpAnyH_take (i := 20) (oi := { dst := some 20, op := Op.assign (Operand.tmp 173), type := _, pos := _, after := _, guard := _ }) (v := .bool false) rfl (by kernel_rfl) (by kernel_rfl) (by kernel_rfl) (fun _ _ _ h => h) (Or.inl ⟨by rfl, fun V (hV : w4.grownBy V none) => by go_simp⟩) G15 ?_
                    (try simp only [Act.put, List.setIfInBounds_toArray, List.set_cons_zero, List.set_cons_succ])
                    refine wpAnyH_done (by kernel_rfl) ?_ _
                    refine NoPanic.normal ?_
                    go_upto_region 23 with fail
                    refine region_named fun O hO => ?_
                    refine wpList_val (by rw [hO]; kernel_rfl) (.bool false) (fun K9 hK9 => by go_simp; exact hK9) ?_
                    (try simp only [Act.put, List.setIfInBounds_toArray, List.set_cons_zero, List.set_cons_succ])
                    refine wpList_val (by rw [hO]; kernel_rfl) (.bool false) (fun K9 hK9 => by go_simp; exact hK9) ?_
                    (try simp only [Act.put, List.setIfInBounds_toArray, List.set_cons_zero, List.set_cons_succ])
                    refine wpList_val (by rw [hO]; kernel_rfl) (.bool false) (fun K9 hK9 => by go_simp; exact hK9) ?_
                    (try simp only [Act.put, List.setIfInBounds_toArray, List.set_cons_zero, List.set_cons_succ])
                    refine wpList_val (by rw [hO]; kernel_rfl) (.bool false) (fun K9 hK9 => by go_simp; exact hK9) ?_
                    (try simp only [Act.put, List.setIfInBounds_toArray, List.set_cons_zero, List.set_cons_succ])
                    go_wp2
                    go_roundw
                    case rel => exact ⟨i2 + 1, by omega, by go_num, unhide HEND _ G15⟩
                    case measure => simp [intOf]; omega
                · go_simp
                  refine hK9.out _ _ (gb_alloc h0c _) (fun _ => ?_)
                  clear hK9 K9
                  (try simp only [Act.put, List.setIfInBounds_toArray, List.set_cons_zero, List.set_cons_succ])
                  obtain ⟨W9, hW9, hb9, gw9⟩ := alloc_zero (w4.drew)
                  rw [show (w4.alloc (.cells #[.int .u8 0] 5)).drew = W9 by rw [hW9]; rfl]
                  clear hW9
                  have G9b := tn h0c gw9
                  refine wpAnyH_ready (rs := [4]) (by kernel_rfl) (by simp) ?_
                  refine AllReadyH.cons (o := { dst := some 160, op := Op.buildSlice 22 0 #[], type := _, pos := _, after := _, guard := _ }) rfl (fun K9 hK9 => ?_) AllReadyH.nil
                  go_simp
                  refine hK9.out _ _ (gb_alloc G9b _) (fun _ => ?_)
                  clear hK9 K9
                  (try simp only [Act.put, List.setIfInBounds_toArray, List.set_cons_zero, List.set_cons_succ])
                  obtain ⟨W4, hW4, hv4, gw4⟩ := own_new (W9) w4.heap.size (G9b).size
                  rw [← hW4]
                  clear hW4
                  have G4b := tn G9b gw4
                  have hne94 : (w4.drew).heap.size ≠ (W9).heap.size := Nat.ne_of_lt (hb9.typ _ rfl).lt
                  have hb9 := hb9.none gw4
                  refine wpAnyH_ready (rs := [8]) (by kernel_rfl) (by simp) ?_
                  refine AllReadyH.cons (o := { dst := some 164, op := Op.call { callee := Callee.builtin Builtin.append, args := #[(Operand.tmp 160), (Operand.tmp 163)], argTypes := #[22, 22] }, type := _, pos := _, after := _, guard := _ }) rfl (fun K9 hK9 => ?_) AllReadyH.nil
                  refine step_append_bts (by rfl) _ _ rfl w4.heap.size (.slice (some ⟨(W9).heap.size, 0, none⟩) 0 0) 0 _ rfl hv4 bo bc be (unhide HBE4 _ G4b) (sh200 q3) (unhide HBL).symm rfl (by rw [unhide HBL]; omega) (G4b).size ?_
                  intro v8 w8 hv8 g8
                  have G8 : w4.grownBy w8 none := gb_trans G4b g8 (fun y e => Or.inl (hv4.lt y e).1)
                  refine hK9.out _ _ G8 (fun _ => ?_)
                  clear hK9 K9
                  (try simp only [Act.put, List.setIfInBounds_toArray, List.set_cons_zero, List.set_cons_succ])
                  rw [Nat.zero_add, List.nil_append, unhide HBL] at hv8
                  have hb9 : BtT w8 (some ⟨(w4.drew).heap.size, 0, none⟩) 1 [0] := ⟨hb9.bts.kept g8 (fun y e ad e2 e3 => by cases e2; exact hne94 (by have e4 : (W9).heap.size = y := (by simpa [Value.ownBlock] using e); rw [e4]; exact e3)), fun ad e => (hb9.typ ad e).kept g8 (fun e2 => by cases e; exact hne94 (by simpa [Value.ownBlock] using e2))⟩
                  refine wpAnyH_ready (rs := [10]) (by kernel_rfl) (by simp) ?_
                  refine AllReadyH.cons (o := { dst := some 166, op := Op.call { callee := Callee.builtin Builtin.append, args := #[(Operand.tmp 164), (Operand.tmp 165)], argTypes := #[22, 22] }, type := _, pos := _, after := _, guard := _ }) rfl (fun K9 hK9 => ?_) AllReadyH.nil
                  refine step_append_bts (by rfl) _ _ rfl w4.heap.size v8 (sh200 q3) _ rfl hv8 (some ⟨(w4.drew).heap.size, 0, none⟩) 1 [0] hb9.bts 1 rfl rfl (by simp; omega) (G8).size ?_
                  intro v10 w10 hv10 g10
                  have G10 : w4.grownBy w10 none := gb_trans G8 g10 (fun y e => Or.inl (hv8.lt y e).1)
                  refine hK9.out _ _ G10 (fun _ => ?_)
                  clear hK9 K9
                  (try simp only [Act.put, List.setIfInBounds_toArray, List.set_cons_zero, List.set_cons_succ])
                  rw [← List.map_append] at hv10
                  obtain ⟨eo, ec, rfl, hE⟩ := own_btT hv10
                  rw [show List.length (be ++ [(0 : UInt8)]) = sh200 q3 + 1 by rw [List.length_append, unhide HBL]; rfl]
                  have c15 := unhide HC3 w10 eo ec G10 hE
                  refine wpAnyH_ready (rs := [15]) (by kernel_rfl) (by simp) ?_
                  refine AllReadyH.cons (o := { dst := some 171, op := Op.call { callee := Callee.value (Operand.func 14), args := #[(Operand.tmp 156), (Operand.tmp 159), (Operand.tmp 166), (Operand.tmp 170)], argTypes := #[24, 37, 22, 22] }, type := _, pos := _, after := _, guard := _ }) rfl (fun K9 hK9 => ?_) AllReadyH.nil
                  go_simp
                  go_at_call 14
                  refine (c15).mono ?_
                  rintro e w15 ⟨⟨zo2, zc2, rfl⟩, gz⟩
                  go_wp2_with fail
                  refine hK9.out _ _ (tn G10 gz) (fun _ => ?_)
                  clear hK9 K9
                  (try simp only [Act.put, List.setIfInBounds_toArray, List.set_cons_zero, List.set_cons_succ])
                  have G15 := tn G10 gz
                  refine wpAnyH_take (i := 16) (oi := { dst := some 155, op := Op.move (Operand.tmp 171), type := _, pos := _, after := _, guard := _ }) (v := .tuple #[.slice zo2 0 zc2, .bool false]) rfl (by kernel_rfl) (by kernel_rfl) (by kernel_rfl) (fun _ _ _ h => h) (Or.inl ⟨by rfl, fun V (hV : w4.grownBy V none) => by go_simp⟩) G15 ?_
                  (try simp only [Act.put, List.setIfInBounds_toArray, List.set_cons_zero, List.set_cons_succ])
                  refine wpAnyH_take (i := 17) (oi := { dst := some 172, op := Op.extract (Operand.tmp 155) 0, type := _, pos := _, after := _, guard := _ }) (v := .slice zo2 0 zc2) rfl (by kernel_rfl) (by kernel_rfl) (by kernel_rfl) (fun _ _ _ h => h) (Or.inl ⟨by rfl, fun V (hV : w4.grownBy V none) => by go_simp⟩) G15 ?_
                  (try simp only [Act.put, List.setIfInBounds_toArray, List.set_cons_zero, List.set_cons_succ])
                  refine wpAnyH_take (i := 18) (oi := { dst := some 173, op := Op.extract (Operand.tmp 155) 1, type := _, pos := _, after := _, guard := _ }) (v := .bool false) rfl (by kernel_rfl) (by kernel_rfl) (by kernel_rfl) (fun _ _ _ h => h) (Or.inl ⟨by rfl, fun V (hV : w4.grownBy V none) => by go_simp⟩) G15 ?_
                  (try simp only [Act.put, List.setIfInBounds_toArray, List.set_cons_zero, List.set_cons_succ])
                  refine wpAnyH_take (i := 19) (oi := { dst := some 19, op := Op.assign (Operand.tmp 172), type := _, pos := _, after := _, guard := _ }) (v := .slice zo2 0 zc2) rfl (by kernel_rfl) (by kernel_rfl) (by kernel_rfl) (fun _ _ _ h => h) (Or.inl ⟨by rfl, fun V (hV : w4.grownBy V none) => by go_simp⟩) G15 ?_
                  (try simp only [Act.put, List.setIfInBounds_toArray, List.set_cons_zero, List.set_cons_succ])
                  refine wpAnyH_take (i := 20) (oi := { dst := some 20, op := Op.assign (Operand.tmp 173), type := _, pos := _, after := _, guard := _ }) (v := .bool false) rfl (by kernel_rfl) (by kernel_rfl) (by kernel_rfl) (fun _ _ _ h => h) (Or.inl ⟨by rfl, fun V (hV : w4.grownBy V none) => by go_simp⟩) G15 ?_
                  (try simp only [Act.put, List.setIfInBounds_toArray, List.set_cons_zero, List.set_cons_succ])
                  refine wpAnyH_done (by kernel_rfl) ?_ _
                  refine NoPanic.normal ?_
                  go_upto_region 23 with fail
                  refine region_named fun O hO => ?_
                  refine wpList_val (by rw [hO]; kernel_rfl) (.bool false) (fun K9 hK9 => by go_simp; exact hK9) ?_
                  (try simp only [Act.put, List.setIfInBounds_toArray, List.set_cons_zero, List.set_cons_succ])
                  refine wpList_val (by rw [hO]; kernel_rfl) (.bool false) (fun K9 hK9 => by go_simp; exact hK9) ?_
                  (try simp only [Act.put, List.setIfInBounds_toArray, List.set_cons_zero, List.set_cons_succ])
                  refine wpList_val (by rw [hO]; kernel_rfl) (.bool false) (fun K9 hK9 => by go_simp; exact hK9) ?_
                  (try simp only [Act.put, List.setIfInBounds_toArray, List.set_cons_zero, List.set_cons_succ])
                  refine wpList_val (by rw [hO]; kernel_rfl) (.bool false) (fun K9 hK9 => by go_simp; exact hK9) ?_
                  (try simp only [Act.put, List.setIfInBounds_toArray, List.set_cons_zero, List.set_cons_succ])
                  go_wp2
                  go_roundw
                  case rel => exact ⟨i2 + 1, by omega, by go_num, unhide HEND _ G15⟩
                  case measure => simp [intOf]; omega
              · go_simp
                refine hK9.out _ _ (gb_alloc h0c _) (fun _ => ?_)
                clear hK9 K9
                (try simp only [Act.put, List.setIfInBounds_toArray, List.set_cons_zero, List.set_cons_succ])
                obtain ⟨W9, hW9, hb9, gw9⟩ := alloc_zero (w4.drew)
                rw [show (w4.alloc (.cells #[.int .u8 0] 5)).drew = W9 by rw [hW9]; rfl]
                clear hW9
                have G9b := tn h0c gw9
                refine wpAnyH_ready (rs := [4, 7]) (by kernel_rfl) (by simp) ?_
                refine AllReadyH.cons (o := { dst := some 160, op := Op.buildSlice 22 0 #[], type := _, pos := _, after := _, guard := _ }) rfl (fun K9 hK9 => ?_) (AllReadyH.cons (o := { dst := some 163, op := Op.call { callee := Callee.value (Operand.func 11), args := #[(Operand.tmp 162)], argTypes := #[22] }, type := _, pos := _, after := _, guard := _ }) rfl (fun K9 hK9 => ?_) AllReadyH.nil)
                · go_simp
                  refine hK9.out _ _ (gb_alloc G9b _) (fun _ => ?_)
                  clear hK9 K9
                  (try simp only [Act.put, List.setIfInBounds_toArray, List.set_cons_zero, List.set_cons_succ])
                  obtain ⟨W4, hW4, hv4, gw4⟩ := own_new (W9) w4.heap.size (G9b).size
                  rw [← hW4]
                  clear hW4
                  have G4b := tn G9b gw4
                  have hne94 : (w4.drew).heap.size ≠ (W9).heap.size := Nat.ne_of_lt (hb9.typ _ rfl).lt
                  have hb9 := hb9.none gw4
                  refine wpAnyH_ready (rs := [7]) (by kernel_rfl) (by simp) ?_
                  refine AllReadyH.cons (o := { dst := some 163, op := Op.call { callee := Callee.value (Operand.func 11), args := #[(Operand.tmp 162)], argTypes := #[22] }, type := _, pos := _, after := _, guard := _ }) rfl (fun K9 hK9 => ?_) AllReadyH.nil
                  go_simp
                  go_at_call 11
                  refine (short8_min _ bo q3 bc hf3).mono ?_
                  rintro e wq ⟨rfl, eq9⟩
                  subst wq
                  go_wp2_with fail
                  refine hK9.out _ _ G4b (fun _ => ?_)
                  clear hK9 K9
                  (try simp only [Act.put, List.setIfInBounds_toArray, List.set_cons_zero, List.set_cons_succ])
                  refine wpAnyH_ready (rs := [8]) (by kernel_rfl) (by simp) ?_
                  refine AllReadyH.cons (o := { dst := some 164, op := Op.call { callee := Callee.builtin Builtin.append, args := #[(Operand.tmp 160), (Operand.tmp 163)], argTypes := #[22, 22] }, type := _, pos := _, after := _, guard := _ }) rfl (fun K9 hK9 => ?_) AllReadyH.nil
                  refine step_append_bts (by rfl) _ _ rfl w4.heap.size (.slice (some ⟨(W9).heap.size, 0, none⟩) 0 0) 0 _ rfl hv4 bo bc be (unhide HBE4 _ G4b) (sh200 q3) (unhide HBL).symm rfl (by rw [unhide HBL]; omega) (G4b).size ?_
                  intro v8 w8 hv8 g8
                  have G8 : w4.grownBy w8 none := gb_trans G4b g8 (fun y e => Or.inl (hv4.lt y e).1)
                  refine hK9.out _ _ G8 (fun _ => ?_)
                  clear hK9 K9
                  (try simp only [Act.put, List.setIfInBounds_toArray, List.set_cons_zero, List.set_cons_succ])
                  rw [Nat.zero_add, List.nil_append, unhide HBL] at hv8
                  have hb9 : BtT w8 (some ⟨(w4.drew).heap.size, 0, none⟩) 1 [0] := ⟨hb9.bts.kept g8 (fun y e ad e2 e3 => by cases e2; exact hne94 (by have e4 : (W9).heap.size = y := (by simpa [Value.ownBlock] using e); rw [e4]; exact e3)), fun ad e => (hb9.typ ad e).kept g8 (fun e2 => by cases e; exact hne94 (by simpa [Value.ownBlock] using e2))⟩
                  refine wpAnyH_ready (rs := [10]) (by kernel_rfl) (by simp) ?_
                  refine AllReadyH.cons (o := { dst := some 166, op := Op.call { callee := Callee.builtin Builtin.append, args := #[(Operand.tmp 164), (Operand.tmp 165)], argTypes := #[22, 22] }, type := _, pos := _, after := _, guard := _ }) rfl (fun K9 hK9 => ?_) AllReadyH.nil
                  refine step_append_bts (by rfl) _ _ rfl w4.heap.size v8 (sh200 q3) _ rfl hv8 (some ⟨(w4.drew).heap.size, 0, none⟩) 1 [0] hb9.bts 1 rfl rfl (by simp; omega) (G8).size ?_
                  intro v10 w10 hv10 g10
                  have G10 : w4.grownBy w10 none := gb_trans G8 g10 (fun y e => Or.inl (hv8.lt y e).1)
                  refine hK9.out _ _ G10 (fun _ => ?_)
                  clear hK9 K9
                  (try simp only [Act.put, List.setIfInBounds_toArray, List.set_cons_zero, List.set_cons_succ])
                  rw [← List.map_append] at hv10
                  obtain ⟨eo, ec, rfl, hE⟩ := own_btT hv10
                  rw [show List.length (be ++ [(0 : UInt8)]) = sh200 q3 + 1 by rw [List.length_append, unhide HBL]; rfl]
                  have c15 := unhide HC3 w10 eo ec G10 hE
                  refine wpAnyH_ready (rs := [15]) (by kernel_rfl) (by simp) ?_
                  refine AllReadyH.cons (o := { dst := some 171, op := Op.call { callee := Callee.value (Operand.func 14), args := #[(Operand.tmp 156), (Operand.tmp 159), (Operand.tmp 166), (Operand.tmp 170)], argTypes := #[24, 37, 22, 22] }, type := _, pos := _, after := _, guard := _ }) rfl (fun K9 hK9 => ?_) AllReadyH.nil
                  go_simp
                  go_at_call 14
                  refine (c15).mono ?_
                  rintro e w15 ⟨⟨zo2, zc2, rfl⟩, gz⟩
                  go_wp2_with fail
                  refine hK9.out _ _ (tn G10 gz) (fun _ => ?_)
                  clear hK9 K9
                  (try simp only [Act.put, List.setIfInBounds_toArray, List.set_cons_zero, List.set_cons_succ])
                  have G15 := tn G10 gz
                  refine wpAnyH_take (i := 16) (oi := { dst := some 155, op := Op.move (Operand.tmp 171), type := _, pos := _, after := _, guard := _ }) (v := .tuple #[.slice zo2 0 zc2, .bool false]) rfl (by kernel_rfl) (by kernel_rfl) (by kernel_rfl) (fun _ _ _ h => h) (Or.inl ⟨by rfl, fun V (hV : w4.grownBy V none) => by go_simp⟩) G15 ?_
                  (try simp only [Act.put, List.setIfInBounds_toArray, List.set_cons_zero, List.set_cons_succ])
                  refine wpAnyH_take (i := 17) (oi := { dst := some 172, op := Op.extract (Operand.tmp 155) 0, type := _, pos := _, after := _, guard := _ }) (v := .slice zo2 0 zc2) rfl (by kernel_rfl) (by kernel_rfl) (by kernel_rfl) (fun _ _ _ h => h) (Or.inl ⟨by rfl, fun V (hV : w4.grownBy V none) => by go_simp⟩) G15 ?_
                  (try simp only [Act.put, List.setIfInBounds_toArray, List.set_cons_zero, List.set_cons_succ])
                  refine wpAnyH_take (i := 18) (oi := { dst := some 173, op := Op.extract (Operand.tmp 155) 1, type := _, pos := _, after := _, guard := _ }) (v := .bool false) rfl (by kernel_rfl) (by kernel_rfl) (by kernel_rfl) (fun _ _ _ h => h) (Or.inl ⟨by rfl, fun V (hV : w4.grownBy V none) => by go_simp⟩) G15 ?_
                  (try simp only [Act.put, List.setIfInBounds_toArray, List.set_cons_zero, List.set_cons_succ])
                  refine wpAnyH_take (i := 19) (oi := { dst := some 19, op := Op.assign (Operand.tmp 172), type := _, pos := _, after := _, guard := _ }) (v := .slice zo2 0 zc2) rfl (by kernel_rfl) (by kernel_rfl) (by kernel_rfl) (fun _ _ _ h => h) (Or.inl ⟨by rfl, fun V (hV : w4.grownBy V none) => by go_simp⟩) G15 ?_
                  (try simp only [Act.put, List.setIfInBounds_toArray, List.set_cons_zero, List.set_cons_succ])
                  refine wpAnyH_take (i := 20) (oi := { dst := some 20, op := Op.assign (Operand.tmp 173), type := _, pos := _, after := _, guard := _ }) (v := .bool false) rfl (by kernel_rfl) (by kernel_rfl) (by kernel_rfl) (fun _ _ _ h => h) (Or.inl ⟨by rfl, fun V (hV : w4.grownBy V none) => by go_simp⟩) G15 ?_
                  (try simp only [Act.put, List.setIfInBounds_toArray, List.set_cons_zero, List.set_cons_succ])
                  refine wpAnyH_done (by kernel_rfl) ?_ _
                  refine NoPanic.normal ?_
                  go_upto_region 23 with fail
                  refine region_named fun O hO => ?_
                  refine wpList_val (by rw [hO]; kernel_rfl) (.bool false) (fun K9 hK9 => by go_simp; exact hK9) ?_
                  (try simp only [Act.put, List.setIfInBounds_toArray, List.set_cons_zero, List.set_cons_succ])
                  refine wpList_val (by rw [hO]; kernel_rfl) (.bool false) (fun K9 hK9 => by go_simp; exact hK9) ?_
                  (try simp only [Act.put, List.setIfInBounds_toArray, List.set_cons_zero, List.set_cons_succ])
                  refine wpList_val (by rw [hO]; kernel_rfl) (.bool false) (fun K9 hK9 => by go_simp; exact hK9) ?_
                  (try simp only [Act.put, List.setIfInBounds_toArray, List.set_cons_zero, List.set_cons_succ])
                  refine wpList_val (by rw [hO]; kernel_rfl) (.bool false) (fun K9 hK9 => by go_simp; exact hK9) ?_
                  (try simp only [Act.put, List.setIfInBounds_toArray, List.set_cons_zero, List.set_cons_succ])
                  go_wp2
                  go_roundw
                  case rel => exact ⟨i2 + 1, by omega, by go_num, unhide HEND _ G15⟩
                  case measure => simp [intOf]; omega
                · go_simp
                  go_at_call 11
                  refine (short8_min _ bo q3 bc hf3).mono ?_
                  rintro e wq ⟨rfl, eq9⟩
                  subst wq
                  go_wp2_with fail
                  refine hK9.out _ _ G9b (fun _ => ?_)
                  clear hK9 K9
                  (try simp only [Act.put, List.setIfInBounds_toArray, List.set_cons_zero, List.set_cons_succ])
                  refine wpAnyH_ready (rs := [4]) (by kernel_rfl) (by simp) ?_
                  refine AllReadyH.cons (o := { dst := some 160, op := Op.buildSlice 22 0 #[], type := _, pos := _, after := _, guard := _ }) rfl (fun K9 hK9 => ?_) AllReadyH.nil
                  go_simp
                  refine hK9.out _ _ (gb_alloc G9b _) (fun _ => ?_)
                  clear hK9 K9
                  (try simp only [Act.put, List.setIfInBounds_toArray, List.set_cons_zero, List.set_cons_succ])
                  obtain ⟨W4, hW4, hv4, gw4⟩ := own_new (W9) w4.heap.size (G9b).size
                  rw [← hW4]
                  clear hW4
                  have G4b := tn G9b gw4
                  have hne94 : (w4.drew).heap.size ≠ (W9).heap.size := Nat.ne_of_lt (hb9.typ _ rfl).lt
                  have hb9 := hb9.none gw4
                  refine wpAnyH_ready (rs := [8]) (by kernel_rfl) (by simp) ?_
                  refine AllReadyH.cons (o := { dst := some 164, op := Op.call { callee := Callee.builtin Builtin.append, args := #[(Operand.tmp 160), (Operand.tmp 163)], argTypes := #[22, 22] }, type := _, pos := _, after := _, guard := _ }) rfl (fun K9 hK9 => ?_) AllReadyH.nil
                  refine step_append_bts (by rfl) _ _ rfl w4.heap.size (.slice (some ⟨(W9).heap.size, 0, none⟩) 0 0) 0 _ rfl hv4 bo bc be (unhide HBE4 _ G4b) (sh200 q3) (unhide HBL).symm rfl (by rw [unhide HBL]; omega) (G4b).size ?_
                  intro v8 w8 hv8 g8
                  have G8 : w4.grownBy w8 none := gb_trans G4b g8 (fun y e => Or.inl (hv4.lt y e).1)
                  refine hK9.out _ _ G8 (fun _ => ?_)
                  clear hK9 K9
                  (try simp only [Act.put, List.setIfInBounds_toArray, List.set_cons_zero, List.set_cons_succ])
                  rw [Nat.zero_add, List.nil_append, unhide HBL] at hv8
                  have hb9 : BtT w8 (some ⟨(w4.drew).heap.size, 0, none⟩) 1 [0] := ⟨hb9.bts.kept g8 (fun y e ad e2 e3 => by cases e2; exact hne94 (by have e4 : (W9).heap.size = y := (by simpa [Value.ownBlock] using e); rw [e4]; exact e3)), fun ad e => (hb9.typ ad e).kept g8 (fun e2 => by cases e; exact hne94 (by simpa [Value.ownBlock] using e2))⟩
                  refine wpAnyH_ready (rs := [10]) (by kernel_rfl) (by simp) ?_
                  refine AllReadyH.cons (o := { dst := some 166, op := Op.call { callee := Callee.builtin Builtin.append, args := #[(Operand.tmp 164), (Operand.tmp 165)], argTypes := #[22, 22] }, type := _, pos := _, after := _, guard := _ }) rfl (fun K9 hK9 => ?_) AllReadyH.nil
                  refine step_append_bts (by rfl) _ _ rfl w4.heap.size v8 (sh200 q3) _ rfl hv8 (some ⟨(w4.drew).heap.size, 0, none⟩) 1 [0] hb9.bts 1 rfl rfl (by simp; omega) (G8).size ?_
                  intro v10 w10 hv10 g10
                  have G10 : w4.grownBy w10 none := gb_trans G8 g10 (fun y e => Or.inl (hv8.lt y e).1)
                  refine hK9.out _ _ G10 (fun _ => ?_)
                  clear hK9 K9
                  (try simp only [Act.put, List.setIfInBounds_toArray, List.set_cons_zero, List.set_cons_succ])
                  rw [← List.map_append] at hv10
                  obtain ⟨eo, ec, rfl, hE⟩ := own_btT hv10
                  rw [show List.length (be ++ [(0 : UInt8)]) = sh200 q3 + 1 by rw [List.length_append, unhide HBL]; rfl]
                  have c15 := unhide HC3 w10 eo ec G10 hE
                  refine wpAnyH_ready (rs := [15]) (by kernel_rfl) (by simp) ?_
                  refine AllReadyH.cons (o := { dst := some 171, op := Op.call { callee := Callee.value (Operand.func 14), args := #[(Operand.tmp 156), (Operand.tmp 159), (Operand.tmp 166), (Operand.tmp 170)], argTypes := #[24, 37, 22, 22] }, type := _, pos := _, after := _, guard := _ }) rfl (fun K9 hK9 => ?_) AllReadyH.nil
                  go_simp
                  go_at_call 14
                  refine (c15).mono ?_
                  rintro e w15 ⟨⟨zo2, zc2, rfl⟩, gz⟩
                  go_wp2_with fail
                  refine hK9.out _ _ (tn G10 gz) (fun _ => ?_)
                  clear hK9 K9
                  (try simp only [Act.put, List.setIfInBounds_toArray, List.set_cons_zero, List.set_cons_succ])
                  have G15 := tn G10 gz
                  refine wpAnyH_take (i := 16) (oi := { dst := some 155, op := Op.move (Operand.tmp 171), type := _, pos := _, after := _, guard := _ }) (v := .tuple #[.slice zo2 0 zc2, .bool false]) rfl (by kernel_rfl) (by kernel_rfl) (by kernel_rfl) (fun _ _ _ h => h) (Or.inl ⟨by rfl, fun V (hV : w4.grownBy V none) => by go_simp⟩) G15 ?_
                  (try simp only [Act.put, List.setIfInBounds_toArray, List.set_cons_zero, List.set_cons_succ])
                  refine wpAnyH_take (i := 17) (oi := { dst := some 172, op := Op.extract (Operand.tmp 155) 0, type := _, pos := _, after := _, guard := _ }) (v := .slice zo2 0 zc2) rfl (by kernel_rfl) (by kernel_rfl) (by kernel_rfl) (fun _ _ _ h => h) (Or.inl ⟨by rfl, fun V (hV : w4.grownBy V none) => by go_simp⟩) G15 ?_
                  (try simp only [Act.put, List.setIfInBounds_toArray, List.set_cons_zero, List.set_cons_succ])
                  refine wpAnyH_take (i := 18) (oi := { dst := some 173, op := Op.extract (Operand.tmp 155) 1, type := _, pos := _, after := _, guard := _ }) (v := .bool false) rfl (by kernel_rfl) (by kernel_rfl) (by kernel_rfl) (fun _ _ _ h => h) (Or.inl ⟨by rfl, fun V (hV : w4.grownBy V none) => by go_simp⟩) G15 ?_
                  (try simp only [Act.put, List.setIfInBounds_toArray, List.set_cons_zero, List.set_cons_succ])
                  refine wpAnyH_take (i := 19) (oi := { dst := some 19, op := Op.assign (Operand.tmp 172), type := _, pos := _, after := _, guard := _ }) (v := .slice zo2 0 zc2) rfl (by kernel_rfl) (by kernel_rfl) (by kernel_rfl) (fun _ _ _ h => h) (Or.inl ⟨by rfl, fun V (hV : w4.grownBy V none) => by go_simp⟩) G15 ?_
                  (try simp only [Act.put, List.setIfInBounds_toArray, List.set_cons_zero, List.set_cons_succ])
                  refine wpAnyH_take (i := 20) (oi := { dst := some 20, op := Op.assign (Operand.tmp 173), type := _, pos := _, after := _, guard := _ }) (v := .bool false) rfl (by kernel_rfl) (by kernel_rfl) (by kernel_rfl) (fun _ _ _ h => h) (Or.inl ⟨by rfl, fun V (hV : w4.grownBy V none) => by go_simp⟩) G15 ?_
                  (try simp only [Act.put, List.setIfInBounds_toArray, List.set_cons_zero, List.set_cons_succ])
                  refine wpAnyH_done (by kernel_rfl) ?_ _
                  refine NoPanic.normal ?_
                  go_upto_region 23 with fail
                  refine region_named fun O hO => ?_
                  refine wpList_val (by rw [hO]; kernel_rfl) (.bool false) (fun K9 hK9 => by go_simp; exact hK9) ?_
                  (try simp only [Act.put, List.setIfInBounds_toArray, List.set_cons_zero, List.set_cons_succ])
                  refine wpList_val (by rw [hO]; kernel_rfl) (.bool false) (fun K9 hK9 => by go_simp; exact hK9) ?_
                  (try simp only [Act.put, List.setIfInBounds_toArray, List.set_cons_zero, List.set_cons_succ])
                  refine wpList_val (by rw [hO]; kernel_rfl) (.bool false) (fun K9 hK9 => by go_simp; exact hK9) ?_
                  (try simp only [Act.put, List.setIfInBounds_toArray, List.set_cons_zero, List.set_cons_succ])
                  refine wpList_val (by rw [hO]; kernel_rfl) (.bool false) (fun K9 hK9 => by go_simp; exact hK9) ?_
                  (try simp only [Act.put, List.setIfInBounds_toArray, List.set_cons_zero, List.set_cons_succ])
                  go_wp2
                  go_roundw
                  case rel => exact ⟨i2 + 1, by omega, by go_num, unhide HEND _ G15⟩
                  case measure => simp [intOf]; omega
            · obtain rfl : i2 = j := by omega
              have hnn : ¬ (i2 : Int) < (i2 : Int) := by omega
              have hB7 := hB0.none g6
              have hOw := (unhide HOB).old G6
              obtain ⟨o, ho⟩ : ∃ o, o = B.opn (key1 1) [] other := ⟨_, rfl⟩
              have cop9 := unhide HOP wo bb bs bm B (key1 1) [] other none a2 0 c2 0 nO o G6 hB7 (key1_length 1) (Bts.nil _) hOw (by decide) (by have := unhide HNO; omega) hok htxs ho.symm rfl (unhide HNO).symm
              rw [← unhide HKO] at cop9
              have hkno : ∀ V, wo.grownBy V none → o.isSome = true → Calls Tryd.prog 16 #[.pointer (some ⟨bb, 0, none⟩), .slice a2 nO c2] V fun e w' => e = .returned (.bool true) ∧ V.grownBy w' none := fun V gV hsome => by
                have h5 : B.known other = true := by
                  obtain ⟨z, hz⟩ := Option.isSome_iff_exists.1 hsome
                  exact opn_known hmo (by rw [← ho, hz])
                have := known_any w V bb bs bm B other a2 c2 (hB7.none gV) (hOw.kept gV (fun _ e => by cases e)) (fun x hx => Nat.le_of_eq (hok.keys hmo x hx))
                rw [h5, ← unhide HNO] at this
                exact this
              have HKNO := hide hkno
              clear hkno
              obtain ⟨nz, hnz⟩ : ∃ nz, nz = (txtO o).length := ⟨_, rfl⟩
              rw [← hnz] at cop9
              clear hnz ho hB7 hOw hvo hS0 hgood hlt hi2 HSL
              rcases Bool.eq_false_or_eq_true o.isSome with hso | hso
              · rw [hso] at cop9
                go_upto_region 25 with fail
                refine region_named fun O hO => ?_
                refine wpList_val (by rw [hO]; kernel_rfl) (.pointer (some ⟨bb, 0, none⟩)) (fun K9 hK9 => by go_simp; exact hK9) ?_
                (try simp only [Act.put, List.setIfInBounds_toArray, List.set_cons_zero, List.set_cons_succ])
                refine wpList_built rfl 37 _ rfl KO (by simpa [Act.eval] using unhide HBO) ?_
                (try simp only [Act.put, List.setIfInBounds_toArray, List.set_cons_zero, List.set_cons_succ])
                refine wpList_val (by rw [hO]; kernel_rfl) (.slice a2 nO c2) (fun K9 hK9 => by go_simp; exact hK9) ?_
                (try simp only [Act.put, List.setIfInBounds_toArray, List.set_cons_zero, List.set_cons_succ])
                refine wpList_want (by rw [hO]; kernel_rfl) fun K9 hK9 => ?_
                go_simp
                go_at_call 14
                refine (cop9).mono ?_
                rintro e w7 ⟨⟨zo, zc, rfl, _⟩, g7⟩
                have G7 := tn G6 g7
                refine hK9 _ _ ?_
                clear hK9 K9
                (try simp only [Act.put, List.setIfInBounds_toArray, List.set_cons_zero, List.set_cons_succ])
                refine wpList_val (by rw [hO]; kernel_rfl) (.tuple #[.slice zo nz zc, .bool true]) (fun K9 hK9 => by go_simp; exact hK9) ?_
                (try simp only [Act.put, List.setIfInBounds_toArray, List.set_cons_zero, List.set_cons_succ])
                refine wpList_val (by rw [hO]; kernel_rfl) (.slice zo nz zc) (fun K9 hK9 => by go_simp; exact hK9) ?_
                (try simp only [Act.put, List.setIfInBounds_toArray, List.set_cons_zero, List.set_cons_succ])
                refine wpList_val (by rw [hO]; kernel_rfl) (.bool true) (fun K9 hK9 => by go_simp; exact hK9) ?_
                (try simp only [Act.put, List.setIfInBounds_toArray, List.set_cons_zero, List.set_cons_succ])
                refine wpList_val (by rw [hO]; kernel_rfl) (.slice zo nz zc) (fun K9 hK9 => by go_simp; exact hK9) ?_
                (try simp only [Act.put, List.setIfInBounds_toArray, List.set_cons_zero, List.set_cons_succ])
                refine wpList_val (by rw [hO]; kernel_rfl) (.bool true) (fun K9 hK9 => by go_simp; exact hK9) ?_
                (try simp only [Act.put, List.setIfInBounds_toArray, List.set_cons_zero, List.set_cons_succ])
                go_upto_region 26 with fail
                refine region_named fun O hO => ?_
                refine wpList_val (by rw [hO]; kernel_rfl) (.int .i64 1) (fun K9 hK9 => by go_simp; exact hK9) ?_
                (try simp only [Act.put, List.setIfInBounds_toArray, List.set_cons_zero, List.set_cons_succ])
                refine wpList_val (by rw [hO]; kernel_rfl) (.bool false) (fun K9 hK9 => by go_simp; exact hK9) ?_
                (try simp only [Act.put, List.setIfInBounds_toArray, List.set_cons_zero, List.set_cons_succ])
                refine wpList_val (by rw [hO]; kernel_rfl) (.bool false) (fun K9 hK9 => by go_simp; exact hK9) ?_
                (try simp only [Act.put, List.setIfInBounds_toArray, List.set_cons_zero, List.set_cons_succ])
                refine wpList_val (by rw [hO]; kernel_rfl) (.bool true) (fun K9 hK9 => by go_simp; exact hK9) ?_
                (try simp only [Act.put, List.setIfInBounds_toArray, List.set_cons_zero, List.set_cons_succ])
                refine wpList_val (by rw [hO]; kernel_rfl) (.bool false) (fun K9 hK9 => by go_simp; exact hK9) ?_
                (try simp only [Act.put, List.setIfInBounds_toArray, List.set_cons_zero, List.set_cons_succ])
                refine wpList_val (by rw [hO]; kernel_rfl) (.bool false) (fun K9 hK9 => by go_simp; exact hK9) ?_
                (try simp only [Act.put, List.setIfInBounds_toArray, List.set_cons_zero, List.set_cons_succ])
                refine wpList_val (by rw [hO]; kernel_rfl) (.bool false) (fun K9 hK9 => by go_simp; exact hK9) ?_
                (try simp only [Act.put, List.setIfInBounds_toArray, List.set_cons_zero, List.set_cons_succ])
                refine wpList_val (by rw [hO]; kernel_rfl) (.pointer (some ⟨bb, 0, none⟩)) (fun K9 hK9 => by go_simp; exact hK9) ?_
                (try simp only [Act.put, List.setIfInBounds_toArray, List.set_cons_zero, List.set_cons_succ])
                refine wpList_val (by rw [hO]; kernel_rfl) (.slice a2 nO c2) (fun K9 hK9 => by go_simp; exact hK9) ?_
                (try simp only [Act.put, List.setIfInBounds_toArray, List.set_cons_zero, List.set_cons_succ])
                refine wpList_want (by rw [hO]; kernel_rfl) fun K9 hK9 => ?_
                go_simp
                go_at_call 16
                refine (unhide HKNO w7 g7 hso).mono ?_
                rintro e w8k ⟨rfl, g8k⟩
                have G7 := tn G7 g8k
                refine hK9 _ _ ?_
                clear hK9 K9
                (try simp only [Act.put, List.setIfInBounds_toArray, List.set_cons_zero, List.set_cons_succ])
                refine wpList_val (by rw [hO]; kernel_rfl) (.bool true) (fun K9 hK9 => by go_simp; exact hK9) ?_
                (try simp only [Act.put, List.setIfInBounds_toArray, List.set_cons_zero, List.set_cons_succ])
                refine wpList_val (by rw [hO]; kernel_rfl) (.bool true) (fun K9 hK9 => by go_simp; exact hK9) ?_
                (try simp only [Act.put, List.setIfInBounds_toArray, List.set_cons_zero, List.set_cons_succ])
                refine wpList_want (by rw [hO]; kernel_rfl) fun K9 hK9 => ?_
                go_simp
                go_at_call 10
                refine (unhide HON w8k G7).mono ?_
                rintro e w8 ⟨rfl, g8⟩
                refine hK9 _ _ ?_
                clear hK9 K9
                (try simp only [Act.put, List.setIfInBounds_toArray, List.set_cons_zero, List.set_cons_succ])
                refine wpList_val (by rw [hO]; kernel_rfl) (.bool true) (fun K9 hK9 => by go_simp; exact hK9) ?_
                (try simp only [Act.put, List.setIfInBounds_toArray, List.set_cons_zero, List.set_cons_succ])
                refine wpList_val (by rw [hO]; kernel_rfl) (.bool true) (fun K9 hK9 => by go_simp; exact hK9) ?_
                (try simp only [Act.put, List.setIfInBounds_toArray, List.set_cons_zero, List.set_cons_succ])
                go_wp2
                go_ret
                exact ⟨rfl, tn G7 g8⟩
              · rw [hso] at cop9
                go_upto_region 25 with fail
                refine region_named fun O hO => ?_
                refine wpList_val (by rw [hO]; kernel_rfl) (.pointer (some ⟨bb, 0, none⟩)) (fun K9 hK9 => by go_simp; exact hK9) ?_
                (try simp only [Act.put, List.setIfInBounds_toArray, List.set_cons_zero, List.set_cons_succ])
                refine wpList_built rfl 37 _ rfl KO (by simpa [Act.eval] using unhide HBO) ?_
                (try simp only [Act.put, List.setIfInBounds_toArray, List.set_cons_zero, List.set_cons_succ])
                refine wpList_val (by rw [hO]; kernel_rfl) (.slice a2 nO c2) (fun K9 hK9 => by go_simp; exact hK9) ?_
                (try simp only [Act.put, List.setIfInBounds_toArray, List.set_cons_zero, List.set_cons_succ])
                refine wpList_want (by rw [hO]; kernel_rfl) fun K9 hK9 => ?_
                go_simp
                go_at_call 14
                refine (cop9).mono ?_
                rintro e w7 ⟨⟨zo, zc, rfl, _⟩, g7⟩
                have G7 := tn G6 g7
                refine hK9 _ _ ?_
                clear hK9 K9
                (try simp only [Act.put, List.setIfInBounds_toArray, List.set_cons_zero, List.set_cons_succ])
                refine wpList_val (by rw [hO]; kernel_rfl) (.tuple #[.slice zo nz zc, .bool false]) (fun K9 hK9 => by go_simp; exact hK9) ?_
                (try simp only [Act.put, List.setIfInBounds_toArray, List.set_cons_zero, List.set_cons_succ])
                refine wpList_val (by rw [hO]; kernel_rfl) (.slice zo nz zc) (fun K9 hK9 => by go_simp; exact hK9) ?_
                (try simp only [Act.put, List.setIfInBounds_toArray, List.set_cons_zero, List.set_cons_succ])
                refine wpList_val (by rw [hO]; kernel_rfl) (.bool false) (fun K9 hK9 => by go_simp; exact hK9) ?_
                (try simp only [Act.put, List.setIfInBounds_toArray, List.set_cons_zero, List.set_cons_succ])
                refine wpList_val (by rw [hO]; kernel_rfl) (.slice zo nz zc) (fun K9 hK9 => by go_simp; exact hK9) ?_
                (try simp only [Act.put, List.setIfInBounds_toArray, List.set_cons_zero, List.set_cons_succ])
                refine wpList_val (by rw [hO]; kernel_rfl) (.bool false) (fun K9 hK9 => by go_simp; exact hK9) ?_
                (try simp only [Act.put, List.setIfInBounds_toArray, List.set_cons_zero, List.set_cons_succ])
                go_upto_region 26 with fail
                refine region_named fun O hO => ?_
                refine wpList_val (by rw [hO]; kernel_rfl) (.int .i64 1) (fun K9 hK9 => by go_simp; exact hK9) ?_
                (try simp only [Act.put, List.setIfInBounds_toArray, List.set_cons_zero, List.set_cons_succ])
                refine wpList_val (by rw [hO]; kernel_rfl) (.bool false) (fun K9 hK9 => by go_simp; exact hK9) ?_
                (try simp only [Act.put, List.setIfInBounds_toArray, List.set_cons_zero, List.set_cons_succ])
                refine wpList_val (by rw [hO]; kernel_rfl) (.bool false) (fun K9 hK9 => by go_simp; exact hK9) ?_
                (try simp only [Act.put, List.setIfInBounds_toArray, List.set_cons_zero, List.set_cons_succ])
                refine wpList_val (by rw [hO]; kernel_rfl) (.bool false) (fun K9 hK9 => by go_simp; exact hK9) ?_
                (try simp only [Act.put, List.setIfInBounds_toArray, List.set_cons_zero, List.set_cons_succ])
                refine wpList_val (by rw [hO]; kernel_rfl) (.bool true) (fun K9 hK9 => by go_simp; exact hK9) ?_
                (try simp only [Act.put, List.setIfInBounds_toArray, List.set_cons_zero, List.set_cons_succ])
                refine wpList_val (by rw [hO]; kernel_rfl) (.bool true) (fun K9 hK9 => by go_simp; exact hK9) ?_
                (try simp only [Act.put, List.setIfInBounds_toArray, List.set_cons_zero, List.set_cons_succ])
                refine wpList_val (by rw [hO]; kernel_rfl) (.bool true) (fun K9 hK9 => by go_simp; exact hK9) ?_
                (try simp only [Act.put, List.setIfInBounds_toArray, List.set_cons_zero, List.set_cons_succ])
                refine wpList_skip (by rw [hO]; kernel_rfl) ?_
                (try simp only [Act.put, List.setIfInBounds_toArray, List.set_cons_zero, List.set_cons_succ])
                refine wpList_skip (by rw [hO]; kernel_rfl) ?_
                (try simp only [Act.put, List.setIfInBounds_toArray, List.set_cons_zero, List.set_cons_succ])
                refine wpList_skip (by rw [hO]; kernel_rfl) ?_
                (try simp only [Act.put, List.setIfInBounds_toArray, List.set_cons_zero, List.set_cons_succ])
                refine wpList_val (by rw [hO]; kernel_rfl) (.bool true) (fun K9 hK9 => by go_simp; exact hK9) ?_
                (try simp only [Act.put, List.setIfInBounds_toArray, List.set_cons_zero, List.set_cons_succ])
                refine wpList_val (by rw [hO]; kernel_rfl) (.bool true) (fun K9 hK9 => by go_simp; exact hK9) ?_
                (try simp only [Act.put, List.setIfInBounds_toArray, List.set_cons_zero, List.set_cons_succ])
                refine wpList_want (by rw [hO]; kernel_rfl) fun K9 hK9 => ?_
                go_simp
                go_at_call 10
                refine (unhide HON w7 G7).mono ?_
                rintro e w8 ⟨rfl, g8⟩
                refine hK9 _ _ ?_
                clear hK9 K9
                (try simp only [Act.put, List.setIfInBounds_toArray, List.set_cons_zero, List.set_cons_succ])
                refine wpList_val (by rw [hO]; kernel_rfl) (.bool true) (fun K9 hK9 => by go_simp; exact hK9) ?_
                (try simp only [Act.put, List.setIfInBounds_toArray, List.set_cons_zero, List.set_cons_succ])
                refine wpList_val (by rw [hO]; kernel_rfl) (.bool true) (fun K9 hK9 => by go_simp; exact hK9) ?_
                (try simp only [Act.put, List.setIfInBounds_toArray, List.set_cons_zero, List.set_cons_succ])
                go_wp2
                go_ret
                exact ⟨rfl, tn G7 g8⟩

end Go.Proofs.YtjckdgapefaokaaDoor
