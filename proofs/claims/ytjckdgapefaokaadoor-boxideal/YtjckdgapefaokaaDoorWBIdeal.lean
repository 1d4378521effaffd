/- BoxIdeal's walk: in the mode Ideal two boxes of the same draws seal texts of the same lengths to the same bytes, whatever keys, besides and texts say. For any first bytes, steps and byte. -/
import Derived.Test.YtjckdgapefaokaaDoorBTwo
namespace Go.Proofs.YtjckdgapefaokaaDoor
open Go.RowKit

theorem own_form {w : World} {base n : Nat} {v : Value} {xs : List Value} (h : w.ownsRow base 5 1 v n xs) : ∃ oo oc, v = .slice oo n oc ∧ (0 < n → ∃ g, oo = some ⟨g, 0, none⟩) := by
  rcases h.2 with ⟨h1, h2⟩ | ⟨g, cap, cur, h1, _⟩
  · subst h2; exact ⟨none, 0, h1, fun h => by omega⟩
  · exact ⟨_, cap, h1, fun _ => ⟨g, rfl⟩⟩

/-- A key whose first byte is x, and the next one 1. -/
def key2 (x : UInt8) : List UInt8 := x :: 1 :: List.replicate 30 0
theorem key2_length (x : UInt8) : (key2 x).length = 32 := rfl
theorem built_key2 (x : UInt8) : Tryd.prog.built 37 [(0, bv x), (1, .int .u8 1)] = some ((key2 x).map bv).toArray := by kernel_rfl

theorem alike_seal {A B : BoxS} (k1 be1 t1 k2 be2 t2 : List UInt8) (ht : t1.length = t2.length) (hA : A.mode = 1) (hB : B.mode = 1) (h1 : A.T = B.T) (h2 : A.u = B.u) (h3 : A.ss = B.ss) :
    (A.seal k1 be1 t1).2 = (B.seal k2 be2 t2).2 ∧ (A.seal k1 be1 t1).1.u = (B.seal k2 be2 t2).1.u ∧ (A.seal k1 be1 t1).1.ss = (B.seal k2 be2 t2).1.ss := by
  unfold BoxS.seal
  rw [if_neg (by omega), if_neg (by omega)]
  exact BoxS.alike k1 be1 t1 k2 be2 t2 ht 8 A B h1 h2 h3

set_option maxRecDepth 100000 in
set_option maxHeartbeats 4000000 in
theorem boxIdeal_cut (w : World) (a0 : Option Addr) (n0 c0 : Nat) (F : List UInt8) (hF : Bts w a0 c0 F) (ao : Option Addr) (cl : Nat) (l : List ActR) (hA : Acts w ao cl l) (t : UInt8) (hT : Tabs w) (hC : CTab w)
    (hn : (n0 = F.length ∧ n0 ≤ 300) ∨ (300 < n0 ∧ F.length = 300 ∧ n0 ≤ c0)) :
    Calls Tryd.prog 5 #[.slice a0 n0 c0, .slice ao l.length cl, bv t] w fun e w' => e = .returned (.bool true) ∧ w.grownBy w' none := by
  have cnew1 : ∀ V, w.grownBy V none → ∃ W, W = V.alloc (.cells #[.slice a0 F.length c0] 22) ∧ w.grownBy W none ∧ V.grownBy W none ∧ Calls Tryd.prog 9 #[.slice (some ⟨V.heap.size, 0, none⟩) 1 1] W fun e w' => ∃ b, e = .returned (.pointer (some ⟨b, 0, none⟩)) ∧ V.heap.size ≤ b ∧ SrcAt w' b F 0 ∧ V.grownBy w' none := fun V gV => dnew_one w V a0 c0 F gV hF hT (by omega)
  have cbn : ∀ V bs T, w.grownBy V none → w.heap.size ≤ bs → SrcAt V bs T 0 → Calls Tryd.prog 8 #[.int .i64 1, .pointer (some ⟨bs, 0, none⟩)] V fun e w' => ∃ bb bm, e = .returned (.tuple #[.pointer (some ⟨bb, 0, none⟩), .int .i64 0]) ∧ V.heap.size ≤ bb ∧ V.heap.size ≤ bm ∧ BoxAt w w' bb bs bm ⟨1, T, 0, []⟩ ∧ V.grownBy w' none := fun V bs T gV hbs hS => new_any w V 1 bs T 0 (Or.inr rfl) gV hbs hS
  have cse : ∀ V bb bs bm (B : BoxS) (k be tx : List UInt8) bo xo cb cx nb nx, w.grownBy V none → BoxAt w V bb bs bm B → k.length = 32 → Stays V bb bs bm bo cb be → Stays V bb bs bm xo cx tx → be.length ≤ 200 → tx.length ≤ 200 → B.Ok → B.u ≤ 40000 → B.L.length ≤ 20 → be.length = nb → tx.length = nx →
      Calls Tryd.prog 12 #[.pointer (some ⟨bb, 0, none⟩), .agg (k.map bv).toArray, .slice bo nb cb, .slice xo nx cx] V fun e w' => (∃ so sc, e = .returned (.tuple #[.slice so (txtO (B.seal k be tx).2).length sc, .int .i64 (errO (B.seal k be tx).2)]) ∧ BtT w' so sc (txtO (B.seal k be tx).2)) ∧ BoxAt w w' bb bs bm (B.seal k be tx).1 ∧ By3 V w' bb bs bm ∧ w.grownBy w' none := fun V bb bs bm B k be tx bo xo cb cx nb nx gV hV hk hb hx hbe htx hok hu hL hnb hnx => by
    subst hnb hnx
    have := seal_any w V bb bs bm B k be tx bo xo cb cx hV gV hT hC hk hb hx (by omega) (by omega) hok (by omega) (by omega)
    exact this.mono fun e w' ⟨so, sc, he, hs, hB', b⟩ => ⟨⟨so, sc, he, hs⟩, hB', b, by3_gb gV b hV.nb hV.ns hV.nm⟩
  have cone : ∀ V, w.grownBy V none → Calls Tryd.prog 10 #[] V fun e w' => e = .returned (.bool true) ∧ V.grownBy w' none := fun V gV => bone_any V (hT.kept0 gV) (hC.kept0 gV)
  have hbk1 := built_key1
  have hbk2 := built_key2 t
  obtain ⟨K2, hK2⟩ : ∃ A : Array Value, A = ((key2 t).map bv).toArray := ⟨_, rfl⟩
  rw [← hK2] at hbk2
  obtain ⟨nF, hnF⟩ : ∃ n, n = F.length := ⟨_, rfl⟩
  simp only [← hnF] at cnew1 hn
  obtain ⟨Ln, hLn⟩ : ∃ n, n = l.length := ⟨_, rfl⟩
  rw [← hLn]
  obtain ⟨M, hM⟩ : ∃ M, M = min Ln 12 := ⟨_, rfl⟩
  have HN1 := hide cnew1
  have HBN := hide cbn
  have HSE := hide cse
  have HON := hide cone
  have HK1 := hide hbk1
  have HK2 := hide hbk2
  have HKE := hide hK2
  have HA := hide hA
  have HL := hide hLn
  have HM := hide hM
  clear cnew1 cbn cse cone hbk1 hbk2 hK2 hA hnF hLn hM hF hT hC
  go_enter Tryd.func5, Tryd.ntmps5
  go_upto_if 21 with fail
  go_cut [0] (fun x0 wx => x0 = .slice a0 nF c0 ∧ wx = w)
  case first =>
    rcases hn with ⟨rfl, h300⟩ | ⟨h300, rfl, hc300⟩
    · have h301 : ¬ (300 : Int) < (n0 : Int) := by omega
      go_wp2
      go_meet
      case rel => exact ⟨rfl, rfl⟩
    · have h301 : (300 : Int) < (n0 : Int) := by omega
      have hto : ∀ W, (Instr.slice 22 (.slice a0 n0 c0) none (some (.int .i64 300)) none).run Tryd.prog W = .ok (.slice a0 300 c0) W := fun W => slice_to (P := Tryd.prog) W 22 5 Tryd.underlying22 size_byte a0 n0 c0 300 (by omega)
      go_wp2
      go_meet
      case rel => exact ⟨rfl, rfl⟩
  case rest =>
    obtain ⟨rfl, e9⟩ := hcut
    subst wc
    clear hn
    have G0 : w.grownBy w none := gb_refl _ _
    go_upto_region 3 with fail
    refine region_named fun O hO => ?_
    refine wpList_val (by rw [hO]; kernel_rfl) (.slice a0 nF c0) (fun K9 hK9 => by go_simp; exact hK9) ?_
    (try simp only [Act.put, List.setIfInBounds_toArray, List.set_cons_zero, List.set_cons_succ])
    refine wpList_want (by rw [hO]; kernel_rfl) fun K9 hK9 => ?_
    go_simp
    refine hK9 _ _ ?_
    clear hK9 K9
    (try simp only [Act.put, List.setIfInBounds_toArray, List.set_cons_zero, List.set_cons_succ])
    obtain ⟨Wn, hWn, Gn, gn, cn9⟩ := unhide HN1 w G0
    rw [← hWn]
    clear hWn
    refine wpList_want (by rw [hO]; kernel_rfl) fun K9 hK9 => ?_
    go_simp
    go_at_call 9
    refine (cn9).mono ?_
    rintro e w4 ⟨bs, rfl, hbs, hS4, g4⟩
    clear cn9 Gn gn Wn
    have G4 := tn G0 g4
    refine hK9 _ _ ?_
    clear hK9 K9
    (try simp only [Act.put, List.setIfInBounds_toArray, List.set_cons_zero, List.set_cons_succ])
    refine wpList_want (by rw [hO]; kernel_rfl) fun K9 hK9 => ?_
    go_simp
    go_at_call 8
    refine (unhide HBN w4 bs F G4 hbs hS4).mono ?_
    rintro e w5 ⟨bb, bm, rfl, hbb, hbm, hB5, g5⟩
    have G5 := tn G4 g5
    clear hS4
    refine hK9 _ _ ?_
    clear hK9 K9
    (try simp only [Act.put, List.setIfInBounds_toArray, List.set_cons_zero, List.set_cons_succ])
    refine wpList_val (by rw [hO]; kernel_rfl) (.tuple #[.pointer (some ⟨bb, 0, none⟩), .int .i64 0]) (fun K9 hK9 => by go_simp; exact hK9) ?_
    (try simp only [Act.put, List.setIfInBounds_toArray, List.set_cons_zero, List.set_cons_succ])
    refine wpList_val (by rw [hO]; kernel_rfl) (.pointer (some ⟨bb, 0, none⟩)) (fun K9 hK9 => by go_simp; exact hK9) ?_
    (try simp only [Act.put, List.setIfInBounds_toArray, List.set_cons_zero, List.set_cons_succ])
    refine wpList_val (by rw [hO]; kernel_rfl) (.int .i64 0) (fun K9 hK9 => by go_simp; exact hK9) ?_
    (try simp only [Act.put, List.setIfInBounds_toArray, List.set_cons_zero, List.set_cons_succ])
    refine wpList_val (by rw [hO]; kernel_rfl) (.pointer (some ⟨bb, 0, none⟩)) (fun K9 hK9 => by go_simp; exact hK9) ?_
    (try simp only [Act.put, List.setIfInBounds_toArray, List.set_cons_zero, List.set_cons_succ])
    refine wpList_val (by rw [hO]; kernel_rfl) (.int .i64 0) (fun K9 hK9 => by go_simp; exact hK9) ?_
    (try simp only [Act.put, List.setIfInBounds_toArray, List.set_cons_zero, List.set_cons_succ])
    go_upto_region 4 with fail
    refine region_named fun O hO => ?_
    refine wpList_val (by rw [hO]; kernel_rfl) (.slice a0 nF c0) (fun K9 hK9 => by go_simp; exact hK9) ?_
    (try simp only [Act.put, List.setIfInBounds_toArray, List.set_cons_zero, List.set_cons_succ])
    refine wpList_want (by rw [hO]; kernel_rfl) fun K9 hK9 => ?_
    go_simp
    refine hK9 _ _ ?_
    clear hK9 K9
    (try simp only [Act.put, List.setIfInBounds_toArray, List.set_cons_zero, List.set_cons_succ])
    obtain ⟨Wn, hWn, Gn, gn, cn9⟩ := unhide HN1 w5 G5
    rw [← hWn]
    clear hWn
    refine wpList_want (by rw [hO]; kernel_rfl) fun K9 hK9 => ?_
    go_simp
    go_at_call 9
    refine (cn9).mono ?_
    rintro e w6 ⟨cs, rfl, hcs, hS6, g6⟩
    clear cn9 Gn gn Wn
    have G6 := tn G5 g6
    refine hK9 _ _ ?_
    clear hK9 K9
    (try simp only [Act.put, List.setIfInBounds_toArray, List.set_cons_zero, List.set_cons_succ])
    have hB6 := hB5.none g6
    refine wpList_want (by rw [hO]; kernel_rfl) fun K9 hK9 => ?_
    go_simp
    go_at_call 8
    refine (unhide HBN w6 cs F G6 (Nat.le_trans G5.size hcs) hS6).mono ?_
    rintro e w7 ⟨cb, cm, rfl, hcb, hcm, hC7, g7⟩
    have G7 := tn G6 g7
    have hB7 := hB6.none g7
    have hne1 : cb ≠ bb := by have := hB6.blk.lt; omega
    have hne2 : cs ≠ bs := by have := hB5.src.blk.lt; omega
    have hne3 : cm ≠ bm := by have := hB6.map.lt; omega
    clear hB5 hB6 hS6 hbb hbm hcb hcm hcs hbs G4 G5 G6 g4 g5 g6 g7
    refine hK9 _ _ ?_
    clear hK9 K9
    (try simp only [Act.put, List.setIfInBounds_toArray, List.set_cons_zero, List.set_cons_succ])
    refine wpList_val (by rw [hO]; kernel_rfl) (.tuple #[.pointer (some ⟨cb, 0, none⟩), .int .i64 0]) (fun K9 hK9 => by go_simp; exact hK9) ?_
    (try simp only [Act.put, List.setIfInBounds_toArray, List.set_cons_zero, List.set_cons_succ])
    refine wpList_val (by rw [hO]; kernel_rfl) (.pointer (some ⟨cb, 0, none⟩)) (fun K9 hK9 => by go_simp; exact hK9) ?_
    (try simp only [Act.put, List.setIfInBounds_toArray, List.set_cons_zero, List.set_cons_succ])
    refine wpList_val (by rw [hO]; kernel_rfl) (.int .i64 0) (fun K9 hK9 => by go_simp; exact hK9) ?_
    (try simp only [Act.put, List.setIfInBounds_toArray, List.set_cons_zero, List.set_cons_succ])
    refine wpList_val (by rw [hO]; kernel_rfl) (.pointer (some ⟨cb, 0, none⟩)) (fun K9 hK9 => by go_simp; exact hK9) ?_
    (try simp only [Act.put, List.setIfInBounds_toArray, List.set_cons_zero, List.set_cons_succ])
    refine wpList_val (by rw [hO]; kernel_rfl) (.int .i64 0) (fun K9 hK9 => by go_simp; exact hK9) ?_
    (try simp only [Act.put, List.setIfInBounds_toArray, List.set_cons_zero, List.set_cons_succ])
    go_upto_region 5 with fail
    refine region_named fun O hO => ?_
    refine wpList_val (by rw [hO]; kernel_rfl) (.int .i64 0) (fun K9 hK9 => by go_simp; exact hK9) ?_
    (try simp only [Act.put, List.setIfInBounds_toArray, List.set_cons_zero, List.set_cons_succ])
    refine wpList_val (by rw [hO]; kernel_rfl) (.bool false) (fun K9 hK9 => by go_simp; exact hK9) ?_
    (try simp only [Act.put, List.setIfInBounds_toArray, List.set_cons_zero, List.set_cons_succ])
    refine wpList_val (by rw [hO]; kernel_rfl) (.bool false) (fun K9 hK9 => by go_simp; exact hK9) ?_
    (try simp only [Act.put, List.setIfInBounds_toArray, List.set_cons_zero, List.set_cons_succ])
    refine wpList_val (by rw [hO]; kernel_rfl) (.int .i64 0) (fun K9 hK9 => by go_simp; exact hK9) ?_
    (try simp only [Act.put, List.setIfInBounds_toArray, List.set_cons_zero, List.set_cons_succ])
    refine wpList_val (by rw [hO]; kernel_rfl) (.bool false) (fun K9 hK9 => by go_simp; exact hK9) ?_
    (try simp only [Act.put, List.setIfInBounds_toArray, List.set_cons_zero, List.set_cons_succ])
    refine wpList_val (by rw [hO]; kernel_rfl) (.bool false) (fun K9 hK9 => by go_simp; exact hK9) ?_
    (try simp only [Act.put, List.setIfInBounds_toArray, List.set_cons_zero, List.set_cons_succ])
    clear HN1 HBN G0
    go_wp2
    go_loopw [11] (fun i wr => ∃ (j : Nat) (A B : BoxS), j ≤ M ∧ i = .int .i64 j ∧ BoxAt w wr bb bs bm A ∧ BoxAt w wr cb cs cm B ∧ (A.mode = 1 ∧ B.mode = 1 ∧ A.T = B.T ∧ A.u = B.u ∧ A.ss = B.ss) ∧ A.Ok ∧ B.Ok ∧ (A.u ≤ j * 2000 ∧ B.u ≤ j * 2000 ∧ A.L.length ≤ j ∧ B.L.length ≤ j) ∧ w.grownBy wr none) (fun i _ => M - (intOf i).toNat)
    case atStart => exact ⟨0, _, _, Nat.zero_le _, rfl, hB7, hC7, ⟨rfl, rfl, rfl, rfl, rfl⟩, ok_new 1 (Or.inr rfl) F 0, ok_new 1 (Or.inr rfl) F 0, ⟨Nat.le_refl _, Nat.le_refl _, Nat.le_refl _, Nat.le_refl _⟩, G7⟩
    case round =>
      clear hB7 hC7 G7
      obtain ⟨j, A, B, hj, rfl, hA0, hB0, hal, hokA, hokB, hbd, G⟩ := hrel
      have hM := unhide HM
      by_cases hlt : j < M
      · have hj12 : j < 12 := by omega
        have hjl : j < l.length := by have := unhide HL; omega
        obtain ⟨ab, af, rfl, hr⟩ := (unhide HA).at j hjl
        have hbe0 := (unhide HA).b3 j hjl
        have htx0 := (unhide HA).b4 j hjl
        obtain ⟨r, hrr⟩ : ∃ r, r = l[j] := ⟨_, rfl⟩
        rw [← hrr] at hr hbe0 htx0
        obtain ⟨_, _, x, bo, bc, be0, xo, xc, tx0⟩ := r
        simp only at hr hbe0 htx0
        have hck : w.cell? ⟨ab, af + j * 5 + 2, none⟩ = some (bv x) := hr 2 _ rfl
        have hcb' : w.cell? ⟨ab, af + j * 5 + 3, none⟩ = some (.slice bo be0.length bc) := hr 3 _ rfl
        have hcx : w.cell? ⟨ab, af + j * 5 + 4, none⟩ = some (.slice xo tx0.length xc) := hr 4 _ rfl
        obtain ⟨be, hbe⟩ : ∃ be, be = be0.take 200 := ⟨_, rfl⟩
        obtain ⟨tx, htx⟩ : ∃ tx, tx = tx0.take 200 := ⟨_, rfl⟩
        have hbl : be.length = sh200 be0.length := by rw [hbe]; exact take200_length be0
        have htl : tx.length = sh200 tx0.length := by rw [htx]; exact take200_length tx0
        have hBe : Bts w bo bc be := by rw [hbe]; exact hbe0.short 200
        have hTx : Bts w xo xc tx := by rw [htx]; exact htx0.short 200
        have hf3 : be0.length ≤ bc := hbe0.fits
        have hf4 : tx0.length ≤ xc := htx0.fits
        obtain ⟨q3, hq3⟩ : ∃ n, n = be0.length := ⟨_, rfl⟩
        obtain ⟨q4, hq4⟩ : ∃ n, n = tx0.length := ⟨_, rfl⟩
        rw [← hq3] at hcb' hbl hf3
        rw [← hq4] at hcx htl hf4
        have hs3 := sh200_le q3
        have hs4 := sh200_le q4
        have hjn : (j : Int) < (Ln : Int) := by have := unhide HL; omega
        have hj0 : (0 : Int) ≤ (j : Int) := by omega
        have hji : (j : Int) < 12 := by omega
        have hcx' := G.cell hcx (by simp)
        have hwj : IntKind.i64.wrap ((j : Int) + 1) = (j : Int) + 1 := by rw [IntKind.wrap_i64]; omega
        obtain ⟨wo, rfl⟩ : ∃ wo, wo = wr := ⟨_, rfl⟩
        have hTo := hTx.old G
        clear hr hrr hbe htx hq3 hq4 hbe0 htx0 hjl
        go_upto_region 10 with fail
        refine region_named fun O hO => ?_
        refine wpList_val (by rw [hO]; kernel_rfl) (.slice (some ⟨ab, af, none⟩) Ln cl) (fun K9 hK9 => by go_simp; exact hK9) ?_
        (try simp only [Act.put, List.setIfInBounds_toArray, List.set_cons_zero, List.set_cons_succ])
        refine wpList_val (by rw [hO]; kernel_rfl) (.int .i64 (j : Int)) (fun K9 hK9 => by go_simp; exact hK9) ?_
        (try simp only [Act.put, List.setIfInBounds_toArray, List.set_cons_zero, List.set_cons_succ])
        refine wpList_val (by rw [hO]; kernel_rfl) (.pointer (some ⟨ab, af + j * 5, none⟩)) (fun K9 hK9 => by go_simp; exact hK9) ?_
        (try simp only [Act.put, List.setIfInBounds_toArray, List.set_cons_zero, List.set_cons_succ])
        refine wpList_val (by rw [hO]; kernel_rfl) (.pointer (some ⟨ab, af + j * 5 + 4, none⟩)) (fun K9 hK9 => by go_simp; exact hK9) ?_
        (try simp only [Act.put, List.setIfInBounds_toArray, List.set_cons_zero, List.set_cons_succ])
        refine wpList_val (by rw [hO]; kernel_rfl) (.slice xo q4 xc) (fun K9 hK9 => by go_simp; exact hK9) ?_
        (try simp only [Act.put, List.setIfInBounds_toArray, List.set_cons_zero, List.set_cons_succ])
        refine wpList_want (by rw [hO]; kernel_rfl) fun K9 hK9 => ?_
        go_simp
        go_at_call 11
        refine (short8_min wo xo q4 xc hf4).mono ?_
        rintro e w2 ⟨rfl, e2⟩
        subst w2
        refine hK9 _ _ ?_
        clear hK9 K9
        (try simp only [Act.put, List.setIfInBounds_toArray, List.set_cons_zero, List.set_cons_succ])
        refine wpList_val (by rw [hO]; kernel_rfl) (.slice xo (sh200 q4) xc) (fun K9 hK9 => by go_simp; exact hK9) ?_
        (try simp only [Act.put, List.setIfInBounds_toArray, List.set_cons_zero, List.set_cons_succ])
        go_upto_region 11 with fail
        refine region_named fun O hO => ?_
        refine wpList_want (by rw [hO]; kernel_rfl) fun K9 hK9 => ?_
        go_simp
        refine hK9 _ _ ?_
        clear hK9 K9
        (try simp only [Act.put, List.setIfInBounds_toArray, List.set_cons_zero, List.set_cons_succ])
        obtain ⟨Wb, hWb, hv0, gb⟩ := own_new wo wo.heap.size (Nat.le_refl _)
        rw [← hWb]
        clear hWb
        have hTb := hTo.kept gb (fun _ e => by cases e)
        refine wpList_val (by rw [hO]; kernel_rfl) (.slice xo (sh200 q4) xc) (fun K9 hK9 => by go_simp; exact hK9) ?_
        (try simp only [Act.put, List.setIfInBounds_toArray, List.set_cons_zero, List.set_cons_succ])
        refine wpList_append_btm rfl _ _ rfl wo.heap.size (.slice (some ⟨wo.heap.size, 0, none⟩) 0 0) 0 _ rfl hv0 xo xc tx hTb (sh200 q4) htl.symm rfl (by omega) gb.size ?_
        intro v3 w3 hv3 g3
        rw [Nat.zero_add, List.nil_append] at hv3
        obtain ⟨oo, oc, rfl, hoo⟩ := own_form hv3
        clear hTb
        (try simp only [Act.put, List.setIfInBounds_toArray, List.set_cons_zero, List.set_cons_succ])
        refine wpList_val (by rw [hO]; kernel_rfl) (.slice oo (sh200 q4) oc) (fun K9 hK9 => by go_simp; exact hK9) ?_
        (try simp only [Act.put, List.setIfInBounds_toArray, List.set_cons_zero, List.set_cons_succ])
        have Gb := tn G gb
        have hA3 := (hA0.none gb).own hv0 g3
        have hB3 := (hB0.none gb).own hv0 g3
        have G3o : wo.grownBy w3 none := gb_trans gb g3 (fun y e => Or.inl (hv0.lt y e).1)
        clear hv0 g3 gb Gb hA0 hB0 hcx'
        have hTL := hide htl
        go_wp2
        go_loopw [14] (fun a14 wr => ∃ k : Nat, k ≤ sh200 q4 ∧ a14 = .int .i64 k ∧ wr.ownsRow wo.heap.size 5 1 (.slice oo (sh200 q4) oc) (sh200 q4) ((mixL t tx k).map bv) ∧ w3.grownBy wr (Value.slice oo (sh200 q4) oc).ownBlock) (fun a14 _ => sh200 q4 - (intOf a14).toNat)
        case atStart => exact ⟨0, Nat.zero_le _, rfl, by rw [mixL_zero]; exact hv3, gb_refl _ _⟩
        case round =>
          obtain ⟨k, hk, rfl, hvk, gk⟩ := hrel
          by_cases hkn : k < sh200 q4
          · obtain ⟨g, rfl⟩ := hoo (by omega)
            have hkt : k < tx.length := by rw [unhide hTL]; exact hkn
            obtain ⟨hc1, hf1⟩ := own_there hvk k (bv tx[k]) (by rw [List.getElem?_map, mixL_at t tx k hkt]; rfl)
            have hset := own_set hvk k (bv (tx[k] + t))
            rw [show ((mixL t tx k).map bv).set k (bv (tx[k] + t)) = (mixL t tx (k + 1)).map bv by rw [← mixL_succ t tx k hkt, List.map_set]] at hset
            have hgs : w3.grownBy (wr.setCell ⟨g, k, none⟩ (bv (tx[k] + t))) (some g) := gb_setCell gk ⟨g, k, none⟩ _ (Or.inr rfl)
            have hadd := u8_add tx[k] t
            have hadd2 : ((((tx[k]).toNat : Nat) : Int) + ((t.toNat : Nat) : Int)) % 256 = (((tx[k] + t).toNat : Nat) : Int) := hadd
            obtain ⟨y, hy⟩ : ∃ y, y = (((tx[k]).toNat : Nat) : Int) := ⟨_, rfl⟩
            obtain ⟨z, hz⟩ : ∃ z, z = (((tx[k] + t).toNat : Nat) : Int) := ⟨_, rfl⟩
            have hc1' : wr.cell? ⟨g, k, none⟩ = some (.int .u8 y) := by rw [hc1, hy]; rfl
            have hbz : bv (tx[k] + t) = .int .u8 z := by rw [hz]; rfl
            rw [hbz] at hset hgs
            rw [← hy, ← hz] at hadd hadd2
            have hkn2 : (k : Int) < ((sh200 q4 : Nat) : Int) := by omega
            have hk0 : (0 : Int) ≤ (k : Int) := by omega
            have hwk : IntKind.i64.wrap ((k : Int) + 1) = (k : Int) + 1 := by rw [IntKind.wrap_i64]; omega
            have HSET := hide hset
            clear hc1 hbz hy hz hkt hset hvk gk hjn hj0 hji hk
            go_upto_region 15 with fail
            refine region_named fun O hO => ?_
            refine wpList_val (by rw [hO]; kernel_rfl) (.slice (some ⟨g, 0, none⟩) (sh200 q4) oc) (fun K9 hK9 => by go_simp; exact hK9) ?_
            (try simp only [Act.put, List.setIfInBounds_toArray, List.set_cons_zero, List.set_cons_succ])
            refine wpList_val (by rw [hO]; kernel_rfl) (.int .i64 (k : Int)) (fun K9 hK9 => by go_simp; exact hK9) ?_
            (try simp only [Act.put, List.setIfInBounds_toArray, List.set_cons_zero, List.set_cons_succ])
            refine wpList_val (by rw [hO]; kernel_rfl) (.slice (some ⟨g, 0, none⟩) (sh200 q4) oc) (fun K9 hK9 => by go_simp; exact hK9) ?_
            (try simp only [Act.put, List.setIfInBounds_toArray, List.set_cons_zero, List.set_cons_succ])
            refine wpList_val (by rw [hO]; kernel_rfl) (.int .i64 (k : Int)) (fun K9 hK9 => by go_simp; exact hK9) ?_
            (try simp only [Act.put, List.setIfInBounds_toArray, List.set_cons_zero, List.set_cons_succ])
            refine wpList_val (by rw [hO]; kernel_rfl) (.pointer (some ⟨g, k, none⟩)) (fun K9 hK9 => by go_simp; exact hK9) ?_
            (try simp only [Act.put, List.setIfInBounds_toArray, List.set_cons_zero, List.set_cons_succ])
            refine wpList_val (by rw [hO]; kernel_rfl) (.int .u8 y) (fun K9 hK9 => by go_simp; exact hK9) ?_
            (try simp only [Act.put, List.setIfInBounds_toArray, List.set_cons_zero, List.set_cons_succ])
            refine wpList_val (by rw [hO]; kernel_rfl) (.int .u8 ((t.toNat : Nat) : Int)) (fun K9 hK9 => by go_simp; exact hK9) ?_
            (try simp only [Act.put, List.setIfInBounds_toArray, List.set_cons_zero, List.set_cons_succ])
            refine wpList_val (by rw [hO]; kernel_rfl) (.int .u8 z) (fun K9 hK9 => by go_simp; exact hK9) ?_
            (try simp only [Act.put, List.setIfInBounds_toArray, List.set_cons_zero, List.set_cons_succ])
            refine wpList_val (by rw [hO]; kernel_rfl) (.pointer (some ⟨g, k, none⟩)) (fun K9 hK9 => by go_simp; exact hK9) ?_
            (try simp only [Act.put, List.setIfInBounds_toArray, List.set_cons_zero, List.set_cons_succ])
            refine wpList_want (by rw [hO]; kernel_rfl) fun K9 hK9 => ?_
            go_simp
            refine hK9 _ _ ?_
            clear hK9 K9
            (try simp only [Act.put, List.setIfInBounds_toArray, List.set_cons_zero, List.set_cons_succ])
            skip
            go_wp2
            go_roundw
            case rel => exact ⟨k + 1, by omega, by go_num, unhide HSET, hgs⟩
            case measure => simp [intOf]; omega
          · obtain rfl : k = sh200 q4 := by omega
            have hkk : ¬ ((sh200 q4 : Nat) : Int) < ((sh200 q4 : Nat) : Int) := by omega
            obtain ⟨w5, rfl⟩ : ∃ w5, w5 = wr := ⟨_, rfl⟩
            obtain ⟨ot, hot⟩ : ∃ ot, ot = mixL t tx (sh200 q4) := ⟨_, rfl⟩
            rw [← hot] at hvk
            have hol : ot.length = sh200 q4 := by rw [hot, mixL_length, unhide hTL]
            have hO5 : BtT w5 oo oc ot := by
              obtain ⟨p1, p2, p3, p4⟩ := own_btT hvk
              rw [hol] at p3
              cases p3
              exact p4
            have hA5 := hA3.own hv3 gk
            have hB5 := hB3.own hv3 gk
            have G5 : w.grownBy w5 none := tn G (gb_trans G3o gk (fun y e => Or.inl (hv3.lt y e).1))
            have hal2 := alike_seal (key1 x) be tx (key2 t) [] ot (by rw [unhide hTL, hol]) hal.1 hal.2.1 hal.2.2.1 hal.2.2.2.1 hal.2.2.2.2
            have hbdA := seal_bound A (key1 x) be tx (by rw [unhide hTL]; exact hs4)
            have hbdB := seal_bound B (key2 t) [] ot (by omega)
            have h0 : w.grownBy w5.drew none := gb_drew G5
            have hA6 := hA5.none (gb_drew (gb_refl w5 none))
            have hB6 := hB5.none (gb_drew (gb_refl w5 none))
            have hA9 := hA6
            have hO6 := hO5.none (gb_drew (gb_refl w5 none))
            have cs1 := unhide HSE w5.drew bb bs bm A (key1 x) be tx bo xo bc xc (sh200 q3) (sh200 q4) h0 hA6 (key1_length x) (Stays.old hBe hA6 h0) (Stays.old hTx hA6 h0) (by omega) (by rw [unhide hTL]; exact hs4) hokA (by omega) (by omega) hbl (unhide hTL)
            have cs2 : ∀ V, w.grownBy V none → BoxAt w V cb cs cm B → BtT V oo oc ot → Calls Tryd.prog 12 #[.pointer (some ⟨cb, 0, none⟩), .agg K2, .slice none 0 0, .slice oo (sh200 q4) oc] V fun e w' => (∃ so sc, e = .returned (.tuple #[.slice so (txtO (B.seal (key2 t) [] ot).2).length sc, .int .i64 (errO (B.seal (key2 t) [] ot).2)]) ∧ BtT w' so sc (txtO (B.seal (key2 t) [] ot).2)) ∧ BoxAt w w' cb cs cm (B.seal (key2 t) [] ot).1 ∧ By3 V w' cb cs cm ∧ w.grownBy w' none := fun V gV hV ho => by
              have := unhide HSE V cb cs cm B (key2 t) [] ot none oo 0 oc 0 (sh200 q4) gV hV (key2_length t) (Stays.nil _ _ _ _) (Stays.typ ho hV) (Nat.zero_le _) (by omega) hokB (by omega) (by omega) rfl hol
              rw [← unhide HKE] at this
              exact this
            have hbk := unhide HK1 x
            obtain ⟨KA, hKA⟩ : ∃ A : Array Value, A = ((key1 x).map bv).toArray := ⟨_, rfl⟩
            rw [← hKA] at cs1 hbk
            obtain ⟨R1, hR1⟩ : ∃ R, R = A.seal (key1 x) be tx := ⟨_, rfl⟩
            obtain ⟨R2, hR2⟩ : ∃ R, R = B.seal (key2 t) [] ot := ⟨_, rfl⟩
            have hokR1 := hokA.seal (key1 x) be tx (key1_length x)
            have hokR2 := hokB.seal (key2 t) [] ot (key2_length t)
            rw [← hR1] at cs1 hal2 hbdA hokR1
            rw [← hR2] at hal2 hbdB hokR2
            simp only [← hR2] at cs2
            rw [← hal2.1] at cs2
            obtain ⟨tO, htO⟩ : ∃ o, o = txtO R1.2 := ⟨_, rfl⟩
            obtain ⟨eO, heO⟩ : ∃ o, o = errO R1.2 := ⟨_, rfl⟩
            rw [← htO, ← heO] at cs1
            simp only [← htO, ← heO] at cs2
            obtain ⟨nO, hnO⟩ : ∃ o, o = tO.length := ⟨_, rfl⟩
            have hcvO : ∀ V so sc, BtT V so sc tO → (convert 22 9 (.slice so nO sc)).run Tryd.prog V = .ok (.string (str tO)) V := fun V so sc h => by rw [hnO]; exact conv_str h.bts
            rw [← hnO] at cs1
            simp only [← hnO] at cs2
            obtain ⟨sO, hsO⟩ : ∃ s, s = str tO := ⟨_, rfl⟩
            rw [← hsO] at hcvO
            have HCS2 := hide cs2
            have HCV := hide hcvO
            have HBK := hide hbk
            have HAL := hide hal2
            have HBA := hide hbdA
            have HBB := hide hbdB
            have hxv : bv x = .int .u8 ((x.toNat : Nat) : Int) := rfl
            have hjn2 := hjn
            clear hvk gk hv3 hA3 hB3 hot hol hO5 hA5 hB5 hokA hokB hal2 hbdA hbdB hA6 hKA hR1 hR2 htO heO hnO hsO cs2 hcvO hbk hbl hTL hBe hTx htl G3o hkk G5 hTo hxv
            go_upto_region 16 with fail
            refine wp_region_noPanic ?_
            refine wp_region_held_drew (S := fun V => w.grownBy V none) (by kernel_rfl) h0 (fun _ => ?_)
            refine wpAnyH_take (i := 0) (oi := { dst := some 79, op := Op.move (Operand.tmp 7), type := _, pos := _, after := _, guard := _ }) (v := .pointer (some ⟨bb, 0, none⟩)) rfl (by kernel_rfl) (by kernel_rfl) (by kernel_rfl) (fun _ _ _ h => h) (Or.inl ⟨by rfl, fun V (hV : w.grownBy V none) => by go_simp⟩) h0 ?_
            (try simp only [Act.put, List.setIfInBounds_toArray, List.set_cons_zero, List.set_cons_succ])
            refine wpAnyH_take (i := 1) (oi := { dst := some 80, op := Op.move (Operand.tmp 1), type := _, pos := _, after := _, guard := _ }) (v := .slice (some ⟨ab, af, none⟩) Ln cl) rfl (by kernel_rfl) (by kernel_rfl) (by kernel_rfl) (fun _ _ _ h => h) (Or.inl ⟨by rfl, fun V (hV : w.grownBy V none) => by go_simp⟩) h0 ?_
            (try simp only [Act.put, List.setIfInBounds_toArray, List.set_cons_zero, List.set_cons_succ])
            refine wpAnyH_take (i := 2) (oi := { dst := some 81, op := Op.move (Operand.tmp 11), type := _, pos := _, after := _, guard := _ }) (v := .int .i64 (j : Int)) rfl (by kernel_rfl) (by kernel_rfl) (by kernel_rfl) (fun _ _ _ h => h) (Or.inl ⟨by rfl, fun V (hV : w.grownBy V none) => by go_simp⟩) h0 ?_
            (try simp only [Act.put, List.setIfInBounds_toArray, List.set_cons_zero, List.set_cons_succ])
            refine wpAnyH_take (i := 3) (oi := { dst := some 82, op := Op.indexAddr 23 (Operand.tmp 80) (Operand.tmp 81), type := _, pos := _, after := _, guard := _ }) (v := .pointer (some ⟨ab, af + j * 5, none⟩)) rfl (by kernel_rfl) (by kernel_rfl) (by kernel_rfl) (fun _ _ _ h => h) (Or.inl ⟨by rfl, fun V (hV : w.grownBy V none) => by go_simp⟩) h0 ?_
            (try simp only [Act.put, List.setIfInBounds_toArray, List.set_cons_zero, List.set_cons_succ])
            refine wpAnyH_take (i := 4) (oi := { dst := some 83, op := Op.fieldAddr 35 (Operand.tmp 82) 2, type := _, pos := _, after := _, guard := _ }) (v := .pointer (some ⟨ab, af + j * 5 + 2, none⟩)) rfl (by kernel_rfl) (by kernel_rfl) (by kernel_rfl) (fun _ _ _ h => h) (Or.inl ⟨by rfl, fun V (hV : w.grownBy V none) => by go_simp⟩) h0 ?_
            (try simp only [Act.put, List.setIfInBounds_toArray, List.set_cons_zero, List.set_cons_succ])
            refine wpAnyH_take (i := 5) (oi := { dst := some 84, op := Op.load 5 (Operand.tmp 83), type := _, pos := _, after := _, guard := _ }) (v := bv x) rfl (by kernel_rfl) (by kernel_rfl) (by kernel_rfl) (fun _ _ _ h => h) (Or.inl ⟨by rfl, fun V (hV : w.grownBy V none) => by (have hv1 := hV.cell hck (by simp); go_simp)⟩) h0 ?_
            (try simp only [Act.put, List.setIfInBounds_toArray, List.set_cons_zero, List.set_cons_succ])
            refine wpAnyH_take (i := 6) (oi := { dst := some 85, op := Op.build 37 #[(0, (Operand.tmp 84))], type := _, pos := _, after := _, guard := _ }) (v := .agg KA) rfl (by kernel_rfl) (by kernel_rfl) (by kernel_rfl) (fun _ _ _ h => h) (yieldsIf_built (by rfl) _ _ rfl _ (by simpa [Act.eval] using unhide HBK)) h0 ?_
            (try simp only [Act.put, List.setIfInBounds_toArray, List.set_cons_zero, List.set_cons_succ])
            refine wpAnyH_take (i := 7) (oi := { dst := some 86, op := Op.move (Operand.tmp 1), type := _, pos := _, after := _, guard := _ }) (v := .slice (some ⟨ab, af, none⟩) Ln cl) rfl (by kernel_rfl) (by kernel_rfl) (by kernel_rfl) (fun _ _ _ h => h) (Or.inl ⟨by rfl, fun V (hV : w.grownBy V none) => by go_simp⟩) h0 ?_
            (try simp only [Act.put, List.setIfInBounds_toArray, List.set_cons_zero, List.set_cons_succ])
            refine wpAnyH_take (i := 8) (oi := { dst := some 87, op := Op.move (Operand.tmp 11), type := _, pos := _, after := _, guard := _ }) (v := .int .i64 (j : Int)) rfl (by kernel_rfl) (by kernel_rfl) (by kernel_rfl) (fun _ _ _ h => h) (Or.inl ⟨by rfl, fun V (hV : w.grownBy V none) => by go_simp⟩) h0 ?_
            (try simp only [Act.put, List.setIfInBounds_toArray, List.set_cons_zero, List.set_cons_succ])
            refine wpAnyH_take (i := 9) (oi := { dst := some 88, op := Op.indexAddr 23 (Operand.tmp 86) (Operand.tmp 87), type := _, pos := _, after := _, guard := _ }) (v := .pointer (some ⟨ab, af + j * 5, none⟩)) rfl (by kernel_rfl) (by kernel_rfl) (by kernel_rfl) (fun _ _ _ h => h) (Or.inl ⟨by rfl, fun V (hV : w.grownBy V none) => by go_simp⟩) h0 ?_
            (try simp only [Act.put, List.setIfInBounds_toArray, List.set_cons_zero, List.set_cons_succ])
            refine wpAnyH_take (i := 10) (oi := { dst := some 89, op := Op.fieldAddr 35 (Operand.tmp 88) 3, type := _, pos := _, after := _, guard := _ }) (v := .pointer (some ⟨ab, af + j * 5 + 3, none⟩)) rfl (by kernel_rfl) (by kernel_rfl) (by kernel_rfl) (fun _ _ _ h => h) (Or.inl ⟨by rfl, fun V (hV : w.grownBy V none) => by go_simp⟩) h0 ?_
            (try simp only [Act.put, List.setIfInBounds_toArray, List.set_cons_zero, List.set_cons_succ])
            refine wpAnyH_take (i := 11) (oi := { dst := some 90, op := Op.load 22 (Operand.tmp 89), type := _, pos := _, after := _, guard := _ }) (v := .slice bo q3 bc) rfl (by kernel_rfl) (by kernel_rfl) (by kernel_rfl) (fun _ _ _ h => h) (Or.inl ⟨by rfl, fun V (hV : w.grownBy V none) => by (have hv1 := hV.cell hcb' (by simp); go_simp)⟩) h0 ?_
            (try simp only [Act.put, List.setIfInBounds_toArray, List.set_cons_zero, List.set_cons_succ])
            refine wpAnyH_take (i := 13) (oi := { dst := some 92, op := Op.move (Operand.tmp 12), type := _, pos := _, after := _, guard := _ }) (v := .slice xo (sh200 q4) xc) rfl (by kernel_rfl) (by kernel_rfl) (by kernel_rfl) (fun _ _ _ h => h) (Or.inl ⟨by rfl, fun V (hV : w.grownBy V none) => by go_simp⟩) h0 ?_
            (try simp only [Act.put, List.setIfInBounds_toArray, List.set_cons_zero, List.set_cons_succ])
            refine wpAnyH_ready (rs := [12]) (by kernel_rfl) (by simp) ?_
            refine AllReadyH.cons (o := { dst := some 91, op := Op.call { callee := Callee.value (Operand.func 11), args := #[(Operand.tmp 90)], argTypes := #[22] }, type := _, pos := _, after := _, guard := _ }) rfl (fun K9 hK9 => ?_) AllReadyH.nil
            go_simp
            go_at_call 11
            refine (short8_min _ bo q3 bc hf3).mono ?_
            rintro e w6 ⟨rfl, rfl⟩
            go_wp2_with fail
            refine hK9.out _ _ h0 (fun _ => ?_)
            clear hK9 K9
            (try simp only [Act.put, List.setIfInBounds_toArray, List.set_cons_zero, List.set_cons_succ])
            refine wpAnyH_ready (rs := [14]) (by kernel_rfl) (by simp) ?_
            refine AllReadyH.cons (o := { dst := some 93, op := Op.call { callee := Callee.value (Operand.func 12), args := #[(Operand.tmp 79), (Operand.tmp 85), (Operand.tmp 91), (Operand.tmp 92)], argTypes := #[24, 37, 22, 22] }, type := _, pos := _, after := _, guard := _ }) rfl (fun K9 hK9 => ?_) AllReadyH.nil
            go_simp
            go_at_call 12
            refine (cs1).mono ?_
            rintro e w7 ⟨⟨so, sc, rfl, hX7⟩, hA7, b7, G7⟩
            go_wp2_with fail
            refine hK9.out _ _ G7 (fun _ => ?_)
            clear hK9 K9
            (try simp only [Act.put, List.setIfInBounds_toArray, List.set_cons_zero, List.set_cons_succ])
            have hB7 := hB6.other hA9 b7 hne1 hne2 hne3
            have hO7 := hO6.box hA9 b7
            clear cs1 hB6 hO6 b7 hA9
            refine wpAnyH_take (i := 15) (oi := { dst := some 78, op := Op.move (Operand.tmp 93), type := _, pos := _, after := _, guard := _ }) (v := .tuple #[.slice so nO sc, .int .i64 eO]) rfl (by kernel_rfl) (by kernel_rfl) (by kernel_rfl) (fun _ _ _ h => h) (Or.inl ⟨by rfl, fun V (hV : w.grownBy V none) => by go_simp⟩) G7 ?_
            (try simp only [Act.put, List.setIfInBounds_toArray, List.set_cons_zero, List.set_cons_succ])
            refine wpAnyH_take (i := 16) (oi := { dst := some 94, op := Op.extract (Operand.tmp 78) 0, type := _, pos := _, after := _, guard := _ }) (v := .slice so nO sc) rfl (by kernel_rfl) (by kernel_rfl) (by kernel_rfl) (fun _ _ _ h => h) (Or.inl ⟨by rfl, fun V (hV : w.grownBy V none) => by go_simp⟩) G7 ?_
            (try simp only [Act.put, List.setIfInBounds_toArray, List.set_cons_zero, List.set_cons_succ])
            refine wpAnyH_take (i := 17) (oi := { dst := some 95, op := Op.extract (Operand.tmp 78) 1, type := _, pos := _, after := _, guard := _ }) (v := .int .i64 eO) rfl (by kernel_rfl) (by kernel_rfl) (by kernel_rfl) (fun _ _ _ h => h) (Or.inl ⟨by rfl, fun V (hV : w.grownBy V none) => by go_simp⟩) G7 ?_
            (try simp only [Act.put, List.setIfInBounds_toArray, List.set_cons_zero, List.set_cons_succ])
            refine wpAnyH_take (i := 18) (oi := { dst := some 15, op := Op.assign (Operand.tmp 94), type := _, pos := _, after := _, guard := _ }) (v := .slice so nO sc) rfl (by kernel_rfl) (by kernel_rfl) (by kernel_rfl) (fun _ _ _ h => h) (Or.inl ⟨by rfl, fun V (hV : w.grownBy V none) => by go_simp⟩) G7 ?_
            (try simp only [Act.put, List.setIfInBounds_toArray, List.set_cons_zero, List.set_cons_succ])
            refine wpAnyH_take (i := 19) (oi := { dst := some 16, op := Op.assign (Operand.tmp 95), type := _, pos := _, after := _, guard := _ }) (v := .int .i64 eO) rfl (by kernel_rfl) (by kernel_rfl) (by kernel_rfl) (fun _ _ _ h => h) (Or.inl ⟨by rfl, fun V (hV : w.grownBy V none) => by go_simp⟩) G7 ?_
            (try simp only [Act.put, List.setIfInBounds_toArray, List.set_cons_zero, List.set_cons_succ])
            refine wpAnyH_done (by kernel_rfl) ?_ _
            refine NoPanic.normal ?_
            go_upto_region 17 with fail
            refine region_named fun O hO => ?_
            refine wpList_val (by rw [hO]; kernel_rfl) (.pointer (some ⟨cb, 0, none⟩)) (fun K9 hK9 => by go_simp; exact hK9) ?_
            (try simp only [Act.put, List.setIfInBounds_toArray, List.set_cons_zero, List.set_cons_succ])
            refine wpList_val (by rw [hO]; kernel_rfl) (bv t) (fun K9 hK9 => by go_simp; exact hK9) ?_
            (try simp only [Act.put, List.setIfInBounds_toArray, List.set_cons_zero, List.set_cons_succ])
            refine wpList_built rfl 37 _ rfl K2 (by simpa [Act.eval] using unhide HK2) ?_
            (try simp only [Act.put, List.setIfInBounds_toArray, List.set_cons_zero, List.set_cons_succ])
            refine wpList_val (by rw [hO]; kernel_rfl) (.slice oo (sh200 q4) oc) (fun K9 hK9 => by go_simp; exact hK9) ?_
            (try simp only [Act.put, List.setIfInBounds_toArray, List.set_cons_zero, List.set_cons_succ])
            refine wpList_want (by rw [hO]; kernel_rfl) fun K9 hK9 => ?_
            go_simp
            go_at_call 12
            refine (unhide HCS2 w7 G7 hB7 hO7).mono ?_
            rintro e w8 ⟨⟨yo, yc, rfl, hY8⟩, hB8, b8, G8⟩
            have hA8 := hA7.other hB7 b8 (Ne.symm hne1) (Ne.symm hne2) (Ne.symm hne3)
            have hX8 := hX7.box hB7 b8
            clear hA7 hB7 hO7 hX7 b8
            refine hK9 _ _ ?_
            clear hK9 K9
            (try simp only [Act.put, List.setIfInBounds_toArray, List.set_cons_zero, List.set_cons_succ])
            refine wpList_val (by rw [hO]; kernel_rfl) (.tuple #[.slice yo nO yc, .int .i64 eO]) (fun K9 hK9 => by go_simp; exact hK9) ?_
            (try simp only [Act.put, List.setIfInBounds_toArray, List.set_cons_zero, List.set_cons_succ])
            refine wpList_val (by rw [hO]; kernel_rfl) (.slice yo nO yc) (fun K9 hK9 => by go_simp; exact hK9) ?_
            (try simp only [Act.put, List.setIfInBounds_toArray, List.set_cons_zero, List.set_cons_succ])
            refine wpList_val (by rw [hO]; kernel_rfl) (.int .i64 eO) (fun K9 hK9 => by go_simp; exact hK9) ?_
            (try simp only [Act.put, List.setIfInBounds_toArray, List.set_cons_zero, List.set_cons_succ])
            refine wpList_val (by rw [hO]; kernel_rfl) (.slice yo nO yc) (fun K9 hK9 => by go_simp; exact hK9) ?_
            (try simp only [Act.put, List.setIfInBounds_toArray, List.set_cons_zero, List.set_cons_succ])
            refine wpList_val (by rw [hO]; kernel_rfl) (.int .i64 eO) (fun K9 hK9 => by go_simp; exact hK9) ?_
            (try simp only [Act.put, List.setIfInBounds_toArray, List.set_cons_zero, List.set_cons_succ])
            go_upto_region 18 with fail
            refine region_named fun O hO => ?_
            refine wpList_val (by rw [hO]; kernel_rfl) (.slice so nO sc) (fun K9 hK9 => by go_simp; exact hK9) ?_
            (try simp only [Act.put, List.setIfInBounds_toArray, List.set_cons_zero, List.set_cons_succ])
            refine wpList_val (by rw [hO]; kernel_rfl) (.string sO) (fun K9 hK9 => by (have hv9 := unhide HCV w8 so sc hX8; go_simp); exact hK9) ?_
            (try simp only [Act.put, List.setIfInBounds_toArray, List.set_cons_zero, List.set_cons_succ])
            refine wpList_val (by rw [hO]; kernel_rfl) (.slice yo nO yc) (fun K9 hK9 => by go_simp; exact hK9) ?_
            (try simp only [Act.put, List.setIfInBounds_toArray, List.set_cons_zero, List.set_cons_succ])
            refine wpList_val (by rw [hO]; kernel_rfl) (.string sO) (fun K9 hK9 => by (have hv9 := unhide HCV w8 yo yc hY8; go_simp); exact hK9) ?_
            (try simp only [Act.put, List.setIfInBounds_toArray, List.set_cons_zero, List.set_cons_succ])
            refine wpList_val (by rw [hO]; kernel_rfl) (.bool false) (fun K9 hK9 => by go_simp; exact hK9) ?_
            (try simp only [Act.put, List.setIfInBounds_toArray, List.set_cons_zero, List.set_cons_succ])
            refine wpList_val (by rw [hO]; kernel_rfl) (.bool false) (fun K9 hK9 => by go_simp; exact hK9) ?_
            (try simp only [Act.put, List.setIfInBounds_toArray, List.set_cons_zero, List.set_cons_succ])
            refine wpList_val (by rw [hO]; kernel_rfl) (.int .i64 eO) (fun K9 hK9 => by go_simp; exact hK9) ?_
            (try simp only [Act.put, List.setIfInBounds_toArray, List.set_cons_zero, List.set_cons_succ])
            refine wpList_val (by rw [hO]; kernel_rfl) (.int .i64 eO) (fun K9 hK9 => by go_simp; exact hK9) ?_
            (try simp only [Act.put, List.setIfInBounds_toArray, List.set_cons_zero, List.set_cons_succ])
            refine wpList_val (by rw [hO]; kernel_rfl) (.bool false) (fun K9 hK9 => by go_simp; exact hK9) ?_
            (try simp only [Act.put, List.setIfInBounds_toArray, List.set_cons_zero, List.set_cons_succ])
            refine wpList_val (by rw [hO]; kernel_rfl) (.bool false) (fun K9 hK9 => by go_simp; exact hK9) ?_
            (try simp only [Act.put, List.setIfInBounds_toArray, List.set_cons_zero, List.set_cons_succ])
            have hal3 := unhide HAL
            have hb1 := unhide HBA
            have hb2 := unhide HBB
            go_wp2
            go_roundw
            case rel =>
              refine ⟨j + 1, R1.1, R2.1, by omega, by go_num, hA8, hB8, ⟨by rw [hb1.2.2.1]; exact hal.1, by rw [hb2.2.2.1]; exact hal.2.1, by rw [hb1.2.2.2, hb2.2.2.2]; exact hal.2.2.1, hal3.2.1, hal3.2.2⟩, hokR1, hokR2, ?_, G8⟩
              obtain ⟨d1, d2, d3, d4⟩ := hbd
              exact ⟨by omega, by omega, by omega, by omega⟩
            case measure => simp [intOf]; omega
      · obtain rfl : j = M := by omega
        have hLL : (A.L.length : Int) = (B.L.length : Int) := by
          have := congrArg List.length hal.2.2.2.2
          simp only [BoxS.ss, List.length_map] at this
          rw [this]
        have cc1 := count_any wr w bb bs bm A hA0
        have cc2 := count_any wr w cb cs cm B hB0
        rw [hLL] at cc1
        obtain ⟨NL, hNL⟩ : ∃ z : Int, z = (B.L.length : Int) := ⟨_, rfl⟩
        rw [← hNL] at cc1 cc2
        have hjc : (Ln = j) ∨ (j < Ln ∧ j = 12) := by omega
        clear hLL hNL hal hokA hokB hbd hA0 hB0 hM hlt hj
        go_upto_region 8 with fail
        go_cut [51] (fun x51 wx => x51 = .bool false ∧ wx = wr)
        case first =>
          rcases hjc with rfl | ⟨hjl, hj12⟩
          · have hn1 : ¬ (Ln : Int) < (Ln : Int) := by omega
            go_wp2
            go_meet
            case rel => exact ⟨rfl, rfl⟩
          · have hn1 : (j : Int) < (Ln : Int) := by omega
            have hn2 : ¬ (j : Int) < 12 := by omega
            clear hjl hj12
            go_wp2
            go_meet
            case rel => exact ⟨rfl, rfl⟩
        case rest =>
          obtain ⟨rfl, e9⟩ := hcut
          subst wc
          go_upto_region 20 with fail
          refine region_named fun O hO => ?_
          refine wpList_val (by rw [hO]; kernel_rfl) (.pointer (some ⟨bb, 0, none⟩)) (fun K9 hK9 => by go_simp; exact hK9) ?_
          (try simp only [Act.put, List.setIfInBounds_toArray, List.set_cons_zero, List.set_cons_succ])
          refine wpList_want (by rw [hO]; kernel_rfl) fun K9 hK9 => ?_
          go_simp
          go_at_call 18
          refine (cc1).mono ?_
          rintro e w2 ⟨rfl, e2⟩
          subst w2
          refine hK9 _ _ ?_
          clear hK9 K9
          (try simp only [Act.put, List.setIfInBounds_toArray, List.set_cons_zero, List.set_cons_succ])
          refine wpList_val (by rw [hO]; kernel_rfl) (.pointer (some ⟨cb, 0, none⟩)) (fun K9 hK9 => by go_simp; exact hK9) ?_
          (try simp only [Act.put, List.setIfInBounds_toArray, List.set_cons_zero, List.set_cons_succ])
          refine wpList_want (by rw [hO]; kernel_rfl) fun K9 hK9 => ?_
          go_simp
          go_at_call 18
          refine (cc2).mono ?_
          rintro e w2 ⟨rfl, e2⟩
          subst w2
          refine hK9 _ _ ?_
          clear hK9 K9
          (try simp only [Act.put, List.setIfInBounds_toArray, List.set_cons_zero, List.set_cons_succ])
          refine wpList_val (by rw [hO]; kernel_rfl) (.bool true) (fun K9 hK9 => by go_simp; exact hK9) ?_
          (try simp only [Act.put, List.setIfInBounds_toArray, List.set_cons_zero, List.set_cons_succ])
          refine wpList_val (by rw [hO]; kernel_rfl) (.bool true) (fun K9 hK9 => by go_simp; exact hK9) ?_
          (try simp only [Act.put, List.setIfInBounds_toArray, List.set_cons_zero, List.set_cons_succ])
          refine wpList_want (by rw [hO]; kernel_rfl) fun K9 hK9 => ?_
          go_simp
          go_at_call 10
          refine (unhide HON wr G).mono ?_
          rintro e w9 ⟨rfl, g9⟩
          refine hK9 _ _ ?_
          clear hK9 K9
          (try simp only [Act.put, List.setIfInBounds_toArray, List.set_cons_zero, List.set_cons_succ])
          refine wpList_val (by rw [hO]; kernel_rfl) (.bool true) (fun K9 hK9 => by go_simp; exact hK9) ?_
          (try simp only [Act.put, List.setIfInBounds_toArray, List.set_cons_zero, List.set_cons_succ])
          refine wpList_val (by rw [hO]; kernel_rfl) (.bool true) (fun K9 hK9 => by go_simp; exact hK9) ?_
          (try simp only [Act.put, List.setIfInBounds_toArray, List.set_cons_zero, List.set_cons_succ])
          go_wp2
          go_ret
          exact ⟨rfl, tn G g9⟩

theorem boxIdeal_any (w : World) (a0 : Option Addr) (c0 : Nat) (l0 : List UInt8) (hb0 : Bts w a0 c0 l0) (ao : Option Addr) (cl : Nat) (l : List ActR) (hA : Acts w ao cl l) (t : UInt8) (hT : Tabs w) (hC : CTab w) :
    Calls Tryd.prog 5 #[.slice a0 l0.length c0, .slice ao l.length cl, bv t] w fun e w' => e = .returned (.bool true) ∧ w.grownBy w' none := by
  have hf := hb0.fits
  refine boxIdeal_cut w a0 l0.length c0 (l0.take 300) (hb0.short 300) ao cl l hA t hT hC ?_
  by_cases h : 300 < l0.length
  · exact Or.inr ⟨h, by rw [List.length_take]; omega, hf⟩
  · exact Or.inl ⟨by rw [List.length_take]; omega, by omega⟩

end Go.Proofs.YtjckdgapefaokaaDoor
