/- BoxPlays' walk where there is such a mode: any texts are sealed to the document's bytes, and any bytes opened as it says. For any first bytes and steps. -/
import Derived.Test.YtjckdgapefaokaaDoorBPl
namespace Go.Proofs.YtjckdgapefaokaaDoor
open Go.RowKit

set_option maxRecDepth 100000 in
set_option maxHeartbeats 16000000 in
theorem boxPlays_m (w : World) (m : Nat) (hm : m = 0 ∨ m = 1) (a0 : Option Addr) (n0 c0 : Nat) (F : List UInt8) (hF : Bts w a0 c0 F) (ao : Option Addr) (cl : Nat) (l : List ActR) (hA : Acts w ao cl l) (hT : Tabs w) (hC : CTab w)
    (hn : (n0 = F.length ∧ n0 ≤ 300) ∨ (300 < n0 ∧ F.length = 300 ∧ n0 ≤ c0)) :
    Calls Tryd.prog 3 #[.int .i64 (m : Int), .slice a0 n0 c0, .slice ao l.length cl] w fun e w' => e = .returned (.bool true) ∧ w.grownBy w' none := by
  have hFl : F.length ≤ 300 := by omega
  have cnew1 : ∀ V, w.grownBy V none → ∃ W, W = V.alloc (.cells #[.slice a0 F.length c0] 22) ∧ w.grownBy W none ∧ V.grownBy W none ∧ Calls Tryd.prog 9 #[.slice (some ⟨V.heap.size, 0, none⟩) 1 1] W fun e w' => ∃ b, e = .returned (.pointer (some ⟨b, 0, none⟩)) ∧ V.heap.size ≤ b ∧ SrcAt w' b F 0 ∧ V.grownBy w' none := fun V gV => dnew_one w V a0 c0 F gV hF hT (by omega)
  have cbn : ∀ V bs T, w.grownBy V none → w.heap.size ≤ bs → SrcAt V bs T 0 → Calls Tryd.prog 8 #[.int .i64 (m : Int), .pointer (some ⟨bs, 0, none⟩)] V fun e w' => ∃ bb bm, e = .returned (.tuple #[.pointer (some ⟨bb, 0, none⟩), .int .i64 0]) ∧ V.heap.size ≤ bb ∧ V.heap.size ≤ bm ∧ BoxAt w w' bb bs bm ⟨m, T, 0, []⟩ ∧ V.grownBy w' none := fun V bs T gV hbs hS => new_any w V m bs T 0 hm gV hbs hS
  have P : PlayC w F m := playC w F m hm hT hC hFl
  have hcF : ∀ V, w.grownBy V none → (convert 22 9 (.slice a0 F.length c0)).run Tryd.prog V = .ok (.string (str F)) V := fun V gV => conv_str (hF.old gV)
  obtain ⟨SF, hSF⟩ : ∃ S, S = str F := ⟨_, rfl⟩
  rw [← hSF] at hcF
  have hbr := built_rbox (m : Int) SF
  obtain ⟨C0, hC0⟩ : ∃ C, C = rbC (m : Int) F 0 (.slice none 0 0) := ⟨_, rfl⟩
  have hC0a : #[.int .i64 (m : Int), .string SF, .int .i64 0, .slice none 0 0] = C0.toArray := by rw [hC0, hSF]; rfl
  rw [hC0a] at hbr
  have hs0 : C0.toArray.size = 4 := by rw [hC0]; rfl
  have ho0 : C0.toArray.all (·.oneCell') = true := by rw [hC0]; exact rbC_one _ _ _ rfl
  obtain ⟨Z, hZ⟩ : ∃ Z : List Value, Z = [.int .i64 0, .string (str []), .int .i64 0, .slice none 0 0] := ⟨_, rfl⟩
  have hzv : ∀ w, (zeroValue 33).run Tryd.prog w = .ok (.agg Z.toArray) w := fun w => by rw [hZ]; exact zero_rbox w
  have hsZ : Z.toArray.size = 4 := by rw [hZ]; rfl
  obtain ⟨ZK, hZK⟩ : ∃ z : List Value, z = (List.replicate 32 (0 : UInt8)).map bv := ⟨_, rfl⟩
  have hzk : ∀ w, (zeroValue 37).run Tryd.prog w = .ok (.agg ZK.toArray) w := fun w => by rw [hZK]; exact zero_key w
  have hsZK : ZK.toArray.size = 32 := by rw [hZK]; rfl
  obtain ⟨ZA, hZA⟩ : ∃ Z : List Value, Z = [.int .i64 0, .int .i64 0, .int .u8 0, .slice none 0 0, .slice none 0 0] := ⟨_, rfl⟩
  have hza : ∀ w, (zeroValue 35).run Tryd.prog w = .ok (.agg ZA.toArray) w := fun w => by rw [hZA]; exact zero_act w
  have hsZA : ZA.toArray.size = 5 := by rw [hZA]; rfl
  obtain ⟨nF, hnF⟩ : ∃ n, n = F.length := ⟨_, rfl⟩
  simp only [← hnF] at cnew1 hn hcF
  obtain ⟨Ln, hLn⟩ : ∃ n, n = l.length := ⟨_, rfl⟩
  rw [← hLn]
  obtain ⟨M, hM⟩ : ∃ M, M = min Ln 16 := ⟨_, rfl⟩
  have HN1 := hide cnew1
  have HBN := hide cbn
  have HCF := hide hcF
  have HBR := hide hbr
  have HS0 := hide hs0
  have HO0 := hide ho0
  have HC0 := hide hC0
  have HSZ := hide hsZ
  have HSZK := hide hsZK
  have HSZA := hide hsZA
  have HA := hide hA
  have HL := hide hLn
  have HM := hide hM
  clear cnew1 cbn hcF hbr hs0 ho0 hC0 hC0a hZ hsZ hZK hsZK hZA hsZA hnF hLn hM hA hSF hF hT hC hFl
  go_enter Tryd.func3, Tryd.ntmps3
  go_upto_if 27 with fail
  go_cut [1] (fun x1 wx => x1 = .slice a0 nF c0 ∧ wx = w)
  case first =>
    rcases hn with ⟨rfl, h300⟩ | ⟨h300, rfl, hc300⟩
    · have h301 : ¬ (300 : Int) < (n0 : Int) := by omega
      go_wp2
      go_meet
      case rel => exact ⟨rfl, rfl⟩
    · have h301 : (300 : Int) < (n0 : Int) := by omega
      have hto : ∀ W, (Instr.slice 22 (.slice a0 n0 c0) none (some (.int .i64 300)) none).run Tryd.prog W = .ok (.slice a0 300 c0) W := fun W => slice_to (P := Tryd.prog) W 22 5 Tryd.underlying22 size_byte a0 n0 c0 300 (by omega)
      go_wp2
      go_meet
      case rel => exact ⟨rfl, rfl⟩
  case rest =>
    obtain ⟨rfl, e9⟩ := hcut
    subst wc
    clear hn
    have G0 : w.grownBy w none := gb_refl _ _
    go_upto_region 3 with fail
    refine region_named fun O hO => ?_
    refine wpList_val (by rw [hO]; kernel_rfl) (.int .i64 (m : Int)) (fun K9 hK9 => by go_simp; exact hK9) ?_
    (try simp only [Act.put, pq1, pq2, pq3])
    refine wpList_val (by rw [hO]; kernel_rfl) (.slice a0 nF c0) (fun K9 hK9 => by go_simp; exact hK9) ?_
    (try simp only [Act.put, pq1, pq2, pq3])
    refine wpList_want (by rw [hO]; kernel_rfl) fun K9 hK9 => ?_
    go_simp
    refine hK9 _ _ ?_
    clear hK9 K9
    (try simp only [Act.put, pq1, pq2, pq3])
    obtain ⟨Wn, hWn, Gn, gn, cn9⟩ := unhide HN1 w G0
    rw [← hWn]
    clear hWn
    refine wpList_want (by rw [hO]; kernel_rfl) fun K9 hK9 => ?_
    go_simp
    go_at_call 9
    refine (cn9).mono ?_
    rintro e w4 ⟨bs, rfl, hbs, hS4, g4⟩
    clear cn9 Gn gn Wn
    have G4 := tn G0 g4
    refine hK9 _ _ ?_
    clear hK9 K9
    (try simp only [Act.put, pq1, pq2, pq3])
    refine wpList_want (by rw [hO]; kernel_rfl) fun K9 hK9 => ?_
    go_simp
    go_at_call 8
    refine (unhide HBN w4 bs F G4 hbs hS4).mono ?_
    rintro e w5 ⟨bb, bm, rfl, hbb, hbm, hB5, g5⟩
    have G5 := tn G4 g5
    clear hS4 hbb hbm hbs g4 g5 G4
    refine hK9 _ _ ?_
    clear hK9 K9
    (try simp only [Act.put, pq1, pq2, pq3])
    refine wpList_val (by rw [hO]; kernel_rfl) (.tuple #[.pointer (some ⟨bb, 0, none⟩), .int .i64 0]) (fun K9 hK9 => by go_simp; exact hK9) ?_
    (try simp only [Act.put, pq1, pq2, pq3])
    refine wpList_val (by rw [hO]; kernel_rfl) (.pointer (some ⟨bb, 0, none⟩)) (fun K9 hK9 => by go_simp; exact hK9) ?_
    (try simp only [Act.put, pq1, pq2, pq3])
    refine wpList_val (by rw [hO]; kernel_rfl) (.int .i64 0) (fun K9 hK9 => by go_simp; exact hK9) ?_
    (try simp only [Act.put, pq1, pq2, pq3])
    refine wpList_val (by rw [hO]; kernel_rfl) (.pointer (some ⟨bb, 0, none⟩)) (fun K9 hK9 => by go_simp; exact hK9) ?_
    (try simp only [Act.put, pq1, pq2, pq3])
    refine wpList_val (by rw [hO]; kernel_rfl) (.int .i64 0) (fun K9 hK9 => by go_simp; exact hK9) ?_
    (try simp only [Act.put, pq1, pq2, pq3])
    go_upto_region 4 with fail
    go_cut [43] (fun x43 wx => x43 = .bool false ∧ wx = w5)
    case first =>
      rcases hm with rfl | rfl
      · refine region_named fun O hO => ?_
        refine wpList_val (by rw [hO]; kernel_rfl) (.int .i64 0) (fun K9 hK9 => by go_simp; exact hK9) ?_
        (try simp only [Act.put, pq1, pq2, pq3])
        refine wpList_val (by rw [hO]; kernel_rfl) (.bool false) (fun K9 hK9 => by go_simp; exact hK9) ?_
        (try simp only [Act.put, pq1, pq2, pq3])
        refine wpList_val (by rw [hO]; kernel_rfl) (.bool false) (fun K9 hK9 => by go_simp; exact hK9) ?_
        (try simp only [Act.put, pq1, pq2, pq3])
        refine wpList_skip (by rw [hO]; kernel_rfl) ?_
        (try simp only [Act.put, pq1, pq2, pq3])
        refine wpList_skip (by rw [hO]; kernel_rfl) ?_
        (try simp only [Act.put, pq1, pq2, pq3])
        refine wpList_val (by rw [hO]; kernel_rfl) (.bool false) (fun K9 hK9 => by go_simp; exact hK9) ?_
        (try simp only [Act.put, pq1, pq2, pq3])
        go_wp2
        go_meet
        case rel => exact ⟨rfl, rfl⟩
      · refine region_named fun O hO => ?_
        refine wpList_val (by rw [hO]; kernel_rfl) (.int .i64 1) (fun K9 hK9 => by go_simp; exact hK9) ?_
        (try simp only [Act.put, pq1, pq2, pq3])
        refine wpList_val (by rw [hO]; kernel_rfl) (.bool true) (fun K9 hK9 => by go_simp; exact hK9) ?_
        (try simp only [Act.put, pq1, pq2, pq3])
        refine wpList_val (by rw [hO]; kernel_rfl) (.bool true) (fun K9 hK9 => by go_simp; exact hK9) ?_
        (try simp only [Act.put, pq1, pq2, pq3])
        refine wpList_val (by rw [hO]; kernel_rfl) (.int .i64 1) (fun K9 hK9 => by go_simp; exact hK9) ?_
        (try simp only [Act.put, pq1, pq2, pq3])
        refine wpList_val (by rw [hO]; kernel_rfl) (.bool false) (fun K9 hK9 => by go_simp; exact hK9) ?_
        (try simp only [Act.put, pq1, pq2, pq3])
        refine wpList_val (by rw [hO]; kernel_rfl) (.bool false) (fun K9 hK9 => by go_simp; exact hK9) ?_
        (try simp only [Act.put, pq1, pq2, pq3])
        go_wp2
        go_meet
        case rel => exact ⟨rfl, rfl⟩
    case rest =>
    obtain ⟨rfl, e9⟩ := hcut
    subst wc
    go_upto_region 6 with fail
    refine region_named fun O hO => ?_
    refine wpList_val (by rw [hO]; kernel_rfl) (.int .i64 (m : Int)) (fun K9 hK9 => by go_simp; exact hK9) ?_
    (try simp only [Act.put, pq1, pq2, pq3])
    refine wpList_val (by rw [hO]; kernel_rfl) (.slice a0 nF c0) (fun K9 hK9 => by go_simp; exact hK9) ?_
    (try simp only [Act.put, pq1, pq2, pq3])
    refine wpList_val (by rw [hO]; kernel_rfl) (.string SF) (fun K9 hK9 => by (have hv9 := unhide HCF w5 G5; go_simp); exact hK9) ?_
    (try simp only [Act.put, pq1, pq2, pq3])
    refine wpList_built rfl 33 _ rfl C0.toArray (by simpa [Act.eval] using unhide HBR) ?_
    (try simp only [Act.put, pq1, pq2, pq3])
    refine wpList_want (by rw [hO]; kernel_rfl) fun K9 hK9 => ?_
    go_simp
    refine hK9 _ _ ?_
    clear hK9 K9
    (try simp only [Act.put, pq1, pq2, pq3])
    obtain ⟨W6, hW6, hR6, g6⟩ := rb_new w5 Z C0
    refine wpList_store_row rfl 33 _ _ rfl w5.heap.size _ rfl rfl _ _ (Blk.new w5 _ Z) (by rw [unhide HS0]; exact info_rbox) (by rw [unhide HS0, unhide HSZ]) (unhide HO0) ?_
    rw [← hW6]
    have hB6 := hB5.none g6
    have G6 := tn G5 g6
    clear hW6 hB5 g6
    (try simp only [Act.put])
    clear HN1 HBN G0 HCF HBR HS0 HO0
    obtain ⟨p9, hp9⟩ : ∃ p, p = w5.heap.size := ⟨_, rfl⟩
    rw [← hp9] at hR6 ⊢
    rw [unhide HC0] at hR6
    have hwp9 : w.heap.size ≤ p9 := by rw [hp9]; exact G5.size
    clear hp9 HC0
    go_wp2
    go_loopw [10] (fun i wr => ∃ (j : Nat) (B : BoxS) (v : Value), j ≤ M ∧ i = .int .i64 j ∧ BoxAt w wr bb bs bm B ∧ Blk wr p9 33 (rbC (m : Int) F B.u v) ∧ Rl wr w.heap.size v B.L ∧ Pl m F j B ∧ w.grownBy wr none) (fun i _ => M - (intOf i).toNat)
    case atStart => exact ⟨0, _, _, Nat.zero_le _, rfl, hB6, hR6, Rl.nil _ _, pl_new m hm F, G6⟩
    case round =>
      clear hB6 hR6 G6
      obtain ⟨j, B, v, hj, rfl, hB0, hR0, hL0, hpl, G⟩ := hrel
      have hM := unhide HM
      obtain ⟨wo, rfl⟩ : ∃ wo, wo = wr := ⟨_, rfl⟩
      by_cases hlt : j < M
      · have hj16 : j < 16 := by omega
        have hjl : j < l.length := by have := unhide HL; omega
        obtain ⟨ab, af, rfl, hr⟩ := (unhide HA).at j hjl
        have hbe0 := (unhide HA).b3 j hjl
        have htx0 := (unhide HA).b4 j hjl
        obtain ⟨r, hrr⟩ : ∃ r, r = l[j] := ⟨_, rfl⟩
        rw [← hrr] at hr hbe0 htx0
        have hrg := range_kept hr G (by simp)
        obtain ⟨kd, N, x, bo, bc, be0, xo, xc, tx0⟩ := r
        simp only at hr hbe0 htx0 hrg
        have hf3 : be0.length ≤ bc := hbe0.fits
        have hf4 : tx0.length ≤ xc := htx0.fits
        obtain ⟨be, hbe⟩ : ∃ be, be = be0.take 200 := ⟨_, rfl⟩
        obtain ⟨tx, htx⟩ : ∃ tx, tx = tx0.take 200 := ⟨_, rfl⟩
        have hbl : be.length = sh200 be0.length := by rw [hbe]; exact take200_length be0
        have htl : tx.length = sh200 tx0.length := by rw [htx]; exact take200_length tx0
        have hBe : Bts w bo bc be := by rw [hbe]; exact hbe0.short 200
        have hTx : Bts w xo xc tx := by rw [htx]; exact htx0.short 200
        obtain ⟨q3, hq3⟩ : ∃ n, n = be0.length := ⟨_, rfl⟩
        obtain ⟨q4, hq4⟩ : ∃ n, n = tx0.length := ⟨_, rfl⟩
        rw [← hq3] at hrg hf3 hbl
        rw [← hq4] at hrg hf4 htl
        have hs3 := sh200_le q3
        have hs4 := sh200_le q4
        obtain ⟨AC, hAC⟩ : ∃ A, A = [.int .i64 kd, .int .i64 N, bv x, .slice bo q3 bc, .slice xo q4 xc] := ⟨_, rfl⟩
        rw [← hAC] at hrg
        have hiA : (Tryd.prog.info? 35).map (·.size) = some AC.length := by rw [hAC]; exact info_act
        have hsA : AC.toArray.size = 5 := by rw [hAC]; rfl
        have hoA : AC.toArray.all (·.oneCell') = true := by
          rw [hAC]
          refine all_oneCell_toArray (fun v hv => ?_)
          simp only [List.mem_cons, List.not_mem_nil, or_false] at hv
          rcases hv with rfl | rfl | rfl | rfl | rfl <;> rfl
        obtain ⟨y, hy⟩ : ∃ y : UInt8, y = x &&& 3 := ⟨_, rfl⟩
        have hand : bits .and .u8 ((x.toNat : Nat) : Int) 3 = ((y.toNat : Nat) : Int) := by rw [hy]; exact and3 x
        have hxv : bv x = .int .u8 ((x.toNat : Nat) : Int) := rfl
        obtain ⟨xi, hxi⟩ : ∃ z, z = ((x.toNat : Nat) : Int) := ⟨_, rfl⟩
        rw [← hxi] at hand hxv
        obtain ⟨k, hk⟩ : ∃ k, k = key1 y := ⟨_, rfl⟩
        have hkl : k.length = 32 := by rw [hk]; exact key1_length y
        have hbk : Tryd.prog.built 37 [(0, .int .u8 ((y.toNat : Nat) : Int))] = some (k.map bv).toArray := by rw [hk]; exact built_key1 y
        obtain ⟨yi, hyi⟩ : ∃ z, z = ((y.toNat : Nat) : Int) := ⟨_, rfl⟩
        rw [← hyi] at hand hbk
        have hsK : (k.map bv).toArray.size = 32 := by simp [hkl]
        have hjn : (j : Int) < (Ln : Int) := by have := unhide HL; omega
        have hj0 : (0 : Int) ≤ (j : Int) := by omega
        have hji : (j : Int) < 16 := by omega
        have hwj : IntKind.i64.wrap ((j : Int) + 1) = (j : Int) + 1 := by rw [IntKind.wrap_i64]; omega
        obtain ⟨W1, hW1, hA1, g1⟩ := act_new wo ZA AC
        obtain ⟨W2, hW2, hK2, g2⟩ := key_new W1 ZK (k.map bv)
        obtain ⟨p11, hp11⟩ : ∃ p, p = wo.heap.size := ⟨_, rfl⟩
        obtain ⟨p12, hp12⟩ : ∃ p, p = W1.heap.size := ⟨_, rfl⟩
        have ca0 : W1.cell? ⟨p11, 0, none⟩ = some (.int .i64 kd) := by rw [hp11, hA1.cell, hAC]; rfl
        have ca1 : W1.cell? ⟨p11, 1, none⟩ = some (.int .i64 N) := by rw [hp11, hA1.cell, hAC]; rfl
        have ca2 : W1.cell? ⟨p11, 2, none⟩ = some (.int .u8 xi) := by rw [hp11, hA1.cell, hAC, ← hxv]; rfl
        have ca3 : W1.cell? ⟨p11, 3, none⟩ = some (.slice bo q3 bc) := by rw [hp11, hA1.cell, hAC]; rfl
        have ca4 : W1.cell? ⟨p11, 4, none⟩ = some (.slice xo q4 xc) := by rw [hp11, hA1.cell, hAC]; rfl
        have cb0 := g2.cell ca0 (by simp)
        have cb1 := g2.cell ca1 (by simp)
        have cb3 := g2.cell ca3 (by simp)
        have cb4 := g2.cell ca4 (by simp)
        rw [← hp12] at hK2
        have G2 := tn (tn G g1) g2
        have hB2 := (hB0.none g1).none g2
        have hR2 := (hR0.kept g1 (by simp)).kept g2 (by simp)
        have hL2 := (hL0.none g1).none g2
        have HRG := hide hrg
        have HIA := hide hiA
        have HSA := hide hsA
        have HOA := hide hoA
        have HBK := hide hbk
        have HSK := hide hsK
        have HW1 := hide hW1
        have HW2 := hide hW2
        have HP11 := hide hp11
        have HP12 := hide hp12
        have HZ1 := hide (Blk.new wo 35 ZA)
        have HZ2 := hide (Blk.new W1 37 ZK)
        clear hr hrr hrg hbe0 htx0 hbe htx hq3 hq4 hAC hiA hsA hoA hy hxv hxi hk hbk hyi hsK hW1 hW2 hp11 hp12 hA1 ca0 ca1 ca3 ca4 hjl g1 g2 hB0 hR0 hL0
        go_upto_region 10 with fail
        refine region_named fun O hO => ?_
        refine wpList_val (by rw [hO]; kernel_rfl) (.slice (some ⟨ab, af, none⟩) Ln cl) (fun K9 hK9 => by go_simp; exact hK9) ?_
        (try simp only [Act.put, pq1, pq2, pq3])
        refine wpList_val (by rw [hO]; kernel_rfl) (.int .i64 (j : Int)) (fun K9 hK9 => by go_simp; exact hK9) ?_
        (try simp only [Act.put, pq1, pq2, pq3])
        refine wpList_val (by rw [hO]; kernel_rfl) (.pointer (some ⟨ab, af + j * 5, none⟩)) (fun K9 hK9 => by go_simp; exact hK9) ?_
        (try simp only [Act.put, pq1, pq2, pq3])
        refine wpList_val (by rw [hO]; kernel_rfl) (.agg AC.toArray) (fun K9 hK9 => wp_load_mid _ _ rfl ab (af + j * 5) rfl AC _ (unhide HRG) Tryd.underlying35 rfl (unhide HIA) hK9) ?_
        (try simp only [Act.put, pq1, pq2, pq3])
        refine wpList_want (by rw [hO]; kernel_rfl) fun K9 hK9 => ?_
        go_simp
        refine hK9 _ _ ?_
        clear hK9 K9
        (try simp only [Act.put, pq1, pq2, pq3])
        skip
        refine wpList_store_row rfl 35 _ _ rfl wo.heap.size _ rfl rfl _ _ (unhide HZ1) (by rw [unhide HSA]; exact info_act) (by rw [unhide HSA, unhide HSZA]) (unhide HOA) ?_
        rw [← unhide HW1]
        rw [← unhide HP11]
        (try simp only [Act.put])
        go_upto_region 11 with fail
        refine region_named fun O hO => ?_
        refine wpList_val (by rw [hO]; kernel_rfl) (.pointer (some ⟨p11, 2, none⟩)) (fun K9 hK9 => by go_simp; exact hK9) ?_
        (try simp only [Act.put, pq1, pq2, pq3])
        refine wpList_val (by rw [hO]; kernel_rfl) (.int .u8 xi) (fun K9 hK9 => by go_simp; exact hK9) ?_
        (try simp only [Act.put, pq1, pq2, pq3])
        refine wpList_val (by rw [hO]; kernel_rfl) (.int .u8 yi) (fun K9 hK9 => by go_simp; exact hK9) ?_
        (try simp only [Act.put, pq1, pq2, pq3])
        refine wpList_built rfl 37 _ rfl (k.map bv).toArray (by simpa [Act.eval] using unhide HBK) ?_
        (try simp only [Act.put, pq1, pq2, pq3])
        refine wpList_want (by rw [hO]; kernel_rfl) fun K9 hK9 => ?_
        go_simp
        refine hK9 _ _ ?_
        clear hK9 K9
        (try simp only [Act.put, pq1, pq2, pq3])
        skip
        refine wpList_store_row rfl 37 _ _ rfl W1.heap.size _ rfl rfl _ _ (unhide HZ2) (by rw [unhide HSK]; exact info_key) (by rw [unhide HSK, unhide HSZK]) (all_oneCell_toArray (bv_one _)) ?_
        rw [← unhide HW2]
        rw [← unhide HP12]
        (try simp only [Act.put])
        go_upto_region 12 with fail
        go_quiet ((go_at_call 11; refine Calls.quiet_of_same (short8_min _ _ _ _ (by assumption))))
        have g3 : W2.grownBy (W2.drewN nq) none := gb_drewN (gb_refl _ _) _
        obtain ⟨w3, hw3⟩ : ∃ w3, w3 = W2.drewN nq := ⟨_, rfl⟩
        rw [← hw3] at g3 ⊢
        have G3 := tn G2 g3
        have hB3 := hB2.none g3
        have hR3 := hR2.kept g3 (by simp)
        have hL3 := hL2.none g3
        have hK3 := hK2.kept g3 (by simp)
        have cc0 := g3.cell cb0 (by simp)
        have cc1 := g3.cell cb1 (by simp)
        clear hw3 cb0 cb1 cb3 cb4 hB2 hR2 hL2 hK2 g3 G2 HRG HIA HSA HOA HBK HW1 HW2 HP11 HP12 HZ1 HZ2 HSZA HSZK hf3 hf4 ca2
        have HSKK := HSK
        have slK : ∀ W : World, (Instr.sliceAt 37 (.pointer (some ⟨p12, 0, none⟩)) none none none).run Tryd.prog W = .ok (.slice (some ⟨p12, 0, none⟩) 32 32) W := fun W => slice_whole5 37 5 32 Tryd.underlying37 size_byte p12 0 (by omega) W
        obtain ⟨SK, hSK⟩ : ∃ S, S = str k := ⟨_, rfl⟩
        obtain ⟨SB, hSB⟩ : ∃ S, S = str be := ⟨_, rfl⟩
        obtain ⟨ST, hST⟩ : ∃ S, S = str tx := ⟨_, rfl⟩
        have hcvK : ∀ V, Blk V p12 37 (k.map bv) → (convert 22 9 (.slice (some ⟨p12, 0, none⟩) 32 32)).run Tryd.prog V = .ok (.string SK) V := fun V hV => by
          have := conv_str (blk_bytes hV 32 (by omega) (by decide))
          rw [hkl] at this
          rw [hSK]; exact this
        have hcvB : ∀ V, w.grownBy V none → (convert 22 9 (.slice bo (sh200 q3) bc)).run Tryd.prog V = .ok (.string SB) V := fun V gV => by
          have := conv_str (hBe.old gV)
          rw [hbl] at this
          rw [hSB]; exact this
        have hcvT : ∀ V, w.grownBy V none → (convert 22 9 (.slice xo (sh200 q4) xc)).run Tryd.prog V = .ok (.string ST) V := fun V gV => by
          have := conv_str (hTx.old gV)
          rw [htl] at this
          rw [hST]; exact this
        have HI : Hid ((Tryd.prog.info? 37).map (·.size) = some (k.map bv).toArray.size) := hide (by rw [unhide HSK]; exact info_key)
        have HKL := hide hkl
        by_cases hkd : kd = 0
        · as_aux_lemma =>
          subst hkd
          obtain ⟨C, hCC⟩ : ∃ C, C = (B.seal k be tx).1 := ⟨_, rfl⟩
          obtain ⟨tO, htO⟩ : ∃ t, t = txtO (B.seal k be tx).2 := ⟨_, rfl⟩
          obtain ⟨eO, heO⟩ : ∃ t, t = errO (B.seal k be tx).2 := ⟨_, rfl⟩
          obtain ⟨nO, hnO⟩ : ∃ t, t = tO.length := ⟨_, rfl⟩
          obtain ⟨sO, hsO⟩ : ∃ t, t = str tO := ⟨_, rfl⟩
          have cse := P.sealed w3 bb bs bm B k be tx bo xo bc xc j G3 hB3 hpl hj16 hkl hBe hTx (by omega) (by omega)
          have crs := fun V v => P.rsealed V B v k be tx j hpl hj16 hkl (by omega) (by omega)
          have hplC := hpl.next k be tx hkl (by omega)
          rw [← hCC] at cse hplC
          simp only [← hCC, ← hSK, ← hSB, ← hST] at crs
          rw [← htO, ← heO, ← hnO, hbl, htl] at cse
          simp only [← htO, ← heO, ← hsO] at crs
          have hcvO : ∀ V so sc, BtT V so sc tO → (convert 22 9 (.slice so nO sc)).run Tryd.prog V = .ok (.string sO) V := fun V so sc h => by rw [hnO, hsO]; exact conv_str h.bts
          have HCV := hide hcvO
          have HCRS := hide crs
          clear hCC htO heO hnO hsO hcvO crs hSK hSB hST hBe hTx hbl htl cc1
          have hK3' := hK3
          obtain ⟨KL, hKL⟩ : ∃ L, L = k.map bv := ⟨_, rfl⟩
          rw [← hKL] at hK3 HI cse
          have hcvK' : ∀ V, Blk V p12 37 KL → (convert 22 9 (.slice (some ⟨p12, 0, none⟩) 32 32)).run Tryd.prog V = .ok (.string SK) V := fun V hV => hcvK V (by rw [← hKL]; exact hV)
          clear hcvK hK3' hKL
          go_upto_region 14 with fail
          refine region_named fun O hO => ?_
          refine wpList_val (by rw [hO]; kernel_rfl) (.pointer (some ⟨bb, 0, none⟩)) (fun K9 hK9 => by go_simp; exact hK9) ?_
          (try simp only [Act.put, pq1, pq2, pq3])
          refine wpList_val (by rw [hO]; kernel_rfl) (.agg KL.toArray) (fun K9 hK9 => wp_load_row _ _ rfl p12 rfl _ _ _ _ hK3 Tryd.underlying37 rfl (unhide HI) hK9) ?_
          (try simp only [Act.put, pq1, pq2, pq3])
          refine wpList_val (by rw [hO]; kernel_rfl) (.slice bo (sh200 q3) bc) (fun K9 hK9 => by go_simp; exact hK9) ?_
          (try simp only [Act.put, pq1, pq2, pq3])
          refine wpList_val (by rw [hO]; kernel_rfl) (.slice xo (sh200 q4) xc) (fun K9 hK9 => by go_simp; exact hK9) ?_
          (try simp only [Act.put, pq1, pq2, pq3])
          refine wpList_want (by rw [hO]; kernel_rfl) fun K9 hK9 => ?_
          go_simp
          go_at_call 12
          refine (cse).mono ?_
          rintro e w4 ⟨⟨so, sc, rfl, hX4⟩, hB4, b4, G4⟩
          have hR4 := hR3.by3 b4 (blk_ne hR3 hB3.blk (by decide)) (blk_ne hR3 hB3.src.blk (by decide)) (fun e => hB3.map.blk hR3 e.symm)
          have hK4 := hK3.by3 b4 (blk_ne hK3 hB3.blk (by decide)) (blk_ne hK3 hB3.src.blk (by decide)) (fun e => hB3.map.blk hK3 e.symm)
          have hL4 := hL3.by3 hB3 b4
          clear cse hB3 hR3 hK3 hL3 b4
          refine hK9 _ _ ?_
          clear hK9 K9
          (try simp only [Act.put, pq1, pq2, pq3])
          refine wpList_val (by rw [hO]; kernel_rfl) (.tuple #[.slice so nO sc, .int .i64 eO]) (fun K9 hK9 => by go_simp; exact hK9) ?_
          (try simp only [Act.put, pq1, pq2, pq3])
          refine wpList_val (by rw [hO]; kernel_rfl) (.slice so nO sc) (fun K9 hK9 => by go_simp; exact hK9) ?_
          (try simp only [Act.put, pq1, pq2, pq3])
          refine wpList_val (by rw [hO]; kernel_rfl) (.int .i64 eO) (fun K9 hK9 => by go_simp; exact hK9) ?_
          (try simp only [Act.put, pq1, pq2, pq3])
          refine wpList_val (by rw [hO]; kernel_rfl) (.slice so nO sc) (fun K9 hK9 => by go_simp; exact hK9) ?_
          (try simp only [Act.put, pq1, pq2, pq3])
          refine wpList_val (by rw [hO]; kernel_rfl) (.int .i64 eO) (fun K9 hK9 => by go_simp; exact hK9) ?_
          (try simp only [Act.put, pq1, pq2, pq3])
          go_upto_region 15 with fail
          have hRd := hR4.whole
          have hir : (Tryd.prog.info? 33).map (·.size) = some (rbC (m : Int) F B.u v).length := info_rbox
          have hcK : ∀ V, w4.grownBy V none → (convert 22 9 (.slice (some ⟨p12, 0, none⟩) 32 32)).run Tryd.prog V = .ok (.string SK) V := fun V gV => hcvK' V (hK4.kept gV (by simp))
          have hcB : ∀ V, w4.grownBy V none → (convert 22 9 (.slice bo (sh200 q3) bc)).run Tryd.prog V = .ok (.string SB) V := fun V gV => hcvB V (tn G4 gV)
          have hcT : ∀ V, w4.grownBy V none → (convert 22 9 (.slice xo (sh200 q4) xc)).run Tryd.prog V = .ok (.string ST) V := fun V gV => hcvT V (tn G4 gV)
          obtain ⟨RC, hRC⟩ : ∃ R, R = rbC (m : Int) F B.u v := ⟨_, rfl⟩
          have crs2 : ∀ V, w4.grownBy V none → Calls Tryd.prog 13 #[.agg RC.toArray, .string SK, .string SB, .string ST] V fun e w' => ∃ v', e = .returned (.tuple #[.agg (rbC (m : Int) F C.u v').toArray, .string sO, .int .i64 eO]) ∧ Rl w' w.heap.size v' C.L ∧ V.grownBy w' none := fun V gV => by rw [hRC]; exact unhide HCRS V v (tn G4 gV) (hL4.none gV)
          rw [← hRC] at hRd hir hR4
          have hsR : RC.toArray.size = 4 := by rw [hRC]; rfl
          have h0 : w4.grownBy w4.drew none := gb_drew (gb_refl _ _)
          have HSR := hide hsR
          clear hRC HCRS hcvB hcvT hL4 hsR
          go_cut [17, 18, 19] (fun x17 x18 x19 wx => ∃ (p : Nat) (v' : Value), x17 = .pointer (some ⟨p, 0, none⟩) ∧ x18 = .string sO ∧ x19 = .int .i64 eO ∧ w4.heap.size ≤ p ∧ Blk wx p 33 (rbC (m : Int) F C.u v') ∧ Rl wx w.heap.size v' C.L ∧ w4.grownBy wx none)
          case first =>
            refine wp_region_noPanic ?_
            refine wp_region_held_drew (S := fun V => w4.grownBy V none) (by kernel_rfl) h0 (fun _ => ?_)
            refine wpAnyH_take (i := 0) (oi := { dst := some 93, op := Op.load 33 (Operand.tmp 9), type := _, pos := _, after := _, guard := _ }) (v := .agg RC.toArray) rfl (by kernel_rfl) (by kernel_rfl) (by kernel_rfl) (fun _ _ _ h => h) (yieldsIf_load_mid (by rfl) _ _ rfl _ _ rfl RC _ (fun V hV => range_kept hRd hV (by simp)) Tryd.underlying33 rfl hir) h0 ?_
            (try simp only [Act.put, pq1, pq2, pq3])
            refine wpAnyH_take (i := 1) (oi := { dst := some 94, op := Op.slice 37 (Operand.tmp 12) none none none, type := _, pos := _, after := _, guard := _ }) (v := .slice (some ⟨p12, 0, none⟩) 32 32) rfl (by kernel_rfl) (by kernel_rfl) (by kernel_rfl) (fun _ _ _ h => h) (Or.inl ⟨by rfl, fun V (hV : w4.grownBy V none) => by go_simp⟩) h0 ?_
            (try simp only [Act.put, pq1, pq2, pq3])
            refine wpAnyH_take (i := 2) (oi := { dst := some 95, op := Op.convert 22 9 (Operand.tmp 94), type := _, pos := _, after := _, guard := _ }) (v := .string SK) rfl (by kernel_rfl) (by kernel_rfl) (by kernel_rfl) (fun _ _ _ h => h) (Or.inl ⟨by rfl, fun V (hV : w4.grownBy V none) => by (have hv9 := hcK V hV; go_simp)⟩) h0 ?_
            (try simp only [Act.put, pq1, pq2, pq3])
            refine wpAnyH_take (i := 3) (oi := { dst := some 96, op := Op.move (Operand.tmp 13), type := _, pos := _, after := _, guard := _ }) (v := .slice bo (sh200 q3) bc) rfl (by kernel_rfl) (by kernel_rfl) (by kernel_rfl) (fun _ _ _ h => h) (Or.inl ⟨by rfl, fun V (hV : w4.grownBy V none) => by go_simp⟩) h0 ?_
            (try simp only [Act.put, pq1, pq2, pq3])
            refine wpAnyH_take (i := 4) (oi := { dst := some 97, op := Op.convert 22 9 (Operand.tmp 96), type := _, pos := _, after := _, guard := _ }) (v := .string SB) rfl (by kernel_rfl) (by kernel_rfl) (by kernel_rfl) (fun _ _ _ h => h) (Or.inl ⟨by rfl, fun V (hV : w4.grownBy V none) => by (have hv9 := hcB V hV; go_simp)⟩) h0 ?_
            (try simp only [Act.put, pq1, pq2, pq3])
            refine wpAnyH_take (i := 5) (oi := { dst := some 98, op := Op.move (Operand.tmp 14), type := _, pos := _, after := _, guard := _ }) (v := .slice xo (sh200 q4) xc) rfl (by kernel_rfl) (by kernel_rfl) (by kernel_rfl) (fun _ _ _ h => h) (Or.inl ⟨by rfl, fun V (hV : w4.grownBy V none) => by go_simp⟩) h0 ?_
            (try simp only [Act.put, pq1, pq2, pq3])
            refine wpAnyH_take (i := 6) (oi := { dst := some 99, op := Op.convert 22 9 (Operand.tmp 98), type := _, pos := _, after := _, guard := _ }) (v := .string ST) rfl (by kernel_rfl) (by kernel_rfl) (by kernel_rfl) (fun _ _ _ h => h) (Or.inl ⟨by rfl, fun V (hV : w4.grownBy V none) => by (have hv9 := hcT V hV; go_simp)⟩) h0 ?_
            (try simp only [Act.put, pq1, pq2, pq3])
            refine wpAnyH_ready (rs := [7, 12]) (by kernel_rfl) (by simp) ?_
            refine AllReadyH.cons (o := { dst := some 100, op := Op.call { callee := Callee.value (Operand.func 13), args := #[(Operand.tmp 93), (Operand.tmp 95), (Operand.tmp 97), (Operand.tmp 99)], argTypes := #[33, 9, 9, 9] }, type := _, pos := _, after := _, guard := _ }) rfl (fun K9 hK9 => ?_) (AllReadyH.cons (o := { dst := some 17, op := Op.alloc 33, type := _, pos := _, after := _, guard := _ }) rfl (fun K9 hK9 => ?_) AllReadyH.nil)
            · go_simp
              go_at_call 13
              refine (crs2 _ h0).mono ?_
              rintro e w5 ⟨v5, rfl, hL5, gd⟩
              go_wp2_with fail
              refine hK9.out _ _ (tn h0 gd) (fun _ => ?_)
              clear hK9 K9
              (try simp only [Act.put, pq1, pq2, pq3])
              have h5 := tn h0 gd
              refine wpAnyH_take (i := 8) (oi := { dst := some 92, op := Op.move (Operand.tmp 100), type := _, pos := _, after := _, guard := _ }) (v := .tuple #[.agg (rbC (m : Int) F C.u v5).toArray, .string sO, .int .i64 eO]) rfl (by kernel_rfl) (by kernel_rfl) (by kernel_rfl) (fun _ _ _ h => h) (Or.inl ⟨by rfl, fun V (hV : w4.grownBy V none) => by go_simp⟩) h5 ?_
              (try simp only [Act.put, pq1, pq2, pq3])
              refine wpAnyH_take (i := 9) (oi := { dst := some 101, op := Op.extract (Operand.tmp 92) 0, type := _, pos := _, after := _, guard := _ }) (v := .agg (rbC (m : Int) F C.u v5).toArray) rfl (by kernel_rfl) (by kernel_rfl) (by kernel_rfl) (fun _ _ _ h => h) (Or.inl ⟨by rfl, fun V (hV : w4.grownBy V none) => by go_simp⟩) h5 ?_
              (try simp only [Act.put, pq1, pq2, pq3])
              refine wpAnyH_take (i := 10) (oi := { dst := some 102, op := Op.extract (Operand.tmp 92) 1, type := _, pos := _, after := _, guard := _ }) (v := .string sO) rfl (by kernel_rfl) (by kernel_rfl) (by kernel_rfl) (fun _ _ _ h => h) (Or.inl ⟨by rfl, fun V (hV : w4.grownBy V none) => by go_simp⟩) h5 ?_
              (try simp only [Act.put, pq1, pq2, pq3])
              refine wpAnyH_take (i := 11) (oi := { dst := some 103, op := Op.extract (Operand.tmp 92) 2, type := _, pos := _, after := _, guard := _ }) (v := .int .i64 eO) rfl (by kernel_rfl) (by kernel_rfl) (by kernel_rfl) (fun _ _ _ h => h) (Or.inl ⟨by rfl, fun V (hV : w4.grownBy V none) => by go_simp⟩) h5 ?_
              (try simp only [Act.put, pq1, pq2, pq3])
              refine wpAnyH_ready (rs := [12]) (by kernel_rfl) (by simp) ?_
              refine AllReadyH.cons (o := { dst := some 17, op := Op.alloc 33, type := _, pos := _, after := _, guard := _ }) rfl (fun K9 hK9 => ?_) AllReadyH.nil
              go_simp
              refine hK9.out _ _ (gb_alloc h5 _) (fun _ => ?_)
              clear hK9 K9
              (try simp only [Act.put, pq1, pq2, pq3])
              have hN5 : Blk (w5.alloc (.cells Z.toArray 33)) w5.heap.size 33 Z := Blk.new w5 _ Z
              have gN5 := gb_alloc h5 (.cells Z.toArray 33)
              have hLN := hL5.none (World.grownBy_alloc w5 (.cells Z.toArray 33) none)
              have hle5 : w4.heap.size ≤ w5.heap.size := h5.size
              have hs5 : (rbC (m : Int) F C.u v5).toArray.size = 4 := rfl
              have ho5 : (rbC (m : Int) F C.u v5).toArray.all (·.oneCell') = true := rbC_one _ _ _ hLN.one
              refine wpAnyH_ready (rs := [13]) (by kernel_rfl) (by simp) ?_
              refine AllReadyH.cons (o := { dst := none, op := Op.store 33 (Operand.tmp 17) (Operand.tmp 101), type := _, pos := _, after := _, guard := _ }) rfl (fun K9 hK9 => ?_) AllReadyH.nil
              rw [if_pos (by rfl)]
              refine wp_store_row _ _ _ rfl (w5.heap.size) _ rfl rfl _ _ hN5 (by rw [hs5]; exact info_rbox) (by rw [hs5, unhide HSZ]) ho5 ?_
              refine hK9.out _ _ (gb_row gN5 _ (Or.inl hle5)) (fun _ => ?_)
              clear hK9 K9
              (try simp only [Act.put])
              refine wpAnyH_take (i := 14) (oi := { dst := some 18, op := Op.assign (Operand.tmp 102), type := _, pos := _, after := _, guard := _ }) (v := .string sO) rfl (by kernel_rfl) (by kernel_rfl) (by kernel_rfl) (fun _ _ _ h => h) (Or.inl ⟨by rfl, fun V (hV : w4.grownBy V none) => by go_simp⟩) (gb_row gN5 _ (Or.inl hle5)) ?_
              (try simp only [Act.put, pq1, pq2, pq3])
              refine wpAnyH_take (i := 15) (oi := { dst := some 19, op := Op.assign (Operand.tmp 103), type := _, pos := _, after := _, guard := _ }) (v := .int .i64 eO) rfl (by kernel_rfl) (by kernel_rfl) (by kernel_rfl) (fun _ _ _ h => h) (Or.inl ⟨by rfl, fun V (hV : w4.grownBy V none) => by go_simp⟩) (gb_row gN5 _ (Or.inl hle5)) ?_
              (try simp only [Act.put, pq1, pq2, pq3])
              refine wpAnyH_done (by kernel_rfl) ?_ _
              refine NoPanic.normal ?_
              have hfB := Blk.row (hN5) (rbC (m : Int) F C.u v5)
              have hfL := Rl.rw9 hLN hN5 (rbC (m : Int) F C.u v5).toArray
              have hfG := gb_row gN5 (rbC (m : Int) F C.u v5).toArray (Or.inl hle5)
              have HFB := hide hfB
              have HFL := hide hfL
              have HFG := hide hfG
              clear hfB hfL hfG
              go_wp2
              go_meet
              case rel => exact ⟨_, v5, rfl, rfl, rfl, hle5, unhide HFB, unhide HFL, unhide HFG⟩
            · go_simp
              refine hK9.out _ _ (gb_alloc h0 _) (fun _ => ?_)
              clear hK9 K9
              (try simp only [Act.put, pq1, pq2, pq3])
              have hN4 : Blk (w4.drew.alloc (.cells Z.toArray 33)) w4.heap.size 33 Z := Blk.new w4.drew _ Z
              have gN4 := gb_alloc h0 (.cells Z.toArray 33)
              obtain ⟨W5, hW5⟩ : ∃ W, W = w4.drew.alloc (.cells Z.toArray 33) := ⟨_, rfl⟩
              rw [show (w4.alloc (.cells Z.toArray 33)).drew = W5 by rw [hW5]; rfl]
              rw [← hW5] at hN4 gN4
              clear hW5
              refine wpAnyH_ready (rs := [7]) (by kernel_rfl) (by simp) ?_
              refine AllReadyH.cons (o := { dst := some 100, op := Op.call { callee := Callee.value (Operand.func 13), args := #[(Operand.tmp 93), (Operand.tmp 95), (Operand.tmp 97), (Operand.tmp 99)], argTypes := #[33, 9, 9, 9] }, type := _, pos := _, after := _, guard := _ }) rfl (fun K9 hK9 => ?_) AllReadyH.nil
              go_simp
              go_at_call 13
              refine (crs2 _ gN4).mono ?_
              rintro e w5 ⟨v5, rfl, hL5, gd⟩
              go_wp2_with fail
              refine hK9.out _ _ (tn gN4 gd) (fun _ => ?_)
              clear hK9 K9
              (try simp only [Act.put, pq1, pq2, pq3])
              have h5 := tn gN4 gd
              have hN5 := hN4.kept gd (by simp)
              have hle5 : w4.heap.size ≤ w4.heap.size := Nat.le_refl _
              refine wpAnyH_take (i := 8) (oi := { dst := some 92, op := Op.move (Operand.tmp 100), type := _, pos := _, after := _, guard := _ }) (v := .tuple #[.agg (rbC (m : Int) F C.u v5).toArray, .string sO, .int .i64 eO]) rfl (by kernel_rfl) (by kernel_rfl) (by kernel_rfl) (fun _ _ _ h => h) (Or.inl ⟨by rfl, fun V (hV : w4.grownBy V none) => by go_simp⟩) h5 ?_
              (try simp only [Act.put, pq1, pq2, pq3])
              refine wpAnyH_take (i := 9) (oi := { dst := some 101, op := Op.extract (Operand.tmp 92) 0, type := _, pos := _, after := _, guard := _ }) (v := .agg (rbC (m : Int) F C.u v5).toArray) rfl (by kernel_rfl) (by kernel_rfl) (by kernel_rfl) (fun _ _ _ h => h) (Or.inl ⟨by rfl, fun V (hV : w4.grownBy V none) => by go_simp⟩) h5 ?_
              (try simp only [Act.put, pq1, pq2, pq3])
              refine wpAnyH_take (i := 10) (oi := { dst := some 102, op := Op.extract (Operand.tmp 92) 1, type := _, pos := _, after := _, guard := _ }) (v := .string sO) rfl (by kernel_rfl) (by kernel_rfl) (by kernel_rfl) (fun _ _ _ h => h) (Or.inl ⟨by rfl, fun V (hV : w4.grownBy V none) => by go_simp⟩) h5 ?_
              (try simp only [Act.put, pq1, pq2, pq3])
              refine wpAnyH_take (i := 11) (oi := { dst := some 103, op := Op.extract (Operand.tmp 92) 2, type := _, pos := _, after := _, guard := _ }) (v := .int .i64 eO) rfl (by kernel_rfl) (by kernel_rfl) (by kernel_rfl) (fun _ _ _ h => h) (Or.inl ⟨by rfl, fun V (hV : w4.grownBy V none) => by go_simp⟩) h5 ?_
              (try simp only [Act.put, pq1, pq2, pq3])
              have hs5 : (rbC (m : Int) F C.u v5).toArray.size = 4 := rfl
              have ho5 : (rbC (m : Int) F C.u v5).toArray.all (·.oneCell') = true := rbC_one _ _ _ hL5.one
              refine wpAnyH_ready (rs := [13]) (by kernel_rfl) (by simp) ?_
              refine AllReadyH.cons (o := { dst := none, op := Op.store 33 (Operand.tmp 17) (Operand.tmp 101), type := _, pos := _, after := _, guard := _ }) rfl (fun K9 hK9 => ?_) AllReadyH.nil
              rw [if_pos (by rfl)]
              refine wp_store_row _ _ _ rfl (w4.heap.size) _ rfl rfl _ _ hN5 (by rw [hs5]; exact info_rbox) (by rw [hs5, unhide HSZ]) ho5 ?_
              refine hK9.out _ _ (gb_row h5 _ (Or.inl hle5)) (fun _ => ?_)
              clear hK9 K9
              (try simp only [Act.put])
              refine wpAnyH_take (i := 14) (oi := { dst := some 18, op := Op.assign (Operand.tmp 102), type := _, pos := _, after := _, guard := _ }) (v := .string sO) rfl (by kernel_rfl) (by kernel_rfl) (by kernel_rfl) (fun _ _ _ h => h) (Or.inl ⟨by rfl, fun V (hV : w4.grownBy V none) => by go_simp⟩) (gb_row h5 _ (Or.inl hle5)) ?_
              (try simp only [Act.put, pq1, pq2, pq3])
              refine wpAnyH_take (i := 15) (oi := { dst := some 19, op := Op.assign (Operand.tmp 103), type := _, pos := _, after := _, guard := _ }) (v := .int .i64 eO) rfl (by kernel_rfl) (by kernel_rfl) (by kernel_rfl) (fun _ _ _ h => h) (Or.inl ⟨by rfl, fun V (hV : w4.grownBy V none) => by go_simp⟩) (gb_row h5 _ (Or.inl hle5)) ?_
              (try simp only [Act.put, pq1, pq2, pq3])
              refine wpAnyH_done (by kernel_rfl) ?_ _
              refine NoPanic.normal ?_
              have hfB := Blk.row (hN5) (rbC (m : Int) F C.u v5)
              have hfL := Rl.rw9 hL5 hN5 (rbC (m : Int) F C.u v5).toArray
              have hfG := gb_row h5 (rbC (m : Int) F C.u v5).toArray (Or.inl hle5)
              have HFB := hide hfB
              have HFL := hide hfL
              have HFG := hide hfG
              clear hfB hfL hfG
              go_wp2
              go_meet
              case rel => exact ⟨_, v5, rfl, rfl, rfl, hle5, unhide HFB, unhide HFL, unhide HFG⟩
          case rest =>
            obtain ⟨p17, v', rfl, rfl, rfl, hp17, hQ5, hL5, g5⟩ := hcut
            obtain ⟨w5, rfl⟩ : ∃ w5, w5 = wc := ⟨_, rfl⟩
            have hX5 := hX4.none g5
            have hB5 := hB4.none g5
            have hR5 := hR4.kept g5 (by simp)
            have G5 := tn G4 g5
            have hne : p17 ≠ p9 := by have := hR4.lt; omega
            obtain ⟨QC, hQC⟩ : ∃ Q, Q = rbC (m : Int) F C.u v' := ⟨_, rfl⟩
            have hsQ : QC.toArray.size = 4 := by rw [hQC]; rfl
            have hoQ : QC.toArray.all (·.oneCell') = true := by rw [hQC]; exact rbC_one _ _ _ hL5.one
            rw [← hQC] at hQ5
            have HSQ := hide hsQ
            have HOQ := hide hoQ
            clear hRd hir hcK hcB hcT crs2 h0 hX4 hB4 hR4 G4 g5 hp17 hsQ hoQ hK4
            go_upto_region 16 with fail
            refine region_named fun O hO => ?_
            refine wpList_val (by rw [hO]; kernel_rfl) (.slice so nO sc) (fun K9 hK9 => by go_simp; exact hK9) ?_
            (try simp only [Act.put, pq1, pq2, pq3])
            refine wpList_val (by rw [hO]; kernel_rfl) (.string sO) (fun K9 hK9 => by (have hv9 := unhide HCV w5 so sc hX5; go_simp); exact hK9) ?_
            (try simp only [Act.put, pq1, pq2, pq3])
            refine wpList_val (by rw [hO]; kernel_rfl) (.string sO) (fun K9 hK9 => by go_simp; exact hK9) ?_
            (try simp only [Act.put, pq1, pq2, pq3])
            refine wpList_val (by rw [hO]; kernel_rfl) (.bool false) (fun K9 hK9 => by go_simp; exact hK9) ?_
            (try simp only [Act.put, pq1, pq2, pq3])
            refine wpList_val (by rw [hO]; kernel_rfl) (.bool false) (fun K9 hK9 => by go_simp; exact hK9) ?_
            (try simp only [Act.put, pq1, pq2, pq3])
            refine wpList_val (by rw [hO]; kernel_rfl) (.int .i64 eO) (fun K9 hK9 => by go_simp; exact hK9) ?_
            (try simp only [Act.put, pq1, pq2, pq3])
            refine wpList_val (by rw [hO]; kernel_rfl) (.int .i64 eO) (fun K9 hK9 => by go_simp; exact hK9) ?_
            (try simp only [Act.put, pq1, pq2, pq3])
            refine wpList_val (by rw [hO]; kernel_rfl) (.bool false) (fun K9 hK9 => by go_simp; exact hK9) ?_
            (try simp only [Act.put, pq1, pq2, pq3])
            refine wpList_val (by rw [hO]; kernel_rfl) (.bool false) (fun K9 hK9 => by go_simp; exact hK9) ?_
            (try simp only [Act.put, pq1, pq2, pq3])
            go_upto_region 18 with fail
            refine region_named fun O hO => ?_
            refine wpList_val (by rw [hO]; kernel_rfl) (.agg QC.toArray) (fun K9 hK9 => wp_load_row _ _ rfl p17 rfl _ _ _ _ hQ5 Tryd.underlying33 rfl (by rw [unhide HSQ]; exact info_rbox) hK9) ?_
            (try simp only [Act.put, pq1, pq2, pq3])
            refine wpList_store_row rfl 33 _ _ rfl p9 _ rfl rfl _ _ hR5 (by rw [unhide HSQ]; exact info_rbox) (by rw [unhide HSQ, unhide HSR]) (unhide HOQ) ?_
            have hR9 := hR5.row QC
            have hB9 := hB5.rw9 hR5 QC.toArray
            have hL9 := hL5.rw9 hR5 QC.toArray
            have G9 := gb_row G5 QC.toArray (Or.inl hwp9)
            obtain ⟨w9, hw9⟩ : ∃ w9, w9 = w5.setRow p9 QC.toArray := ⟨_, rfl⟩
            rw [← hw9] at hR9 hB9 hL9 G9 ⊢
            clear hw9
            (try simp only [Act.put])
            rw [hQC] at hR9
            clear hQC HSQ HOQ hQ5 hX5 hB5 hR5 G5 hne HSR hL5
            obtain ⟨lo, lc, rfl, _⟩ := hL9.form
            obtain ⟨n9, hn9⟩ : ∃ n, n = C.L.length := ⟨_, rfl⟩
            have cnt := fun V hV => count_any V w bb bs bm C hV
            have cmd := fun V hV => mode_any V w bb bs bm C hV
            have hmo := hplC.mode
            rw [← hn9] at hR9 hL9
            simp only [← hn9] at cnt
            simp only [hmo] at cmd
            have HN9 := hide hn9
            have c93 : w9.cell? ⟨p9, 3, none⟩ = some (.slice lo n9 lc) := by rw [hR9.cell]; rfl
            clear hn9 hmo
            go_upto_region 26 with fail
            have h09 : w9.grownBy w9.drew none := gb_drew (gb_refl _ _)
            have hB9d := hB9.none h09
            refine wp_region_noPanic ?_
            refine wp_region_held_drew (S := fun V => w9.grownBy V none) (by kernel_rfl) h09 (fun _ => ?_)
            refine wpAnyH_take (i := 0) (oi := { dst := some 174, op := Op.move (Operand.tmp 7), type := _, pos := _, after := _, guard := _ }) (v := .pointer (some ⟨bb, 0, none⟩)) rfl (by kernel_rfl) (by kernel_rfl) (by kernel_rfl) (fun _ _ _ h => h) (Or.inl ⟨by rfl, fun V (hV : w9.grownBy V none) => by go_simp⟩) h09 ?_
            (try simp only [Act.put, pq1, pq2, pq3])
            refine wpAnyH_take (i := 2) (oi := { dst := some 176, op := Op.fieldAddr 33 (Operand.tmp 9) 3, type := _, pos := _, after := _, guard := _ }) (v := .pointer (some ⟨p9, 3, none⟩)) rfl (by kernel_rfl) (by kernel_rfl) (by kernel_rfl) (fun _ _ _ h => h) (Or.inl ⟨by rfl, fun V (hV : w9.grownBy V none) => by go_simp⟩) h09 ?_
            (try simp only [Act.put, pq1, pq2, pq3])
            refine wpAnyH_take (i := 3) (oi := { dst := some 177, op := Op.load 31 (Operand.tmp 176), type := _, pos := _, after := _, guard := _ }) (v := .slice lo n9 lc) rfl (by kernel_rfl) (by kernel_rfl) (by kernel_rfl) (fun _ _ _ h => h) (Or.inl ⟨by rfl, fun V (hV : w9.grownBy V none) => by (have hv1 := hV.cell c93 (by simp); go_simp)⟩) h09 ?_
            (try simp only [Act.put, pq1, pq2, pq3])
            refine wpAnyH_take (i := 4) (oi := { dst := some 178, op := Op.call { callee := Callee.builtin Builtin.len, args := #[(Operand.tmp 177)], argTypes := #[31] }, type := _, pos := _, after := _, guard := _ }) (v := .int .i64 (n9 : Int)) rfl (by kernel_rfl) (by kernel_rfl) (by kernel_rfl) (fun _ _ _ h => h) (Or.inl ⟨by rfl, fun V (hV : w9.grownBy V none) => by go_simp⟩) h09 ?_
            (try simp only [Act.put, pq1, pq2, pq3])
            refine wpAnyH_ready (rs := [1]) (by kernel_rfl) (by simp) ?_
            refine AllReadyH.cons (o := { dst := some 175, op := Op.call { callee := Callee.value (Operand.func 18), args := #[(Operand.tmp 174)], argTypes := #[24] }, type := _, pos := _, after := _, guard := _ }) rfl (fun K9 hK9 => ?_) AllReadyH.nil
            go_simp
            go_at_call 18
            refine (cnt _ hB9d).mono ?_
            rintro e wq ⟨rfl, rfl⟩
            go_wp2_with fail
            refine hK9.out _ _ h09 (fun _ => ?_)
            clear hK9 K9
            (try simp only [Act.put, pq1, pq2, pq3])
            refine wpAnyH_take (i := 5) (oi := { dst := some 179, op := Op.binOp BinOp.neq 3 (Operand.tmp 175) (Operand.tmp 178) 3, type := _, pos := _, after := _, guard := _ }) (v := .bool false) rfl (by kernel_rfl) (by kernel_rfl) (by kernel_rfl) (fun _ _ _ h => h) (Or.inl ⟨by rfl, fun V (hV : w9.grownBy V none) => by go_simp⟩) h09 ?_
            (try simp only [Act.put, pq1, pq2, pq3])
            refine wpAnyH_take (i := 6) (oi := { dst := some 180, op := Op.move (Operand.tmp 179), type := _, pos := _, after := _, guard := _ }) (v := .bool false) rfl (by kernel_rfl) (by kernel_rfl) (by kernel_rfl) (fun _ _ _ h => h) (Or.inl ⟨by rfl, fun V (hV : w9.grownBy V none) => by go_simp⟩) h09 ?_
            (try simp only [Act.put, pq1, pq2, pq3])
            refine wpAnyH_take (i := 7) (oi := { dst := some 181, op := Op.move (Operand.tmp 7), type := _, pos := _, after := _, guard := _ }) (v := .pointer (some ⟨bb, 0, none⟩)) rfl (by kernel_rfl) (by kernel_rfl) (by kernel_rfl) (fun _ _ _ h => h) (Or.inl ⟨by rfl, fun V (hV : w9.grownBy V none) => by go_simp⟩) h09 ?_
            (try simp only [Act.put, pq1, pq2, pq3])
            refine wpAnyH_take (i := 9) (oi := { dst := some 183, op := Op.move (Operand.tmp 0), type := _, pos := _, after := _, guard := _ }) (v := .int .i64 (m : Int)) rfl (by kernel_rfl) (by kernel_rfl) (by kernel_rfl) (fun _ _ _ h => h) (Or.inl ⟨by rfl, fun V (hV : w9.grownBy V none) => by go_simp⟩) h09 ?_
            (try simp only [Act.put, pq1, pq2, pq3])
            refine wpAnyH_ready (rs := [8]) (by kernel_rfl) (by simp) ?_
            refine AllReadyH.cons (o := { dst := some 182, op := Op.call { callee := Callee.value (Operand.func 19), args := #[(Operand.tmp 181)], argTypes := #[24] }, type := _, pos := _, after := _, guard := _ }) rfl (fun K9 hK9 => ?_) AllReadyH.nil
            go_simp
            go_at_call 19
            refine (cmd _ hB9d).mono ?_
            rintro e wq ⟨rfl, rfl⟩
            go_wp2_with fail
            refine hK9.out _ _ h09 (fun _ => ?_)
            clear hK9 K9
            (try simp only [Act.put, pq1, pq2, pq3])
            refine wpAnyH_take (i := 10) (oi := { dst := some 184, op := Op.binOp BinOp.neq 3 (Operand.tmp 182) (Operand.tmp 183) 3, type := _, pos := _, after := _, guard := _ }) (v := .bool false) rfl (by kernel_rfl) (by kernel_rfl) (by kernel_rfl) (fun _ _ _ h => h) (Or.inl ⟨by rfl, fun V (hV : w9.grownBy V none) => by go_simp⟩) h09 ?_
            (try simp only [Act.put, pq1, pq2, pq3])
            refine wpAnyH_take (i := 11) (oi := { dst := some 185, op := Op.pick (Operand.tmp 180) (Operand.const (Value.bool true)) (Operand.tmp 184), type := _, pos := _, after := _, guard := _ }) (v := .bool false) rfl (by kernel_rfl) (by kernel_rfl) (by kernel_rfl) (fun _ _ _ h => h) (Or.inl ⟨by rfl, fun V (hV : w9.grownBy V none) => by go_simp⟩) h09 ?_
            (try simp only [Act.put, pq1, pq2, pq3])
            refine wpAnyH_done (by kernel_rfl) ?_ _
            refine NoPanic.normal ?_
            have gq := h09
            clear hB9d
            go_wp2
            go_roundw
            case rel => exact ⟨j + 1, C, _, by omega, by go_num, hB9.none gq, hR9.kept gq (by simp), hL9.none gq, hplC, tn G9 gq⟩
            case measure => simp [intOf]; omega
        · have hkd' : (kd == 0) = false := by simpa using hkd
          obtain ⟨lo, lc, rfl, hlo⟩ := hL3.form
          obtain ⟨nL, hnL⟩ : ∃ n, n = B.L.length := ⟨_, rfl⟩
          rw [← hnL] at hR3 hL3 hlo
          have hplO := hpl
          have c93 : w3.cell? ⟨p9, 3, none⟩ = some (.slice lo nL lc) := by rw [hR3.cell]; rfl
          obtain ⟨KL, hKL⟩ : ∃ L, L = k.map bv := ⟨_, rfl⟩
          have hcvK' : ∀ V, Blk V p12 37 KL → (convert 22 9 (.slice (some ⟨p12, 0, none⟩) 32 32)).run Tryd.prog V = .ok (.string SK) V := fun V hV => hcvK V (by rw [← hKL]; exact hV)
          have rest : ∀ V io ic (y : List UInt8), w.grownBy V none → BoxAt w V bb bs bm B → Rl V w.heap.size (.slice lo nL lc) B.L → Bts V io ic y → y.length ≤ 300 → OpenC V bb (rbC (m : Int) F B.u (.slice lo nL lc)) KL (.slice bo (sh200 q3) bc) (.slice io y.length ic) SK SB (str y) := fun V io ic y gV hV hLV hy hyl => by
            have := P.opened V bb bs bm B (.slice lo nL lc) k be y bo io bc ic j gV hV hpl hj16 hLV hkl hBe hy (by omega) hyl
            rw [hbl, ← hKL, ← hSK, ← hSB] at this
            exact this
          have cnt := fun V hV => count_any V w bb bs bm B hV
          have cmd := fun V hV => mode_any V w bb bs bm B hV
          have hmo := hpl.mode
          simp only [← hnL] at cnt
          simp only [hmo] at cmd
          rw [← hKL] at hK3 HI
          have hTL := htl
          have HRT := hide rest
          have HCN := hide cnt
          have HCM := hide cmd
          have HNL := hide hnL
          clear rest cnt cmd hnL hcvK hKL hSK hSB hbl hmo hBe
          go_upto_region 19 with fail
          by_cases hin : 0 ≤ N ∧ 0 < nL
          · as_aux_lemma =>
            obtain ⟨i3, hi3⟩ : ∃ i3 : Nat, (i3 : Int) = N % (nL : Int) := ⟨(N % (nL : Int)).toNat, by have := Int.emod_nonneg N (show (nL : Int) ≠ 0 by omega); omega⟩
            have hi3l : i3 < nL := by have := Int.emod_lt_of_pos N (show (0 : Int) < (nL : Int) by omega); omega
            obtain ⟨g, rfl⟩ := hlo hin.2
            have hiL : i3 < B.L.length := by have := unhide HNL; omega
            have hce := hL3.cell i3 0 hiL (by omega)
            obtain ⟨en, hen⟩ : ∃ en, en = B.L[i3] := ⟨_, rfl⟩
            rw [← hen] at hce
            have hel : en.s.length ≤ 300 := by rw [hen]; exact hpl.len _ (List.getElem_mem hiL)
            obtain ⟨SY, hSY⟩ : ∃ S, S = str en.s := ⟨_, rfl⟩
            have hce' : w3.cell? ⟨g, i3 * 4, none⟩ = some (.string SY) := by rw [hSY]; exact hce
            have hN0 : (0 : Int) ≤ N := hin.1
            have hnLi : (0 : Int) < (nL : Int) := by omega
            have hi3i : (i3 : Int) < (nL : Int) := by omega
            have hi30 : (0 : Int) ≤ (i3 : Int) := by omega
            have hrem : N.tmod (nL : Int) = (i3 : Int) := by rw [Int.tmod_eq_emod_of_nonneg hN0, hi3]
            have hrem2 : N % (nL : Int) = (i3 : Int) := hi3.symm
            have hnz : (nL : Int) ≠ 0 := by omega
            have hnLn : 0 < nL := hin.2
            have hnzn : ¬ nL = 0 := by omega
            have hwi : IntKind.i64.wrap (i3 : Int) = (i3 : Int) := wrap_small i3 (by have := hpl.few; have := unhide HNL; omega)
            have h0 : w3.grownBy w3.drew none := gb_drew (gb_refl _ _)
            obtain ⟨cap, Wy, hcy, hyb, hyt, gy⟩ := str_typ w3.drew en.s (by unfold maxLen; omega)
            rw [← hSY] at hcy
            obtain ⟨ly, hly⟩ : ∃ n, n = en.s.length := ⟨_, rfl⟩
            rw [← hly] at hcy
            have g5 : w3.grownBy Wy none := tn h0 gy
            have hoc := unhide HRT Wy _ cap en.s (tn G3 g5) (hB3.none g5) (hL3.none g5) hyb hel
            rw [← hly, ← hSY] at hoc
            have hcvY : ∀ V, Wy.grownBy V none → (convert 22 9 (.slice (some ⟨w3.drew.heap.size, 0, none⟩) ly cap)).run Tryd.prog V = .ok (.string SY) V := fun V gV => by rw [hly, hSY]; exact conv_str (hyb.kept gV (fun _ e => by cases e))
            obtain ⟨io, hio⟩ : ∃ io, io = some (⟨w3.drew.heap.size, 0, none⟩ : Addr) := ⟨_, rfl⟩
            rw [← hio] at hoc
            simp only [← hio] at hcvY
            have hcy' : (convert 9 22 (.string SY)).run Tryd.prog w3.drew = .ok (.slice io ly cap) Wy := by rw [hio]; exact hcy
            have HREM := hide hrem
            clear hi3 hce hen hel hSY hcy hyb hyt gy hly hio hlo hin hiL HRT
            refine region_named fun O hO => ?_
            refine wpList_val (by rw [hO]; kernel_rfl) (.slice xo (sh200 q4) xc) (fun K9 hK9 => by go_simp; exact hK9) ?_
            (try simp only [Act.put, pq1, pq2, pq3])
            refine wpList_val (by rw [hO]; kernel_rfl) (.slice xo (sh200 q4) xc) (fun K9 hK9 => by go_simp; exact hK9) ?_
            (try simp only [Act.put, pq1, pq2, pq3])
            go_upto_region 20 with fail
            refine region_named fun O hO => ?_
            refine wpList_val (by rw [hO]; kernel_rfl) (.pointer (some ⟨p11, 1, none⟩)) (fun K9 hK9 => by go_simp; exact hK9) ?_
            (try simp only [Act.put, pq1, pq2, pq3])
            refine wpList_val (by rw [hO]; kernel_rfl) (.int .i64 N) (fun K9 hK9 => by go_simp; exact hK9) ?_
            (try simp only [Act.put, pq1, pq2, pq3])
            refine wpList_val (by rw [hO]; kernel_rfl) (.bool true) (fun K9 hK9 => by go_simp; exact hK9) ?_
            (try simp only [Act.put, pq1, pq2, pq3])
            refine wpList_val (by rw [hO]; kernel_rfl) (.bool true) (fun K9 hK9 => by go_simp; exact hK9) ?_
            (try simp only [Act.put, pq1, pq2, pq3])
            refine wpList_val (by rw [hO]; kernel_rfl) (.pointer (some ⟨p9, 3, none⟩)) (fun K9 hK9 => by go_simp; exact hK9) ?_
            (try simp only [Act.put, pq1, pq2, pq3])
            refine wpList_val (by rw [hO]; kernel_rfl) (.slice (some ⟨g, 0, none⟩) nL lc) (fun K9 hK9 => by go_simp; exact hK9) ?_
            (try simp only [Act.put, pq1, pq2, pq3])
            refine wpList_val (by rw [hO]; kernel_rfl) (.int .i64 (nL : Int)) (fun K9 hK9 => by go_simp; exact hK9) ?_
            (try simp only [Act.put, pq1, pq2, pq3])
            refine wpList_val (by rw [hO]; kernel_rfl) (.bool true) (fun K9 hK9 => by go_simp; exact hK9) ?_
            (try simp only [Act.put, pq1, pq2, pq3])
            refine wpList_val (by rw [hO]; kernel_rfl) (.bool true) (fun K9 hK9 => by go_simp; exact hK9) ?_
            (try simp only [Act.put, pq1, pq2, pq3])
            go_upto_region 21 with fail
            refine wp_region_noPanic ?_
            refine wp_region_held_drew (S := fun V => w3.grownBy V none) (by kernel_rfl) h0 (fun _ => ?_)
            refine wpAnyH_take (i := 0) (oi := { dst := some 124, op := Op.fieldAddr 33 (Operand.tmp 9) 3, type := _, pos := _, after := _, guard := _ }) (v := .pointer (some ⟨p9, 3, none⟩)) rfl (by kernel_rfl) (by kernel_rfl) (by kernel_rfl) (fun _ _ _ h => h) (Or.inl ⟨by rfl, fun V (hV : w3.grownBy V none) => by go_simp⟩) h0 ?_
            (try simp only [Act.put, pq1, pq2, pq3])
            refine wpAnyH_take (i := 1) (oi := { dst := some 125, op := Op.load 31 (Operand.tmp 124), type := _, pos := _, after := _, guard := _ }) (v := .slice (some ⟨g, 0, none⟩) nL lc) rfl (by kernel_rfl) (by kernel_rfl) (by kernel_rfl) (fun _ _ _ h => h) (Or.inl ⟨by rfl, fun V (hV : w3.grownBy V none) => by (have hv1 := hV.cell c93 (by simp); go_simp)⟩) h0 ?_
            (try simp only [Act.put, pq1, pq2, pq3])
            refine wpAnyH_take (i := 2) (oi := { dst := some 126, op := Op.fieldAddr 35 (Operand.tmp 11) 1, type := _, pos := _, after := _, guard := _ }) (v := .pointer (some ⟨p11, 1, none⟩)) rfl (by kernel_rfl) (by kernel_rfl) (by kernel_rfl) (fun _ _ _ h => h) (Or.inl ⟨by rfl, fun V (hV : w3.grownBy V none) => by go_simp⟩) h0 ?_
            (try simp only [Act.put, pq1, pq2, pq3])
            refine wpAnyH_take (i := 3) (oi := { dst := some 127, op := Op.load 3 (Operand.tmp 126), type := _, pos := _, after := _, guard := _ }) (v := .int .i64 N) rfl (by kernel_rfl) (by kernel_rfl) (by kernel_rfl) (fun _ _ _ h => h) (Or.inl ⟨by rfl, fun V (hV : w3.grownBy V none) => by (have hv1 := hV.cell cc1 (by simp); go_simp)⟩) h0 ?_
            (try simp only [Act.put, pq1, pq2, pq3])
            refine wpAnyH_take (i := 4) (oi := { dst := some 128, op := Op.fieldAddr 33 (Operand.tmp 9) 3, type := _, pos := _, after := _, guard := _ }) (v := .pointer (some ⟨p9, 3, none⟩)) rfl (by kernel_rfl) (by kernel_rfl) (by kernel_rfl) (fun _ _ _ h => h) (Or.inl ⟨by rfl, fun V (hV : w3.grownBy V none) => by go_simp⟩) h0 ?_
            (try simp only [Act.put, pq1, pq2, pq3])
            refine wpAnyH_take (i := 5) (oi := { dst := some 129, op := Op.load 31 (Operand.tmp 128), type := _, pos := _, after := _, guard := _ }) (v := .slice (some ⟨g, 0, none⟩) nL lc) rfl (by kernel_rfl) (by kernel_rfl) (by kernel_rfl) (fun _ _ _ h => h) (Or.inl ⟨by rfl, fun V (hV : w3.grownBy V none) => by (have hv1 := hV.cell c93 (by simp); go_simp)⟩) h0 ?_
            (try simp only [Act.put, pq1, pq2, pq3])
            refine wpAnyH_take (i := 6) (oi := { dst := some 130, op := Op.call { callee := Callee.builtin Builtin.len, args := #[(Operand.tmp 129)], argTypes := #[31] }, type := _, pos := _, after := _, guard := _ }) (v := .int .i64 (nL : Int)) rfl (by kernel_rfl) (by kernel_rfl) (by kernel_rfl) (fun _ _ _ h => h) (Or.inl ⟨by rfl, fun V (hV : w3.grownBy V none) => by go_simp⟩) h0 ?_
            (try simp only [Act.put, pq1, pq2, pq3])
            refine wpAnyH_take (i := 7) (oi := { dst := some 131, op := Op.binOp BinOp.rem 3 (Operand.tmp 127) (Operand.tmp 130) 3, type := _, pos := _, after := _, guard := _ }) (v := .int .i64 (i3 : Int)) rfl (by kernel_rfl) (by kernel_rfl) (by kernel_rfl) (fun _ _ _ h => h) (Or.inl ⟨by rfl, fun V (hV : w3.grownBy V none) => by go_simp⟩) h0 ?_
            (try simp only [Act.put, pq1, pq2, pq3])
            refine wpAnyH_take (i := 8) (oi := { dst := some 132, op := Op.indexAddr 31 (Operand.tmp 125) (Operand.tmp 131), type := _, pos := _, after := _, guard := _ }) (v := .pointer (some ⟨g, i3 * 4, none⟩)) rfl (by kernel_rfl) (by kernel_rfl) (by kernel_rfl) (fun _ _ _ h => h) (Or.inl ⟨by rfl, fun V (hV : w3.grownBy V none) => by go_simp⟩) h0 ?_
            (try simp only [Act.put, pq1, pq2, pq3])
            refine wpAnyH_take (i := 9) (oi := { dst := some 133, op := Op.fieldAddr 44 (Operand.tmp 132) 0, type := _, pos := _, after := _, guard := _ }) (v := .pointer (some ⟨g, i3 * 4, none⟩)) rfl (by kernel_rfl) (by kernel_rfl) (by kernel_rfl) (fun _ _ _ h => h) (Or.inl ⟨by rfl, fun V (hV : w3.grownBy V none) => by go_simp⟩) h0 ?_
            (try simp only [Act.put, pq1, pq2, pq3])
            refine wpAnyH_take (i := 10) (oi := { dst := some 134, op := Op.load 9 (Operand.tmp 133), type := _, pos := _, after := _, guard := _ }) (v := .string SY) rfl (by kernel_rfl) (by kernel_rfl) (by kernel_rfl) (fun _ _ _ h => h) (Or.inl ⟨by rfl, fun V (hV : w3.grownBy V none) => by (have hv1 := hV.cell hce' (by simp); go_simp)⟩) h0 ?_
            (try simp only [Act.put, pq1, pq2, pq3])
            refine wpAnyH_ready (rs := [11]) (by kernel_rfl) (by simp) ?_
            refine AllReadyH.cons (o := { dst := some 135, op := Op.convert 9 22 (Operand.tmp 134), type := _, pos := _, after := _, guard := _ }) rfl (fun K9 hK9 => ?_) AllReadyH.nil
            go_simp
            refine hK9.out _ _ g5 (fun _ => ?_)
            clear hK9 K9
            (try simp only [Act.put, pq1, pq2, pq3])
            refine wpAnyH_take (i := 12) (oi := { dst := some 20, op := Op.assign (Operand.tmp 135), type := _, pos := _, after := _, guard := _ }) (v := .slice io ly cap) rfl (by kernel_rfl) (by kernel_rfl) (by kernel_rfl) (fun _ _ _ h => h) (Or.inl ⟨by rfl, fun V (hV : w3.grownBy V none) => by go_simp⟩) g5 ?_
            (try simp only [Act.put, pq1, pq2, pq3])
            refine wpAnyH_done (by kernel_rfl) ?_ _
            refine NoPanic.normal ?_
            have ic := cap
            have hcvY5 := hcvY
            have G5 := tn G3 g5
            have hB5 := hB3.none g5
            have hR5 := hR3.kept g5 (by simp)
            have hK5 := hK3.kept g5 (by simp)
            have hL5 := hL3.none g5
            obtain ⟨w5, rfl⟩ : ∃ w5, w5 = Wy := ⟨_, rfl⟩
            clear hB3 hR3 hK3 hL3 hcvY g5 hcy' h0 c93 cc1
            obtain ⟨o, kn, cop, cro, ckn, crk⟩ := hoc
            obtain ⟨nz, hnz⟩ : ∃ n, n = (txtO o).length := ⟨_, rfl⟩
            obtain ⟨sX, hsX⟩ : ∃ s, s = str (txtO o) := ⟨_, rfl⟩
            obtain ⟨ob, hob⟩ : ∃ b, b = o.isSome := ⟨_, rfl⟩
            have hcvX : ∀ V yo yc, BtT V yo yc (txtO o) → (convert 22 9 (.slice yo nz yc)).run Tryd.prog V = .ok (.string sX) V := fun V yo yc h => by rw [hnz, hsX]; exact conv_str h.bts
            simp only [← hnz, ← hob] at cop
            simp only [← hsX, ← hob] at cro
            obtain ⟨RC, hRC⟩ : ∃ R, R = rbC (m : Int) F B.u (.slice (some ⟨g, 0, none⟩) nL lc) := ⟨_, rfl⟩
            have hR5c := hR5
            rw [← hRC] at hR5
            simp only [← hRC] at cro crk
            have hir : (Tryd.prog.info? 33).map (·.size) = some RC.length := by rw [hRC]; exact info_rbox
            clear hnz hsX hob hRC
            go_upto_region 22 with fail
            refine region_named fun O hO => ?_
            refine wpList_val (by rw [hO]; kernel_rfl) (.pointer (some ⟨bb, 0, none⟩)) (fun K9 hK9 => by go_simp; exact hK9) ?_
            (try simp only [Act.put, pq1, pq2, pq3])
            refine wpList_val (by rw [hO]; kernel_rfl) (.agg KL.toArray) (fun K9 hK9 => wp_load_row _ _ rfl p12 rfl _ _ _ _ hK5 Tryd.underlying37 rfl (unhide HI) hK9) ?_
            (try simp only [Act.put, pq1, pq2, pq3])
            refine wpList_val (by rw [hO]; kernel_rfl) (.slice bo (sh200 q3) bc) (fun K9 hK9 => by go_simp; exact hK9) ?_
            (try simp only [Act.put, pq1, pq2, pq3])
            refine wpList_val (by rw [hO]; kernel_rfl) (.slice io ly cap) (fun K9 hK9 => by go_simp; exact hK9) ?_
            (try simp only [Act.put, pq1, pq2, pq3])
            refine wpList_want (by rw [hO]; kernel_rfl) fun K9 hK9 => ?_
            go_simp
            go_at_call 14
            refine (cop w5 (gb_refl _ _)).mono ?_
            rintro e w6 ⟨⟨yo, yc, rfl, hX6⟩, g6⟩
            have hcX6 := fun V (gV : w6.grownBy V none) => hcvX V yo yc (hX6.none gV)
            clear cop
            refine hK9 _ _ ?_
            clear hK9 K9
            (try simp only [Act.put, pq1, pq2, pq3])
            refine wpList_val (by rw [hO]; kernel_rfl) (.tuple #[.slice yo nz yc, .bool ob]) (fun K9 hK9 => by go_simp; exact hK9) ?_
            (try simp only [Act.put, pq1, pq2, pq3])
            refine wpList_val (by rw [hO]; kernel_rfl) (.slice yo nz yc) (fun K9 hK9 => by go_simp; exact hK9) ?_
            (try simp only [Act.put, pq1, pq2, pq3])
            refine wpList_val (by rw [hO]; kernel_rfl) (.bool ob) (fun K9 hK9 => by go_simp; exact hK9) ?_
            (try simp only [Act.put, pq1, pq2, pq3])
            refine wpList_val (by rw [hO]; kernel_rfl) (.slice yo nz yc) (fun K9 hK9 => by go_simp; exact hK9) ?_
            (try simp only [Act.put, pq1, pq2, pq3])
            refine wpList_val (by rw [hO]; kernel_rfl) (.bool ob) (fun K9 hK9 => by go_simp; exact hK9) ?_
            (try simp only [Act.put, pq1, pq2, pq3])
            have h06 : w6.grownBy w6.drew none := gb_drew (gb_refl _ _)
            have hRd := (hR5.kept g6 (by simp)).whole
            have hcK : ∀ V, w6.grownBy V none → (convert 22 9 (.slice (some ⟨p12, 0, none⟩) 32 32)).run Tryd.prog V = .ok (.string SK) V := fun V gV => hcvK' V ((hK5.kept g6 (by simp)).kept gV (by simp))
            have hcB : ∀ V, w6.grownBy V none → (convert 22 9 (.slice bo (sh200 q3) bc)).run Tryd.prog V = .ok (.string SB) V := fun V gV => hcvB V (tn (tn G5 g6) gV)
            have hcY : ∀ V, w6.grownBy V none → (convert 22 9 (.slice io ly cap)).run Tryd.prog V = .ok (.string SY) V := fun V gV => hcvY5 V (tn g6 gV)
            go_upto_region 23 with fail
            refine wp_region_noPanic ?_
            refine wp_region_held_drew (S := fun V => w6.grownBy V none) (by kernel_rfl) h06 (fun _ => ?_)
            refine wpAnyH_take (i := 0) (oi := { dst := some 145, op := Op.load 33 (Operand.tmp 9), type := _, pos := _, after := _, guard := _ }) (v := .agg RC.toArray) rfl (by kernel_rfl) (by kernel_rfl) (by kernel_rfl) (fun _ _ _ h => h) (yieldsIf_load_mid (by rfl) _ _ rfl _ _ rfl RC _ (fun V hV => range_kept hRd hV (by simp)) Tryd.underlying33 rfl hir) h06 ?_
            (try simp only [Act.put, pq1, pq2, pq3])
            refine wpAnyH_take (i := 1) (oi := { dst := some 146, op := Op.slice 37 (Operand.tmp 12) none none none, type := _, pos := _, after := _, guard := _ }) (v := .slice (some ⟨p12, 0, none⟩) 32 32) rfl (by kernel_rfl) (by kernel_rfl) (by kernel_rfl) (fun _ _ _ h => h) (Or.inl ⟨by rfl, fun V (hV : w6.grownBy V none) => by go_simp⟩) h06 ?_
            (try simp only [Act.put, pq1, pq2, pq3])
            refine wpAnyH_take (i := 2) (oi := { dst := some 147, op := Op.convert 22 9 (Operand.tmp 146), type := _, pos := _, after := _, guard := _ }) (v := .string SK) rfl (by kernel_rfl) (by kernel_rfl) (by kernel_rfl) (fun _ _ _ h => h) (Or.inl ⟨by rfl, fun V (hV : w6.grownBy V none) => by (have hv9 := hcK V hV; go_simp)⟩) h06 ?_
            (try simp only [Act.put, pq1, pq2, pq3])
            refine wpAnyH_take (i := 3) (oi := { dst := some 148, op := Op.move (Operand.tmp 13), type := _, pos := _, after := _, guard := _ }) (v := .slice bo (sh200 q3) bc) rfl (by kernel_rfl) (by kernel_rfl) (by kernel_rfl) (fun _ _ _ h => h) (Or.inl ⟨by rfl, fun V (hV : w6.grownBy V none) => by go_simp⟩) h06 ?_
            (try simp only [Act.put, pq1, pq2, pq3])
            refine wpAnyH_take (i := 4) (oi := { dst := some 149, op := Op.convert 22 9 (Operand.tmp 148), type := _, pos := _, after := _, guard := _ }) (v := .string SB) rfl (by kernel_rfl) (by kernel_rfl) (by kernel_rfl) (fun _ _ _ h => h) (Or.inl ⟨by rfl, fun V (hV : w6.grownBy V none) => by (have hv9 := hcB V hV; go_simp)⟩) h06 ?_
            (try simp only [Act.put, pq1, pq2, pq3])
            refine wpAnyH_take (i := 5) (oi := { dst := some 150, op := Op.move (Operand.tmp 20), type := _, pos := _, after := _, guard := _ }) (v := .slice io ly cap) rfl (by kernel_rfl) (by kernel_rfl) (by kernel_rfl) (fun _ _ _ h => h) (Or.inl ⟨by rfl, fun V (hV : w6.grownBy V none) => by go_simp⟩) h06 ?_
            (try simp only [Act.put, pq1, pq2, pq3])
            refine wpAnyH_take (i := 6) (oi := { dst := some 151, op := Op.convert 22 9 (Operand.tmp 150), type := _, pos := _, after := _, guard := _ }) (v := .string SY) rfl (by kernel_rfl) (by kernel_rfl) (by kernel_rfl) (fun _ _ _ h => h) (Or.inl ⟨by rfl, fun V (hV : w6.grownBy V none) => by (have hv9 := hcY V hV; go_simp)⟩) h06 ?_
            (try simp only [Act.put, pq1, pq2, pq3])
            refine wpAnyH_ready (rs := [7]) (by kernel_rfl) (by simp) ?_
            refine AllReadyH.cons (o := { dst := some 152, op := Op.call { callee := Callee.value (Operand.func 15), args := #[(Operand.tmp 145), (Operand.tmp 147), (Operand.tmp 149), (Operand.tmp 151)], argTypes := #[33, 9, 9, 9] }, type := _, pos := _, after := _, guard := _ }) rfl (fun K9 hK9 => ?_) AllReadyH.nil
            go_simp
            go_at_call 15
            refine (cro _ (tn g6 h06)).mono ?_
            rintro e w7 ⟨rfl, gd⟩
            go_wp2_with fail
            refine hK9.out _ _ (tn h06 gd) (fun _ => ?_)
            clear hK9 K9
            (try simp only [Act.put, pq1, pq2, pq3])
            have h67 := tn h06 gd
            clear gd
            refine wpAnyH_take (i := 8) (oi := { dst := some 144, op := Op.move (Operand.tmp 152), type := _, pos := _, after := _, guard := _ }) (v := .tuple #[.string sX, .bool ob]) rfl (by kernel_rfl) (by kernel_rfl) (by kernel_rfl) (fun _ _ _ h => h) (Or.inl ⟨by rfl, fun V (hV : w6.grownBy V none) => by go_simp⟩) h67 ?_
            (try simp only [Act.put, pq1, pq2, pq3])
            refine wpAnyH_take (i := 9) (oi := { dst := some 153, op := Op.extract (Operand.tmp 144) 0, type := _, pos := _, after := _, guard := _ }) (v := .string sX) rfl (by kernel_rfl) (by kernel_rfl) (by kernel_rfl) (fun _ _ _ h => h) (Or.inl ⟨by rfl, fun V (hV : w6.grownBy V none) => by go_simp⟩) h67 ?_
            (try simp only [Act.put, pq1, pq2, pq3])
            refine wpAnyH_take (i := 10) (oi := { dst := some 154, op := Op.extract (Operand.tmp 144) 1, type := _, pos := _, after := _, guard := _ }) (v := .bool ob) rfl (by kernel_rfl) (by kernel_rfl) (by kernel_rfl) (fun _ _ _ h => h) (Or.inl ⟨by rfl, fun V (hV : w6.grownBy V none) => by go_simp⟩) h67 ?_
            (try simp only [Act.put, pq1, pq2, pq3])
            refine wpAnyH_take (i := 11) (oi := { dst := some 23, op := Op.assign (Operand.tmp 153), type := _, pos := _, after := _, guard := _ }) (v := .string sX) rfl (by kernel_rfl) (by kernel_rfl) (by kernel_rfl) (fun _ _ _ h => h) (Or.inl ⟨by rfl, fun V (hV : w6.grownBy V none) => by go_simp⟩) h67 ?_
            (try simp only [Act.put, pq1, pq2, pq3])
            refine wpAnyH_take (i := 12) (oi := { dst := some 24, op := Op.assign (Operand.tmp 154), type := _, pos := _, after := _, guard := _ }) (v := .bool ob) rfl (by kernel_rfl) (by kernel_rfl) (by kernel_rfl) (fun _ _ _ h => h) (Or.inl ⟨by rfl, fun V (hV : w6.grownBy V none) => by go_simp⟩) h67 ?_
            (try simp only [Act.put, pq1, pq2, pq3])
            refine wpAnyH_done (by kernel_rfl) ?_ _
            refine NoPanic.normal ?_
            have h07 : w7.grownBy w7.drew none := gb_drew (gb_refl _ _)
            have g57 := tn g6 h67
            have hRd7 := (hR5.kept g57 (by simp)).whole
            have hcX : ∀ V, w7.grownBy V none → (convert 22 9 (.slice yo nz yc)).run Tryd.prog V = .ok (.string sX) V := fun V gV => hcX6 V (tn h67 gV)
            have hcY7 : ∀ V, w7.grownBy V none → (convert 22 9 (.slice io ly cap)).run Tryd.prog V = .ok (.string SY) V := fun V gV => hcY V (tn h67 gV)
            clear hcK hcB hcY hcX6 hRd cro
            go_upto_region 24 with fail
            refine wp_region_noPanic ?_
            refine wp_region_held_drew (S := fun V => w7.grownBy V none) (by kernel_rfl) h07 (fun _ => ?_)
            refine wpAnyH_take (i := 0) (oi := { dst := some 155, op := Op.move (Operand.tmp 21), type := _, pos := _, after := _, guard := _ }) (v := .slice yo nz yc) rfl (by kernel_rfl) (by kernel_rfl) (by kernel_rfl) (fun _ _ _ h => h) (Or.inl ⟨by rfl, fun V (hV : w7.grownBy V none) => by go_simp⟩) h07 ?_
            (try simp only [Act.put, pq1, pq2, pq3])
            refine wpAnyH_take (i := 1) (oi := { dst := some 156, op := Op.convert 22 9 (Operand.tmp 155), type := _, pos := _, after := _, guard := _ }) (v := .string sX) rfl (by kernel_rfl) (by kernel_rfl) (by kernel_rfl) (fun _ _ _ h => h) (Or.inl ⟨by rfl, fun V (hV : w7.grownBy V none) => by (have hv9 := hcX V hV; go_simp)⟩) h07 ?_
            (try simp only [Act.put, pq1, pq2, pq3])
            refine wpAnyH_take (i := 2) (oi := { dst := some 157, op := Op.move (Operand.tmp 23), type := _, pos := _, after := _, guard := _ }) (v := .string sX) rfl (by kernel_rfl) (by kernel_rfl) (by kernel_rfl) (fun _ _ _ h => h) (Or.inl ⟨by rfl, fun V (hV : w7.grownBy V none) => by go_simp⟩) h07 ?_
            (try simp only [Act.put, pq1, pq2, pq3])
            refine wpAnyH_take (i := 3) (oi := { dst := some 158, op := Op.binOp BinOp.neq 9 (Operand.tmp 156) (Operand.tmp 157) 9, type := _, pos := _, after := _, guard := _ }) (v := .bool false) rfl (by kernel_rfl) (by kernel_rfl) (by kernel_rfl) (fun _ _ _ h => h) (Or.inl ⟨by rfl, fun V (hV : w7.grownBy V none) => by go_simp⟩) h07 ?_
            (try simp only [Act.put, pq1, pq2, pq3])
            refine wpAnyH_take (i := 4) (oi := { dst := some 159, op := Op.move (Operand.tmp 158), type := _, pos := _, after := _, guard := _ }) (v := .bool false) rfl (by kernel_rfl) (by kernel_rfl) (by kernel_rfl) (fun _ _ _ h => h) (Or.inl ⟨by rfl, fun V (hV : w7.grownBy V none) => by go_simp⟩) h07 ?_
            (try simp only [Act.put, pq1, pq2, pq3])
            refine wpAnyH_take (i := 5) (oi := { dst := some 160, op := Op.move (Operand.tmp 22), type := _, pos := _, after := _, guard := _ }) (v := .bool ob) rfl (by kernel_rfl) (by kernel_rfl) (by kernel_rfl) (fun _ _ _ h => h) (Or.inl ⟨by rfl, fun V (hV : w7.grownBy V none) => by go_simp⟩) h07 ?_
            (try simp only [Act.put, pq1, pq2, pq3])
            refine wpAnyH_take (i := 6) (oi := { dst := some 161, op := Op.move (Operand.tmp 24), type := _, pos := _, after := _, guard := _ }) (v := .bool ob) rfl (by kernel_rfl) (by kernel_rfl) (by kernel_rfl) (fun _ _ _ h => h) (Or.inl ⟨by rfl, fun V (hV : w7.grownBy V none) => by go_simp⟩) h07 ?_
            (try simp only [Act.put, pq1, pq2, pq3])
            refine wpAnyH_take (i := 7) (oi := { dst := some 162, op := Op.binOp BinOp.neq 4 (Operand.tmp 160) (Operand.tmp 161) 4, type := _, pos := _, after := _, guard := _ }) (v := .bool false) rfl (by kernel_rfl) (by kernel_rfl) (by kernel_rfl) (fun _ _ _ h => h) (Or.inl ⟨by rfl, fun V (hV : w7.grownBy V none) => by go_simp⟩) h07 ?_
            (try simp only [Act.put, pq1, pq2, pq3])
            refine wpAnyH_take (i := 8) (oi := { dst := some 163, op := Op.pick (Operand.tmp 159) (Operand.const (Value.bool true)) (Operand.tmp 162), type := _, pos := _, after := _, guard := _ }) (v := .bool false) rfl (by kernel_rfl) (by kernel_rfl) (by kernel_rfl) (fun _ _ _ h => h) (Or.inl ⟨by rfl, fun V (hV : w7.grownBy V none) => by go_simp⟩) h07 ?_
            (try simp only [Act.put, pq1, pq2, pq3])
            refine wpAnyH_take (i := 9) (oi := { dst := some 164, op := Op.move (Operand.tmp 163), type := _, pos := _, after := _, guard := _ }) (v := .bool false) rfl (by kernel_rfl) (by kernel_rfl) (by kernel_rfl) (fun _ _ _ h => h) (Or.inl ⟨by rfl, fun V (hV : w7.grownBy V none) => by go_simp⟩) h07 ?_
            (try simp only [Act.put, pq1, pq2, pq3])
            refine wpAnyH_take (i := 10) (oi := { dst := some 165, op := Op.move (Operand.tmp 7), type := _, pos := _, after := _, guard := _ }) (v := .pointer (some ⟨bb, 0, none⟩)) rfl (by kernel_rfl) (by kernel_rfl) (by kernel_rfl) (fun _ _ _ h => h) (Or.inl ⟨by rfl, fun V (hV : w7.grownBy V none) => by go_simp⟩) h07 ?_
            (try simp only [Act.put, pq1, pq2, pq3])
            refine wpAnyH_take (i := 11) (oi := { dst := some 166, op := Op.move (Operand.tmp 20), type := _, pos := _, after := _, guard := _ }) (v := .slice io ly cap) rfl (by kernel_rfl) (by kernel_rfl) (by kernel_rfl) (fun _ _ _ h => h) (Or.inl ⟨by rfl, fun V (hV : w7.grownBy V none) => by go_simp⟩) h07 ?_
            (try simp only [Act.put, pq1, pq2, pq3])
            refine wpAnyH_take (i := 13) (oi := { dst := some 168, op := Op.load 33 (Operand.tmp 9), type := _, pos := _, after := _, guard := _ }) (v := .agg RC.toArray) rfl (by kernel_rfl) (by kernel_rfl) (by kernel_rfl) (fun _ _ _ h => h) (yieldsIf_load_mid (by rfl) _ _ rfl _ _ rfl RC _ (fun V hV => range_kept hRd7 hV (by simp)) Tryd.underlying33 rfl hir) h07 ?_
            (try simp only [Act.put, pq1, pq2, pq3])
            refine wpAnyH_take (i := 14) (oi := { dst := some 169, op := Op.move (Operand.tmp 20), type := _, pos := _, after := _, guard := _ }) (v := .slice io ly cap) rfl (by kernel_rfl) (by kernel_rfl) (by kernel_rfl) (fun _ _ _ h => h) (Or.inl ⟨by rfl, fun V (hV : w7.grownBy V none) => by go_simp⟩) h07 ?_
            (try simp only [Act.put, pq1, pq2, pq3])
            refine wpAnyH_take (i := 15) (oi := { dst := some 170, op := Op.convert 22 9 (Operand.tmp 169), type := _, pos := _, after := _, guard := _ }) (v := .string SY) rfl (by kernel_rfl) (by kernel_rfl) (by kernel_rfl) (fun _ _ _ h => h) (Or.inl ⟨by rfl, fun V (hV : w7.grownBy V none) => by (have hv9 := hcY7 V hV; go_simp)⟩) h07 ?_
            (try simp only [Act.put, pq1, pq2, pq3])
            refine wpAnyH_ready (rs := [12]) (by kernel_rfl) (by simp) ?_
            refine AllReadyH.cons (o := { dst := some 167, op := Op.call { callee := Callee.value (Operand.func 16), args := #[(Operand.tmp 165), (Operand.tmp 166)], argTypes := #[24, 22] }, type := _, pos := _, after := _, guard := _ }) rfl (fun K9 hK9 => ?_) AllReadyH.nil
            go_simp
            go_at_call 16
            refine (ckn _ (tn g57 h07)).mono ?_
            rintro e w8 ⟨rfl, gd⟩
            go_wp2_with fail
            refine hK9.out _ _ (tn h07 gd) (fun _ => ?_)
            clear hK9 K9
            (try simp only [Act.put, pq1, pq2, pq3])
            have h78 := tn h07 gd
            clear gd
            refine wpAnyH_ready (rs := [16]) (by kernel_rfl) (by simp) ?_
            refine AllReadyH.cons (o := { dst := some 171, op := Op.call { callee := Callee.value (Operand.func 17), args := #[(Operand.tmp 168), (Operand.tmp 170)], argTypes := #[33, 9] }, type := _, pos := _, after := _, guard := _ }) rfl (fun K9 hK9 => ?_) AllReadyH.nil
            go_simp
            go_at_call 17
            refine (crk _ (tn g57 h78)).mono ?_
            rintro e w9 ⟨rfl, gd⟩
            go_wp2_with fail
            refine hK9.out _ _ (tn h78 gd) (fun _ => ?_)
            clear hK9 K9
            (try simp only [Act.put, pq1, pq2, pq3])
            have h79 := tn h78 gd
            clear gd
            refine wpAnyH_take (i := 17) (oi := { dst := some 172, op := Op.binOp BinOp.neq 4 (Operand.tmp 167) (Operand.tmp 171) 4, type := _, pos := _, after := _, guard := _ }) (v := .bool false) rfl (by kernel_rfl) (by kernel_rfl) (by kernel_rfl) (fun _ _ _ h => h) (Or.inl ⟨by rfl, fun V (hV : w7.grownBy V none) => by go_simp⟩) h79 ?_
            (try simp only [Act.put, pq1, pq2, pq3])
            refine wpAnyH_take (i := 18) (oi := { dst := some 173, op := Op.pick (Operand.tmp 164) (Operand.const (Value.bool true)) (Operand.tmp 172), type := _, pos := _, after := _, guard := _ }) (v := .bool false) rfl (by kernel_rfl) (by kernel_rfl) (by kernel_rfl) (fun _ _ _ h => h) (Or.inl ⟨by rfl, fun V (hV : w7.grownBy V none) => by go_simp⟩) h79 ?_
            (try simp only [Act.put, pq1, pq2, pq3])
            refine wpAnyH_done (by kernel_rfl) ?_ _
            refine NoPanic.normal ?_
            have g59 := tn g57 h79
            have hB9 := hB5.none g59
            have hR9 := hR5c.kept g59 (by simp)
            have hL9 := hL5.none g59
            have G9 := tn G5 g59
            have c93 : w9.cell? ⟨p9, 3, none⟩ = some (.slice (some ⟨g, 0, none⟩) nL lc) := by rw [hR9.cell]; rfl
            have cnt := unhide HCN
            have cmd := unhide HCM
            clear hcX hcY7 hRd7 ckn crk h07 h78 h79 g57 h67 h06 g6 hX6 hir hR5 hB5 hL5 hK5 g59 hR5c
            go_upto_region 26 with fail
            have h09 : w9.grownBy w9.drew none := gb_drew (gb_refl _ _)
            have hB9d := hB9.none h09
            refine wp_region_noPanic ?_
            refine wp_region_held_drew (S := fun V => w9.grownBy V none) (by kernel_rfl) h09 (fun _ => ?_)
            refine wpAnyH_take (i := 0) (oi := { dst := some 174, op := Op.move (Operand.tmp 7), type := _, pos := _, after := _, guard := _ }) (v := .pointer (some ⟨bb, 0, none⟩)) rfl (by kernel_rfl) (by kernel_rfl) (by kernel_rfl) (fun _ _ _ h => h) (Or.inl ⟨by rfl, fun V (hV : w9.grownBy V none) => by go_simp⟩) h09 ?_
            (try simp only [Act.put, pq1, pq2, pq3])
            refine wpAnyH_take (i := 2) (oi := { dst := some 176, op := Op.fieldAddr 33 (Operand.tmp 9) 3, type := _, pos := _, after := _, guard := _ }) (v := .pointer (some ⟨p9, 3, none⟩)) rfl (by kernel_rfl) (by kernel_rfl) (by kernel_rfl) (fun _ _ _ h => h) (Or.inl ⟨by rfl, fun V (hV : w9.grownBy V none) => by go_simp⟩) h09 ?_
            (try simp only [Act.put, pq1, pq2, pq3])
            refine wpAnyH_take (i := 3) (oi := { dst := some 177, op := Op.load 31 (Operand.tmp 176), type := _, pos := _, after := _, guard := _ }) (v := .slice (some ⟨g, 0, none⟩) nL lc) rfl (by kernel_rfl) (by kernel_rfl) (by kernel_rfl) (fun _ _ _ h => h) (Or.inl ⟨by rfl, fun V (hV : w9.grownBy V none) => by (have hv1 := hV.cell c93 (by simp); go_simp)⟩) h09 ?_
            (try simp only [Act.put, pq1, pq2, pq3])
            refine wpAnyH_take (i := 4) (oi := { dst := some 178, op := Op.call { callee := Callee.builtin Builtin.len, args := #[(Operand.tmp 177)], argTypes := #[31] }, type := _, pos := _, after := _, guard := _ }) (v := .int .i64 (nL : Int)) rfl (by kernel_rfl) (by kernel_rfl) (by kernel_rfl) (fun _ _ _ h => h) (Or.inl ⟨by rfl, fun V (hV : w9.grownBy V none) => by go_simp⟩) h09 ?_
            (try simp only [Act.put, pq1, pq2, pq3])
            refine wpAnyH_ready (rs := [1]) (by kernel_rfl) (by simp) ?_
            refine AllReadyH.cons (o := { dst := some 175, op := Op.call { callee := Callee.value (Operand.func 18), args := #[(Operand.tmp 174)], argTypes := #[24] }, type := _, pos := _, after := _, guard := _ }) rfl (fun K9 hK9 => ?_) AllReadyH.nil
            go_simp
            go_at_call 18
            refine (cnt _ hB9d).mono ?_
            rintro e wq ⟨rfl, rfl⟩
            go_wp2_with fail
            refine hK9.out _ _ h09 (fun _ => ?_)
            clear hK9 K9
            (try simp only [Act.put, pq1, pq2, pq3])
            refine wpAnyH_take (i := 5) (oi := { dst := some 179, op := Op.binOp BinOp.neq 3 (Operand.tmp 175) (Operand.tmp 178) 3, type := _, pos := _, after := _, guard := _ }) (v := .bool false) rfl (by kernel_rfl) (by kernel_rfl) (by kernel_rfl) (fun _ _ _ h => h) (Or.inl ⟨by rfl, fun V (hV : w9.grownBy V none) => by go_simp⟩) h09 ?_
            (try simp only [Act.put, pq1, pq2, pq3])
            refine wpAnyH_take (i := 6) (oi := { dst := some 180, op := Op.move (Operand.tmp 179), type := _, pos := _, after := _, guard := _ }) (v := .bool false) rfl (by kernel_rfl) (by kernel_rfl) (by kernel_rfl) (fun _ _ _ h => h) (Or.inl ⟨by rfl, fun V (hV : w9.grownBy V none) => by go_simp⟩) h09 ?_
            (try simp only [Act.put, pq1, pq2, pq3])
            refine wpAnyH_take (i := 7) (oi := { dst := some 181, op := Op.move (Operand.tmp 7), type := _, pos := _, after := _, guard := _ }) (v := .pointer (some ⟨bb, 0, none⟩)) rfl (by kernel_rfl) (by kernel_rfl) (by kernel_rfl) (fun _ _ _ h => h) (Or.inl ⟨by rfl, fun V (hV : w9.grownBy V none) => by go_simp⟩) h09 ?_
            (try simp only [Act.put, pq1, pq2, pq3])
            refine wpAnyH_take (i := 9) (oi := { dst := some 183, op := Op.move (Operand.tmp 0), type := _, pos := _, after := _, guard := _ }) (v := .int .i64 (m : Int)) rfl (by kernel_rfl) (by kernel_rfl) (by kernel_rfl) (fun _ _ _ h => h) (Or.inl ⟨by rfl, fun V (hV : w9.grownBy V none) => by go_simp⟩) h09 ?_
            (try simp only [Act.put, pq1, pq2, pq3])
            refine wpAnyH_ready (rs := [8]) (by kernel_rfl) (by simp) ?_
            refine AllReadyH.cons (o := { dst := some 182, op := Op.call { callee := Callee.value (Operand.func 19), args := #[(Operand.tmp 181)], argTypes := #[24] }, type := _, pos := _, after := _, guard := _ }) rfl (fun K9 hK9 => ?_) AllReadyH.nil
            go_simp
            go_at_call 19
            refine (cmd _ hB9d).mono ?_
            rintro e wq ⟨rfl, rfl⟩
            go_wp2_with fail
            refine hK9.out _ _ h09 (fun _ => ?_)
            clear hK9 K9
            (try simp only [Act.put, pq1, pq2, pq3])
            refine wpAnyH_take (i := 10) (oi := { dst := some 184, op := Op.binOp BinOp.neq 3 (Operand.tmp 182) (Operand.tmp 183) 3, type := _, pos := _, after := _, guard := _ }) (v := .bool false) rfl (by kernel_rfl) (by kernel_rfl) (by kernel_rfl) (fun _ _ _ h => h) (Or.inl ⟨by rfl, fun V (hV : w9.grownBy V none) => by go_simp⟩) h09 ?_
            (try simp only [Act.put, pq1, pq2, pq3])
            refine wpAnyH_take (i := 11) (oi := { dst := some 185, op := Op.pick (Operand.tmp 180) (Operand.const (Value.bool true)) (Operand.tmp 184), type := _, pos := _, after := _, guard := _ }) (v := .bool false) rfl (by kernel_rfl) (by kernel_rfl) (by kernel_rfl) (fun _ _ _ h => h) (Or.inl ⟨by rfl, fun V (hV : w9.grownBy V none) => by go_simp⟩) h09 ?_
            (try simp only [Act.put, pq1, pq2, pq3])
            refine wpAnyH_done (by kernel_rfl) ?_ _
            refine NoPanic.normal ?_
            have gq := h09
            clear hB9d
            go_wp2
            go_roundw
            case rel => exact ⟨j + 1, B, _, by omega, by go_num, hB9.none gq, hR9.kept gq (by simp), hL9.none gq, hplO.more, tn G9 gq⟩
            case measure => simp [intOf]; omega
          · as_aux_lemma =>
            obtain ⟨SY, hSY⟩ : ∃ S, S = str tx := ⟨_, rfl⟩
            have hoc := unhide HRT w3 xo xc tx G3 hB3 hL3 (hTx.old G3) (by omega)
            rw [htl, ← hSY] at hoc
            have hcvY5 : ∀ V, w3.grownBy V none → (convert 22 9 (.slice xo (sh200 q4) xc)).run Tryd.prog V = .ok (.string SY) V := fun V gV => by rw [hSY, ← hST]; exact hcvT V (tn G3 gV)
            have G5 := G3
            have hB5 := hB3
            have hR5 := hR3
            have hK5 := hK3
            have hL5 := hL3
            obtain ⟨io, hio⟩ : ∃ io, io = xo := ⟨_, rfl⟩
            obtain ⟨ly, hly⟩ : ∃ n, n = sh200 q4 := ⟨_, rfl⟩
            rw [← hio, ← hly] at hoc
            simp only [← hio, ← hly] at hcvY5
            have hcase : N < 0 ∨ (0 ≤ N ∧ nL = 0) := by omega
            refine region_named fun O hO => ?_
            refine wpList_val (by rw [hO]; kernel_rfl) (.slice xo (sh200 q4) xc) (fun K9 hK9 => by go_simp; exact hK9) ?_
            (try simp only [Act.put, pq1, pq2, pq3])
            refine wpList_val (by rw [hO]; kernel_rfl) (.slice xo (sh200 q4) xc) (fun K9 hK9 => by go_simp; exact hK9) ?_
            (try simp only [Act.put, pq1, pq2, pq3])
            rw [← hio, ← hly]
            clear HRT hSY hB3 hR3 hK3 hL3 hcvT hTL hio hly hin
            go_upto_region 20 with fail
            go_cut [123] (fun x123 wx => x123 = .bool false ∧ wx = w3)
            case first =>
              rcases hcase with hN0 | ⟨hN0, rfl⟩
              · have hN1 : ¬ (0 : Int) ≤ N := by omega
                refine region_named fun O hO => ?_
                refine wpList_val (by rw [hO]; kernel_rfl) (.pointer (some ⟨p11, 1, none⟩)) (fun K9 hK9 => by go_simp; exact hK9) ?_
                (try simp only [Act.put, pq1, pq2, pq3])
                refine wpList_val (by rw [hO]; kernel_rfl) (.int .i64 N) (fun K9 hK9 => by go_simp; exact hK9) ?_
                (try simp only [Act.put, pq1, pq2, pq3])
                refine wpList_val (by rw [hO]; kernel_rfl) (.bool false) (fun K9 hK9 => by go_simp; exact hK9) ?_
                (try simp only [Act.put, pq1, pq2, pq3])
                refine wpList_val (by rw [hO]; kernel_rfl) (.bool false) (fun K9 hK9 => by go_simp; exact hK9) ?_
                (try simp only [Act.put, pq1, pq2, pq3])
                refine wpList_skip (by rw [hO]; kernel_rfl) ?_
                (try simp only [Act.put, pq1, pq2, pq3])
                refine wpList_skip (by rw [hO]; kernel_rfl) ?_
                (try simp only [Act.put, pq1, pq2, pq3])
                refine wpList_skip (by rw [hO]; kernel_rfl) ?_
                (try simp only [Act.put, pq1, pq2, pq3])
                refine wpList_skip (by rw [hO]; kernel_rfl) ?_
                (try simp only [Act.put, pq1, pq2, pq3])
                refine wpList_val (by rw [hO]; kernel_rfl) (.bool false) (fun K9 hK9 => by go_simp; exact hK9) ?_
                (try simp only [Act.put, pq1, pq2, pq3])
                go_wp2
                go_meet
                case rel => exact ⟨rfl, rfl⟩
              · refine region_named fun O hO => ?_
                refine wpList_val (by rw [hO]; kernel_rfl) (.pointer (some ⟨p11, 1, none⟩)) (fun K9 hK9 => by go_simp; exact hK9) ?_
                (try simp only [Act.put, pq1, pq2, pq3])
                refine wpList_val (by rw [hO]; kernel_rfl) (.int .i64 N) (fun K9 hK9 => by go_simp; exact hK9) ?_
                (try simp only [Act.put, pq1, pq2, pq3])
                refine wpList_val (by rw [hO]; kernel_rfl) (.bool true) (fun K9 hK9 => by go_simp; exact hK9) ?_
                (try simp only [Act.put, pq1, pq2, pq3])
                refine wpList_val (by rw [hO]; kernel_rfl) (.bool true) (fun K9 hK9 => by go_simp; exact hK9) ?_
                (try simp only [Act.put, pq1, pq2, pq3])
                refine wpList_val (by rw [hO]; kernel_rfl) (.pointer (some ⟨p9, 3, none⟩)) (fun K9 hK9 => by go_simp; exact hK9) ?_
                (try simp only [Act.put, pq1, pq2, pq3])
                refine wpList_val (by rw [hO]; kernel_rfl) (.slice lo 0 lc) (fun K9 hK9 => by go_simp; exact hK9) ?_
                (try simp only [Act.put, pq1, pq2, pq3])
                refine wpList_val (by rw [hO]; kernel_rfl) (.int .i64 0) (fun K9 hK9 => by go_simp; exact hK9) ?_
                (try simp only [Act.put, pq1, pq2, pq3])
                refine wpList_val (by rw [hO]; kernel_rfl) (.bool false) (fun K9 hK9 => by go_simp; exact hK9) ?_
                (try simp only [Act.put, pq1, pq2, pq3])
                refine wpList_val (by rw [hO]; kernel_rfl) (.bool false) (fun K9 hK9 => by go_simp; exact hK9) ?_
                (try simp only [Act.put, pq1, pq2, pq3])
                go_wp2
                go_meet
                case rel => exact ⟨rfl, rfl⟩
            case rest =>
              obtain ⟨rfl, e9⟩ := hcut
              subst wc
              obtain ⟨w5, rfl⟩ : ∃ w5, w5 = w3 := ⟨_, rfl⟩
              clear hcase c93 cc1
              obtain ⟨o, kn, cop, cro, ckn, crk⟩ := hoc
              obtain ⟨nz, hnz⟩ : ∃ n, n = (txtO o).length := ⟨_, rfl⟩
              obtain ⟨sX, hsX⟩ : ∃ s, s = str (txtO o) := ⟨_, rfl⟩
              obtain ⟨ob, hob⟩ : ∃ b, b = o.isSome := ⟨_, rfl⟩
              have hcvX : ∀ V yo yc, BtT V yo yc (txtO o) → (convert 22 9 (.slice yo nz yc)).run Tryd.prog V = .ok (.string sX) V := fun V yo yc h => by rw [hnz, hsX]; exact conv_str h.bts
              simp only [← hnz, ← hob] at cop
              simp only [← hsX, ← hob] at cro
              obtain ⟨RC, hRC⟩ : ∃ R, R = rbC (m : Int) F B.u (.slice lo nL lc) := ⟨_, rfl⟩
              have hR5c := hR5
              rw [← hRC] at hR5
              simp only [← hRC] at cro crk
              have hir : (Tryd.prog.info? 33).map (·.size) = some RC.length := by rw [hRC]; exact info_rbox
              clear hnz hsX hob hRC
              go_upto_region 22 with fail
              refine region_named fun O hO => ?_
              refine wpList_val (by rw [hO]; kernel_rfl) (.pointer (some ⟨bb, 0, none⟩)) (fun K9 hK9 => by go_simp; exact hK9) ?_
              (try simp only [Act.put, pq1, pq2, pq3])
              refine wpList_val (by rw [hO]; kernel_rfl) (.agg KL.toArray) (fun K9 hK9 => wp_load_row _ _ rfl p12 rfl _ _ _ _ hK5 Tryd.underlying37 rfl (unhide HI) hK9) ?_
              (try simp only [Act.put, pq1, pq2, pq3])
              refine wpList_val (by rw [hO]; kernel_rfl) (.slice bo (sh200 q3) bc) (fun K9 hK9 => by go_simp; exact hK9) ?_
              (try simp only [Act.put, pq1, pq2, pq3])
              refine wpList_val (by rw [hO]; kernel_rfl) (.slice io ly xc) (fun K9 hK9 => by go_simp; exact hK9) ?_
              (try simp only [Act.put, pq1, pq2, pq3])
              refine wpList_want (by rw [hO]; kernel_rfl) fun K9 hK9 => ?_
              go_simp
              go_at_call 14
              refine (cop w5 (gb_refl _ _)).mono ?_
              rintro e w6 ⟨⟨yo, yc, rfl, hX6⟩, g6⟩
              have hcX6 := fun V (gV : w6.grownBy V none) => hcvX V yo yc (hX6.none gV)
              clear cop
              refine hK9 _ _ ?_
              clear hK9 K9
              (try simp only [Act.put, pq1, pq2, pq3])
              refine wpList_val (by rw [hO]; kernel_rfl) (.tuple #[.slice yo nz yc, .bool ob]) (fun K9 hK9 => by go_simp; exact hK9) ?_
              (try simp only [Act.put, pq1, pq2, pq3])
              refine wpList_val (by rw [hO]; kernel_rfl) (.slice yo nz yc) (fun K9 hK9 => by go_simp; exact hK9) ?_
              (try simp only [Act.put, pq1, pq2, pq3])
              refine wpList_val (by rw [hO]; kernel_rfl) (.bool ob) (fun K9 hK9 => by go_simp; exact hK9) ?_
              (try simp only [Act.put, pq1, pq2, pq3])
              refine wpList_val (by rw [hO]; kernel_rfl) (.slice yo nz yc) (fun K9 hK9 => by go_simp; exact hK9) ?_
              (try simp only [Act.put, pq1, pq2, pq3])
              refine wpList_val (by rw [hO]; kernel_rfl) (.bool ob) (fun K9 hK9 => by go_simp; exact hK9) ?_
              (try simp only [Act.put, pq1, pq2, pq3])
              have h06 : w6.grownBy w6.drew none := gb_drew (gb_refl _ _)
              have hRd := (hR5.kept g6 (by simp)).whole
              have hcK : ∀ V, w6.grownBy V none → (convert 22 9 (.slice (some ⟨p12, 0, none⟩) 32 32)).run Tryd.prog V = .ok (.string SK) V := fun V gV => hcvK' V ((hK5.kept g6 (by simp)).kept gV (by simp))
              have hcB : ∀ V, w6.grownBy V none → (convert 22 9 (.slice bo (sh200 q3) bc)).run Tryd.prog V = .ok (.string SB) V := fun V gV => hcvB V (tn (tn G5 g6) gV)
              have hcY : ∀ V, w6.grownBy V none → (convert 22 9 (.slice io ly xc)).run Tryd.prog V = .ok (.string SY) V := fun V gV => hcvY5 V (tn g6 gV)
              go_upto_region 23 with fail
              refine wp_region_noPanic ?_
              refine wp_region_held_drew (S := fun V => w6.grownBy V none) (by kernel_rfl) h06 (fun _ => ?_)
              refine wpAnyH_take (i := 0) (oi := { dst := some 145, op := Op.load 33 (Operand.tmp 9), type := _, pos := _, after := _, guard := _ }) (v := .agg RC.toArray) rfl (by kernel_rfl) (by kernel_rfl) (by kernel_rfl) (fun _ _ _ h => h) (yieldsIf_load_mid (by rfl) _ _ rfl _ _ rfl RC _ (fun V hV => range_kept hRd hV (by simp)) Tryd.underlying33 rfl hir) h06 ?_
              (try simp only [Act.put, pq1, pq2, pq3])
              refine wpAnyH_take (i := 1) (oi := { dst := some 146, op := Op.slice 37 (Operand.tmp 12) none none none, type := _, pos := _, after := _, guard := _ }) (v := .slice (some ⟨p12, 0, none⟩) 32 32) rfl (by kernel_rfl) (by kernel_rfl) (by kernel_rfl) (fun _ _ _ h => h) (Or.inl ⟨by rfl, fun V (hV : w6.grownBy V none) => by go_simp⟩) h06 ?_
              (try simp only [Act.put, pq1, pq2, pq3])
              refine wpAnyH_take (i := 2) (oi := { dst := some 147, op := Op.convert 22 9 (Operand.tmp 146), type := _, pos := _, after := _, guard := _ }) (v := .string SK) rfl (by kernel_rfl) (by kernel_rfl) (by kernel_rfl) (fun _ _ _ h => h) (Or.inl ⟨by rfl, fun V (hV : w6.grownBy V none) => by (have hv9 := hcK V hV; go_simp)⟩) h06 ?_
              (try simp only [Act.put, pq1, pq2, pq3])
              refine wpAnyH_take (i := 3) (oi := { dst := some 148, op := Op.move (Operand.tmp 13), type := _, pos := _, after := _, guard := _ }) (v := .slice bo (sh200 q3) bc) rfl (by kernel_rfl) (by kernel_rfl) (by kernel_rfl) (fun _ _ _ h => h) (Or.inl ⟨by rfl, fun V (hV : w6.grownBy V none) => by go_simp⟩) h06 ?_
              (try simp only [Act.put, pq1, pq2, pq3])
              refine wpAnyH_take (i := 4) (oi := { dst := some 149, op := Op.convert 22 9 (Operand.tmp 148), type := _, pos := _, after := _, guard := _ }) (v := .string SB) rfl (by kernel_rfl) (by kernel_rfl) (by kernel_rfl) (fun _ _ _ h => h) (Or.inl ⟨by rfl, fun V (hV : w6.grownBy V none) => by (have hv9 := hcB V hV; go_simp)⟩) h06 ?_
              (try simp only [Act.put, pq1, pq2, pq3])
              refine wpAnyH_take (i := 5) (oi := { dst := some 150, op := Op.move (Operand.tmp 20), type := _, pos := _, after := _, guard := _ }) (v := .slice io ly xc) rfl (by kernel_rfl) (by kernel_rfl) (by kernel_rfl) (fun _ _ _ h => h) (Or.inl ⟨by rfl, fun V (hV : w6.grownBy V none) => by go_simp⟩) h06 ?_
              (try simp only [Act.put, pq1, pq2, pq3])
              refine wpAnyH_take (i := 6) (oi := { dst := some 151, op := Op.convert 22 9 (Operand.tmp 150), type := _, pos := _, after := _, guard := _ }) (v := .string SY) rfl (by kernel_rfl) (by kernel_rfl) (by kernel_rfl) (fun _ _ _ h => h) (Or.inl ⟨by rfl, fun V (hV : w6.grownBy V none) => by (have hv9 := hcY V hV; go_simp)⟩) h06 ?_
              (try simp only [Act.put, pq1, pq2, pq3])
              refine wpAnyH_ready (rs := [7]) (by kernel_rfl) (by simp) ?_
              refine AllReadyH.cons (o := { dst := some 152, op := Op.call { callee := Callee.value (Operand.func 15), args := #[(Operand.tmp 145), (Operand.tmp 147), (Operand.tmp 149), (Operand.tmp 151)], argTypes := #[33, 9, 9, 9] }, type := _, pos := _, after := _, guard := _ }) rfl (fun K9 hK9 => ?_) AllReadyH.nil
              go_simp
              go_at_call 15
              refine (cro _ (tn g6 h06)).mono ?_
              rintro e w7 ⟨rfl, gd⟩
              go_wp2_with fail
              refine hK9.out _ _ (tn h06 gd) (fun _ => ?_)
              clear hK9 K9
              (try simp only [Act.put, pq1, pq2, pq3])
              have h67 := tn h06 gd
              clear gd
              refine wpAnyH_take (i := 8) (oi := { dst := some 144, op := Op.move (Operand.tmp 152), type := _, pos := _, after := _, guard := _ }) (v := .tuple #[.string sX, .bool ob]) rfl (by kernel_rfl) (by kernel_rfl) (by kernel_rfl) (fun _ _ _ h => h) (Or.inl ⟨by rfl, fun V (hV : w6.grownBy V none) => by go_simp⟩) h67 ?_
              (try simp only [Act.put, pq1, pq2, pq3])
              refine wpAnyH_take (i := 9) (oi := { dst := some 153, op := Op.extract (Operand.tmp 144) 0, type := _, pos := _, after := _, guard := _ }) (v := .string sX) rfl (by kernel_rfl) (by kernel_rfl) (by kernel_rfl) (fun _ _ _ h => h) (Or.inl ⟨by rfl, fun V (hV : w6.grownBy V none) => by go_simp⟩) h67 ?_
              (try simp only [Act.put, pq1, pq2, pq3])
              refine wpAnyH_take (i := 10) (oi := { dst := some 154, op := Op.extract (Operand.tmp 144) 1, type := _, pos := _, after := _, guard := _ }) (v := .bool ob) rfl (by kernel_rfl) (by kernel_rfl) (by kernel_rfl) (fun _ _ _ h => h) (Or.inl ⟨by rfl, fun V (hV : w6.grownBy V none) => by go_simp⟩) h67 ?_
              (try simp only [Act.put, pq1, pq2, pq3])
              refine wpAnyH_take (i := 11) (oi := { dst := some 23, op := Op.assign (Operand.tmp 153), type := _, pos := _, after := _, guard := _ }) (v := .string sX) rfl (by kernel_rfl) (by kernel_rfl) (by kernel_rfl) (fun _ _ _ h => h) (Or.inl ⟨by rfl, fun V (hV : w6.grownBy V none) => by go_simp⟩) h67 ?_
              (try simp only [Act.put, pq1, pq2, pq3])
              refine wpAnyH_take (i := 12) (oi := { dst := some 24, op := Op.assign (Operand.tmp 154), type := _, pos := _, after := _, guard := _ }) (v := .bool ob) rfl (by kernel_rfl) (by kernel_rfl) (by kernel_rfl) (fun _ _ _ h => h) (Or.inl ⟨by rfl, fun V (hV : w6.grownBy V none) => by go_simp⟩) h67 ?_
              (try simp only [Act.put, pq1, pq2, pq3])
              refine wpAnyH_done (by kernel_rfl) ?_ _
              refine NoPanic.normal ?_
              have h07 : w7.grownBy w7.drew none := gb_drew (gb_refl _ _)
              have g57 := tn g6 h67
              have hRd7 := (hR5.kept g57 (by simp)).whole
              have hcX : ∀ V, w7.grownBy V none → (convert 22 9 (.slice yo nz yc)).run Tryd.prog V = .ok (.string sX) V := fun V gV => hcX6 V (tn h67 gV)
              have hcY7 : ∀ V, w7.grownBy V none → (convert 22 9 (.slice io ly xc)).run Tryd.prog V = .ok (.string SY) V := fun V gV => hcY V (tn h67 gV)
              clear hcK hcB hcY hcX6 hRd cro
              go_upto_region 24 with fail
              refine wp_region_noPanic ?_
              refine wp_region_held_drew (S := fun V => w7.grownBy V none) (by kernel_rfl) h07 (fun _ => ?_)
              refine wpAnyH_take (i := 0) (oi := { dst := some 155, op := Op.move (Operand.tmp 21), type := _, pos := _, after := _, guard := _ }) (v := .slice yo nz yc) rfl (by kernel_rfl) (by kernel_rfl) (by kernel_rfl) (fun _ _ _ h => h) (Or.inl ⟨by rfl, fun V (hV : w7.grownBy V none) => by go_simp⟩) h07 ?_
              (try simp only [Act.put, pq1, pq2, pq3])
              refine wpAnyH_take (i := 1) (oi := { dst := some 156, op := Op.convert 22 9 (Operand.tmp 155), type := _, pos := _, after := _, guard := _ }) (v := .string sX) rfl (by kernel_rfl) (by kernel_rfl) (by kernel_rfl) (fun _ _ _ h => h) (Or.inl ⟨by rfl, fun V (hV : w7.grownBy V none) => by (have hv9 := hcX V hV; go_simp)⟩) h07 ?_
              (try simp only [Act.put, pq1, pq2, pq3])
              refine wpAnyH_take (i := 2) (oi := { dst := some 157, op := Op.move (Operand.tmp 23), type := _, pos := _, after := _, guard := _ }) (v := .string sX) rfl (by kernel_rfl) (by kernel_rfl) (by kernel_rfl) (fun _ _ _ h => h) (Or.inl ⟨by rfl, fun V (hV : w7.grownBy V none) => by go_simp⟩) h07 ?_
              (try simp only [Act.put, pq1, pq2, pq3])
              refine wpAnyH_take (i := 3) (oi := { dst := some 158, op := Op.binOp BinOp.neq 9 (Operand.tmp 156) (Operand.tmp 157) 9, type := _, pos := _, after := _, guard := _ }) (v := .bool false) rfl (by kernel_rfl) (by kernel_rfl) (by kernel_rfl) (fun _ _ _ h => h) (Or.inl ⟨by rfl, fun V (hV : w7.grownBy V none) => by go_simp⟩) h07 ?_
              (try simp only [Act.put, pq1, pq2, pq3])
              refine wpAnyH_take (i := 4) (oi := { dst := some 159, op := Op.move (Operand.tmp 158), type := _, pos := _, after := _, guard := _ }) (v := .bool false) rfl (by kernel_rfl) (by kernel_rfl) (by kernel_rfl) (fun _ _ _ h => h) (Or.inl ⟨by rfl, fun V (hV : w7.grownBy V none) => by go_simp⟩) h07 ?_
              (try simp only [Act.put, pq1, pq2, pq3])
              refine wpAnyH_take (i := 5) (oi := { dst := some 160, op := Op.move (Operand.tmp 22), type := _, pos := _, after := _, guard := _ }) (v := .bool ob) rfl (by kernel_rfl) (by kernel_rfl) (by kernel_rfl) (fun _ _ _ h => h) (Or.inl ⟨by rfl, fun V (hV : w7.grownBy V none) => by go_simp⟩) h07 ?_
              (try simp only [Act.put, pq1, pq2, pq3])
              refine wpAnyH_take (i := 6) (oi := { dst := some 161, op := Op.move (Operand.tmp 24), type := _, pos := _, after := _, guard := _ }) (v := .bool ob) rfl (by kernel_rfl) (by kernel_rfl) (by kernel_rfl) (fun _ _ _ h => h) (Or.inl ⟨by rfl, fun V (hV : w7.grownBy V none) => by go_simp⟩) h07 ?_
              (try simp only [Act.put, pq1, pq2, pq3])
              refine wpAnyH_take (i := 7) (oi := { dst := some 162, op := Op.binOp BinOp.neq 4 (Operand.tmp 160) (Operand.tmp 161) 4, type := _, pos := _, after := _, guard := _ }) (v := .bool false) rfl (by kernel_rfl) (by kernel_rfl) (by kernel_rfl) (fun _ _ _ h => h) (Or.inl ⟨by rfl, fun V (hV : w7.grownBy V none) => by go_simp⟩) h07 ?_
              (try simp only [Act.put, pq1, pq2, pq3])
              refine wpAnyH_take (i := 8) (oi := { dst := some 163, op := Op.pick (Operand.tmp 159) (Operand.const (Value.bool true)) (Operand.tmp 162), type := _, pos := _, after := _, guard := _ }) (v := .bool false) rfl (by kernel_rfl) (by kernel_rfl) (by kernel_rfl) (fun _ _ _ h => h) (Or.inl ⟨by rfl, fun V (hV : w7.grownBy V none) => by go_simp⟩) h07 ?_
              (try simp only [Act.put, pq1, pq2, pq3])
              refine wpAnyH_take (i := 9) (oi := { dst := some 164, op := Op.move (Operand.tmp 163), type := _, pos := _, after := _, guard := _ }) (v := .bool false) rfl (by kernel_rfl) (by kernel_rfl) (by kernel_rfl) (fun _ _ _ h => h) (Or.inl ⟨by rfl, fun V (hV : w7.grownBy V none) => by go_simp⟩) h07 ?_
              (try simp only [Act.put, pq1, pq2, pq3])
              refine wpAnyH_take (i := 10) (oi := { dst := some 165, op := Op.move (Operand.tmp 7), type := _, pos := _, after := _, guard := _ }) (v := .pointer (some ⟨bb, 0, none⟩)) rfl (by kernel_rfl) (by kernel_rfl) (by kernel_rfl) (fun _ _ _ h => h) (Or.inl ⟨by rfl, fun V (hV : w7.grownBy V none) => by go_simp⟩) h07 ?_
              (try simp only [Act.put, pq1, pq2, pq3])
              refine wpAnyH_take (i := 11) (oi := { dst := some 166, op := Op.move (Operand.tmp 20), type := _, pos := _, after := _, guard := _ }) (v := .slice io ly xc) rfl (by kernel_rfl) (by kernel_rfl) (by kernel_rfl) (fun _ _ _ h => h) (Or.inl ⟨by rfl, fun V (hV : w7.grownBy V none) => by go_simp⟩) h07 ?_
              (try simp only [Act.put, pq1, pq2, pq3])
              refine wpAnyH_take (i := 13) (oi := { dst := some 168, op := Op.load 33 (Operand.tmp 9), type := _, pos := _, after := _, guard := _ }) (v := .agg RC.toArray) rfl (by kernel_rfl) (by kernel_rfl) (by kernel_rfl) (fun _ _ _ h => h) (yieldsIf_load_mid (by rfl) _ _ rfl _ _ rfl RC _ (fun V hV => range_kept hRd7 hV (by simp)) Tryd.underlying33 rfl hir) h07 ?_
              (try simp only [Act.put, pq1, pq2, pq3])
              refine wpAnyH_take (i := 14) (oi := { dst := some 169, op := Op.move (Operand.tmp 20), type := _, pos := _, after := _, guard := _ }) (v := .slice io ly xc) rfl (by kernel_rfl) (by kernel_rfl) (by kernel_rfl) (fun _ _ _ h => h) (Or.inl ⟨by rfl, fun V (hV : w7.grownBy V none) => by go_simp⟩) h07 ?_
              (try simp only [Act.put, pq1, pq2, pq3])
              refine wpAnyH_take (i := 15) (oi := { dst := some 170, op := Op.convert 22 9 (Operand.tmp 169), type := _, pos := _, after := _, guard := _ }) (v := .string SY) rfl (by kernel_rfl) (by kernel_rfl) (by kernel_rfl) (fun _ _ _ h => h) (Or.inl ⟨by rfl, fun V (hV : w7.grownBy V none) => by (have hv9 := hcY7 V hV; go_simp)⟩) h07 ?_
              (try simp only [Act.put, pq1, pq2, pq3])
              refine wpAnyH_ready (rs := [12]) (by kernel_rfl) (by simp) ?_
              refine AllReadyH.cons (o := { dst := some 167, op := Op.call { callee := Callee.value (Operand.func 16), args := #[(Operand.tmp 165), (Operand.tmp 166)], argTypes := #[24, 22] }, type := _, pos := _, after := _, guard := _ }) rfl (fun K9 hK9 => ?_) AllReadyH.nil
              go_simp
              go_at_call 16
              refine (ckn _ (tn g57 h07)).mono ?_
              rintro e w8 ⟨rfl, gd⟩
              go_wp2_with fail
              refine hK9.out _ _ (tn h07 gd) (fun _ => ?_)
              clear hK9 K9
              (try simp only [Act.put, pq1, pq2, pq3])
              have h78 := tn h07 gd
              clear gd
              refine wpAnyH_ready (rs := [16]) (by kernel_rfl) (by simp) ?_
              refine AllReadyH.cons (o := { dst := some 171, op := Op.call { callee := Callee.value (Operand.func 17), args := #[(Operand.tmp 168), (Operand.tmp 170)], argTypes := #[33, 9] }, type := _, pos := _, after := _, guard := _ }) rfl (fun K9 hK9 => ?_) AllReadyH.nil
              go_simp
              go_at_call 17
              refine (crk _ (tn g57 h78)).mono ?_
              rintro e w9 ⟨rfl, gd⟩
              go_wp2_with fail
              refine hK9.out _ _ (tn h78 gd) (fun _ => ?_)
              clear hK9 K9
              (try simp only [Act.put, pq1, pq2, pq3])
              have h79 := tn h78 gd
              clear gd
              refine wpAnyH_take (i := 17) (oi := { dst := some 172, op := Op.binOp BinOp.neq 4 (Operand.tmp 167) (Operand.tmp 171) 4, type := _, pos := _, after := _, guard := _ }) (v := .bool false) rfl (by kernel_rfl) (by kernel_rfl) (by kernel_rfl) (fun _ _ _ h => h) (Or.inl ⟨by rfl, fun V (hV : w7.grownBy V none) => by go_simp⟩) h79 ?_
              (try simp only [Act.put, pq1, pq2, pq3])
              refine wpAnyH_take (i := 18) (oi := { dst := some 173, op := Op.pick (Operand.tmp 164) (Operand.const (Value.bool true)) (Operand.tmp 172), type := _, pos := _, after := _, guard := _ }) (v := .bool false) rfl (by kernel_rfl) (by kernel_rfl) (by kernel_rfl) (fun _ _ _ h => h) (Or.inl ⟨by rfl, fun V (hV : w7.grownBy V none) => by go_simp⟩) h79 ?_
              (try simp only [Act.put, pq1, pq2, pq3])
              refine wpAnyH_done (by kernel_rfl) ?_ _
              refine NoPanic.normal ?_
              have g59 := tn g57 h79
              have hB9 := hB5.none g59
              have hR9 := hR5c.kept g59 (by simp)
              have hL9 := hL5.none g59
              have G9 := tn G5 g59
              have c93 : w9.cell? ⟨p9, 3, none⟩ = some (.slice lo nL lc) := by rw [hR9.cell]; rfl
              have cnt := unhide HCN
              have cmd := unhide HCM
              clear hcX hcY7 hRd7 ckn crk h07 h78 h79 g57 h67 h06 g6 hX6 hir hR5 hB5 hL5 hK5 g59 hR5c
              go_upto_region 26 with fail
              have h09 : w9.grownBy w9.drew none := gb_drew (gb_refl _ _)
              have hB9d := hB9.none h09
              refine wp_region_noPanic ?_
              refine wp_region_held_drew (S := fun V => w9.grownBy V none) (by kernel_rfl) h09 (fun _ => ?_)
              refine wpAnyH_take (i := 0) (oi := { dst := some 174, op := Op.move (Operand.tmp 7), type := _, pos := _, after := _, guard := _ }) (v := .pointer (some ⟨bb, 0, none⟩)) rfl (by kernel_rfl) (by kernel_rfl) (by kernel_rfl) (fun _ _ _ h => h) (Or.inl ⟨by rfl, fun V (hV : w9.grownBy V none) => by go_simp⟩) h09 ?_
              (try simp only [Act.put, pq1, pq2, pq3])
              refine wpAnyH_take (i := 2) (oi := { dst := some 176, op := Op.fieldAddr 33 (Operand.tmp 9) 3, type := _, pos := _, after := _, guard := _ }) (v := .pointer (some ⟨p9, 3, none⟩)) rfl (by kernel_rfl) (by kernel_rfl) (by kernel_rfl) (fun _ _ _ h => h) (Or.inl ⟨by rfl, fun V (hV : w9.grownBy V none) => by go_simp⟩) h09 ?_
              (try simp only [Act.put, pq1, pq2, pq3])
              refine wpAnyH_take (i := 3) (oi := { dst := some 177, op := Op.load 31 (Operand.tmp 176), type := _, pos := _, after := _, guard := _ }) (v := .slice lo nL lc) rfl (by kernel_rfl) (by kernel_rfl) (by kernel_rfl) (fun _ _ _ h => h) (Or.inl ⟨by rfl, fun V (hV : w9.grownBy V none) => by (have hv1 := hV.cell c93 (by simp); go_simp)⟩) h09 ?_
              (try simp only [Act.put, pq1, pq2, pq3])
              refine wpAnyH_take (i := 4) (oi := { dst := some 178, op := Op.call { callee := Callee.builtin Builtin.len, args := #[(Operand.tmp 177)], argTypes := #[31] }, type := _, pos := _, after := _, guard := _ }) (v := .int .i64 (nL : Int)) rfl (by kernel_rfl) (by kernel_rfl) (by kernel_rfl) (fun _ _ _ h => h) (Or.inl ⟨by rfl, fun V (hV : w9.grownBy V none) => by go_simp⟩) h09 ?_
              (try simp only [Act.put, pq1, pq2, pq3])
              refine wpAnyH_ready (rs := [1]) (by kernel_rfl) (by simp) ?_
              refine AllReadyH.cons (o := { dst := some 175, op := Op.call { callee := Callee.value (Operand.func 18), args := #[(Operand.tmp 174)], argTypes := #[24] }, type := _, pos := _, after := _, guard := _ }) rfl (fun K9 hK9 => ?_) AllReadyH.nil
              go_simp
              go_at_call 18
              refine (cnt _ hB9d).mono ?_
              rintro e wq ⟨rfl, rfl⟩
              go_wp2_with fail
              refine hK9.out _ _ h09 (fun _ => ?_)
              clear hK9 K9
              (try simp only [Act.put, pq1, pq2, pq3])
              refine wpAnyH_take (i := 5) (oi := { dst := some 179, op := Op.binOp BinOp.neq 3 (Operand.tmp 175) (Operand.tmp 178) 3, type := _, pos := _, after := _, guard := _ }) (v := .bool false) rfl (by kernel_rfl) (by kernel_rfl) (by kernel_rfl) (fun _ _ _ h => h) (Or.inl ⟨by rfl, fun V (hV : w9.grownBy V none) => by go_simp⟩) h09 ?_
              (try simp only [Act.put, pq1, pq2, pq3])
              refine wpAnyH_take (i := 6) (oi := { dst := some 180, op := Op.move (Operand.tmp 179), type := _, pos := _, after := _, guard := _ }) (v := .bool false) rfl (by kernel_rfl) (by kernel_rfl) (by kernel_rfl) (fun _ _ _ h => h) (Or.inl ⟨by rfl, fun V (hV : w9.grownBy V none) => by go_simp⟩) h09 ?_
              (try simp only [Act.put, pq1, pq2, pq3])
              refine wpAnyH_take (i := 7) (oi := { dst := some 181, op := Op.move (Operand.tmp 7), type := _, pos := _, after := _, guard := _ }) (v := .pointer (some ⟨bb, 0, none⟩)) rfl (by kernel_rfl) (by kernel_rfl) (by kernel_rfl) (fun _ _ _ h => h) (Or.inl ⟨by rfl, fun V (hV : w9.grownBy V none) => by go_simp⟩) h09 ?_
              (try simp only [Act.put, pq1, pq2, pq3])
              refine wpAnyH_take (i := 9) (oi := { dst := some 183, op := Op.move (Operand.tmp 0), type := _, pos := _, after := _, guard := _ }) (v := .int .i64 (m : Int)) rfl (by kernel_rfl) (by kernel_rfl) (by kernel_rfl) (fun _ _ _ h => h) (Or.inl ⟨by rfl, fun V (hV : w9.grownBy V none) => by go_simp⟩) h09 ?_
              (try simp only [Act.put, pq1, pq2, pq3])
              refine wpAnyH_ready (rs := [8]) (by kernel_rfl) (by simp) ?_
              refine AllReadyH.cons (o := { dst := some 182, op := Op.call { callee := Callee.value (Operand.func 19), args := #[(Operand.tmp 181)], argTypes := #[24] }, type := _, pos := _, after := _, guard := _ }) rfl (fun K9 hK9 => ?_) AllReadyH.nil
              go_simp
              go_at_call 19
              refine (cmd _ hB9d).mono ?_
              rintro e wq ⟨rfl, rfl⟩
              go_wp2_with fail
              refine hK9.out _ _ h09 (fun _ => ?_)
              clear hK9 K9
              (try simp only [Act.put, pq1, pq2, pq3])
              refine wpAnyH_take (i := 10) (oi := { dst := some 184, op := Op.binOp BinOp.neq 3 (Operand.tmp 182) (Operand.tmp 183) 3, type := _, pos := _, after := _, guard := _ }) (v := .bool false) rfl (by kernel_rfl) (by kernel_rfl) (by kernel_rfl) (fun _ _ _ h => h) (Or.inl ⟨by rfl, fun V (hV : w9.grownBy V none) => by go_simp⟩) h09 ?_
              (try simp only [Act.put, pq1, pq2, pq3])
              refine wpAnyH_take (i := 11) (oi := { dst := some 185, op := Op.pick (Operand.tmp 180) (Operand.const (Value.bool true)) (Operand.tmp 184), type := _, pos := _, after := _, guard := _ }) (v := .bool false) rfl (by kernel_rfl) (by kernel_rfl) (by kernel_rfl) (fun _ _ _ h => h) (Or.inl ⟨by rfl, fun V (hV : w9.grownBy V none) => by go_simp⟩) h09 ?_
              (try simp only [Act.put, pq1, pq2, pq3])
              refine wpAnyH_done (by kernel_rfl) ?_ _
              refine NoPanic.normal ?_
              have gq := h09
              clear hB9d
              go_wp2
              go_roundw
              case rel => exact ⟨j + 1, B, _, by omega, by go_num, hB9.none gq, hR9.kept gq (by simp), hL9.none gq, hplO.more, tn G9 gq⟩
              case measure => simp [intOf]; omega
      · obtain rfl : j = M := by omega
        have hjc : (Ln = j) ∨ (j < Ln ∧ j = 16) := by omega
        have cone := P.one wo G
        clear hM hlt hj hB0 hR0 hL0 hpl
        go_upto_region 8 with fail
        go_cut [64] (fun x64 wx => x64 = .bool false ∧ wx = wo)
        case first =>
          rcases hjc with rfl | ⟨hjl, hj12⟩
          · have hn1 : ¬ (Ln : Int) < (Ln : Int) := by omega
            go_wp2
            go_meet
            case rel => exact ⟨rfl, rfl⟩
          · have hn1 : (j : Int) < (Ln : Int) := by omega
            have hn2 : ¬ (j : Int) < 16 := by omega
            clear hjl hj12
            go_wp2
            go_meet
            case rel => exact ⟨rfl, rfl⟩
        case rest =>
          obtain ⟨rfl, e9⟩ := hcut
          subst wc
          go_upto_region 28 with fail
          refine region_named fun O hO => ?_
          refine wpList_want (by rw [hO]; kernel_rfl) fun K9 hK9 => ?_
          go_simp
          go_at_call 10
          refine (cone).mono ?_
          rintro e w9 ⟨rfl, g9⟩
          refine hK9 _ _ ?_
          clear hK9 K9
          (try simp only [Act.put, pq1, pq2, pq3])
          refine wpList_val (by rw [hO]; kernel_rfl) (.bool true) (fun K9 hK9 => by go_simp; exact hK9) ?_
          (try simp only [Act.put, pq1, pq2, pq3])
          go_wp2
          go_ret
          exact ⟨rfl, tn G g9⟩

end Go.Proofs.YtjckdgapefaokaaDoor
