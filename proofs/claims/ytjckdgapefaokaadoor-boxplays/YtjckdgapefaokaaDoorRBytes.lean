/- What the document's Bytes (package coffretref07) answers: the bytes that our own words tell. Of texts of at most 1000 bytes, and as many bytes. -/
import Derived.Test.YtjckdgapefaokaaDoorDKeep
import Derived.Test.YtjckdgapefaokaaDoorRSum
import Derived.Deep.CutBlock
import Derived.Deep.DeepCutAuto
namespace Go.Proofs.YtjckdgapefaokaaDoor
open Go.RowKit

theorem slice_str (l : List UInt8) (lo hi : Nat) (h1 : lo ≤ hi) (h2 : hi ≤ l.length) (W : World) : (Instr.slice 9 (.string (str l)) (some (.int .i64 (lo : Int))) (some (.int .i64 (hi : Int))) none).run Tryd.prog W = .ok (.string (str ((l.drop lo).take (hi - lo)))) W := by
  rw [run_slice_string_if _ _ _ _ _ _ _ Tryd.underlying9]
  rw [if_pos (by rw [str_size]; omega), if_pos ⟨by omega, by omega⟩, Int.toNat_natCast, Int.toNat_natCast, str_sub]

theorem slice_str_to (l : List UInt8) (hi : Nat) (h2 : hi ≤ l.length) (W : World) : (Instr.slice 9 (.string (str l)) none (some (.int .i64 (hi : Int))) none).run Tryd.prog W = .ok (.string (str (l.take hi))) W := by
  rw [run_slice_string_h W 9 _ Tryd.underlying9 .i64 (hi : Int) (by omega) (by rw [str_size]; omega), Int.toNat_natCast, str_sub, List.drop_zero, Nat.sub_zero]

theorem told_more (T : List UInt8) (a m f : Nat) (h : a + m = T.length + f) : told T a m ++ (sumAt T (f / 32)).drop (f % 32) = told T a (m + (32 - f % 32)) := by
  have := told_sum T f (32 - f % 32) (by omega)
  rw [List.take_of_length_le (by rw [List.length_drop, sumAt_length]; omega)] at this
  rw [← this, told_add, h]

set_option maxRecDepth 100000 in
set_option maxHeartbeats 2000000 in
theorem rbytes_any (w : World) (T : List UInt8) (a n : Nat) (hT : T.length ≤ 1000) (ha : a ≤ 100000) (hn : n ≤ 1000) :
    Calls Tryd.prog 44 #[.string (str T), .int .i64 (a : Int), .int .i64 (n : Int)] w fun e w' => e = .returned (.string (str (told T a n))) ∧ w.grownBy w' none := by
  obtain ⟨L, hL⟩ : ∃ L, L = T.length := ⟨_, rfl⟩
  obtain ⟨S, hS⟩ : ∃ S, S = str T := ⟨_, rfl⟩
  have hsz : S.size = L := by rw [hS, str_size, hL]
  obtain ⟨m0, hm0⟩ : ∃ m0, m0 = if a < L then min L (a + n) - a else 0 := ⟨_, rfl⟩
  have hm1 : (n ≤ m0 ∨ L ≤ a + m0) ∧ m0 ≤ n := by
    rw [hm0]; split <;> omega
  have hi32 : (Tryd.prog.info? 36).map (·.size) = some 32 := by kernel_rfl
  obtain ⟨A, hA⟩ : ∃ A, A = shaL T := ⟨_, rfl⟩
  have hAl : A.length = 32 := by rw [hA]; exact shaL_length _
  have hsA : ((A.map bv).toArray).size = 32 := by simp [hAl]
  have c1 := fun V => rsum_any V T (by omega)
  rw [← hA, ← hS] at c1
  have hzv := zero_32
  obtain ⟨Z, hZ⟩ : ∃ Z : List Value, Z = (List.replicate 32 (0 : UInt8)).map bv := ⟨_, rfl⟩
  rw [← hZ] at hzv
  have hZs : Z.toArray.size = 32 := by rw [hZ]; rfl
  have slA : ∀ (p : Nat) (W : World), (Instr.sliceAt 36 (.pointer (some ⟨p, 0, none⟩)) none none none).run Tryd.prog W = .ok (.slice (some ⟨p, 0, none⟩) 32 32) W := fun p W => slice_whole5 36 5 32 Tryd.underlying36 size_byte p 0 (by omega) W
  obtain ⟨SA, hSA⟩ : ∃ S, S = str A := ⟨_, rfl⟩
  have hcv : ∀ W p, Blk W p 36 (A.map bv) → (convert 22 9 (.slice (some ⟨p, 0, none⟩) 32 32)).run Tryd.prog W = .ok (.string SA) W := fun W p h => by
    have := conv_str (blk_bytes h 32 (by omega) (by decide))
    rw [hAl] at this
    rw [hSA]; exact this
  have hst0 : ∀ lo hi : Nat, lo ≤ hi → hi ≤ L → ∀ W, (Instr.slice 9 (.string S) (some (.int .i64 (lo : Int))) (some (.int .i64 (hi : Int))) none).run Tryd.prog W = .ok (.string (str ((T.drop lo).take (hi - lo)))) W := fun lo hi h1 h2 W => by rw [hS]; exact slice_str T lo hi h1 (by omega) W
  rw [← hS]
  have HZS := hide hZs
  have HSA := hide hsA
  have HCV := hide hcv
  have HM1 := hide hm1
  have HT := hide hT
  have HL := hide hL
  have HA := hide hA
  have HSS := hide hSA
  have HST := hide hst0
  have HS := hide hS
  clear hZ hZs hsA hcv hm1 hAl hS hA hSA hT hst0 hL
  go_enter Tryd.func44, Tryd.ntmps44
  go_upto_if 14 with fail
  go_cut [7] (fun x7 wx => x7 = .string (str (told T a m0)) ∧ wx = w)
  case first =>
    by_cases hal : a < L
    · have h1 : (a : Int) < (L : Int) := by omega
      have hmx : ¬ (n : Int) < 0 := by omega
      have hwa : IntKind.i64.wrap ((a : Int) + (n : Int)) = (a : Int) + (n : Int) := by rw [IntKind.wrap_i64]; omega
      clear HST
      go_wp2
      go_meet
      case rel =>
        refine ⟨?_, rfl⟩
        rw [if_pos hal] at hm0
        have e1 : (min (L : Int) ((a : Int) + (n : Int))).toNat = min L (a + n) := by omega
        rw [e1, unhide HS, str_sub, hm0, told_texts T a _ (by have := unhide HL; omega)]
    · have h1 : ¬ (a : Int) < (L : Int) := by omega
      rw [if_neg hal] at hm0
      subst hm0
      clear hal
      go_wp2
      go_meet
      case rel => exact ⟨rfl, rfl⟩
  case rest =>
    obtain ⟨rfl, e9⟩ := hcut
    subst wc
    clear hm0 HST
    have hN2 : ∀ V : World, Blk (V.alloc (.cells Z.toArray 36)) V.heap.size 36 Z := fun V => Blk.new V _ Z
    go_wp2_with (first
      | (go_at_call 59; refine (c1 _).mono ?_; rintro e w2 ⟨rfl, g2⟩; clear c1)
      | (refine wpList_store_row rfl 36 _ _ rfl w2.heap.size _ rfl rfl _ _ (hN2 w2) ?_ ?_ ?_ ?_; (rw [unhide HSA]; exact hi32); (rw [unhide HSA, unhide HZS]); (exact all_oneCell_toArray (bv_one _)); obtain ⟨W3, hW3⟩ : ∃ W3, W3 = (w2.alloc (.cells Z.toArray 36)).setRow w2.heap.size (A.map bv).toArray := ⟨_, rfl⟩; have hB3 := (hN2 w2).row (A.map bv); rw [← hW3] at hB3 ⊢; have g3 : w.grownBy W3 none := (by rw [hW3]; exact gb_row (gb_alloc g2 _) _ (Or.inl g2.size)); clear hW3))
    (try simp only [Act.put])
    go_loopw [7] (fun x7 wr => ∃ m : Nat, x7 = .string (str (told T a m)) ∧ (n ≤ m ∨ L ≤ a + m) ∧ m ≤ n + 32 ∧ W3.grownBy wr none) (fun x7 _ => n + 32 - (match x7 with | .string s => s.size | _ => 0))
    case atStart => exact ⟨m0, rfl, (unhide HM1).1, by have := (unhide HM1).2; omega, gb_refl _ _⟩
    case round =>
      obtain ⟨m, rfl, hmd, hmn, g⟩ := hrel
      have hms : (str (told T a m)).size = m := by rw [str_size, told_length]
      by_cases hlt : m < n
      · have hle : L ≤ a + m := by omega
        obtain ⟨f, hf⟩ : ∃ f, f = a + m - L := ⟨_, rfl⟩
        obtain ⟨q, hq⟩ : ∃ q, q = f / 32 := ⟨_, rfl⟩
        obtain ⟨r, hr⟩ : ∃ r, r = f % 32 := ⟨_, rfl⟩
        have hr32 : r < 32 := by omega
        obtain ⟨D, hD⟩ : ∃ D, D = sumAt T q := ⟨_, rfl⟩
        have hDl : D.length = 32 := by rw [hD]; exact sumAt_length _ _
        have hsD : ((D.map bv).toArray).size = 32 := by simp [hDl]
        have hAl : A.length = 32 := by rw [unhide HA]; exact shaL_length _
        have c2 := fun V => rput_any V A q 8 (by omega) (by omega)
        have c3 := fun V => rsum_any V (A ++ lb q 8) (by rw [List.length_append, hAl, lb_len]; omega)
        rw [show nb 8 = 8 from by decide] at c2
        rw [show shaL (A ++ lb q 8) = D by rw [hD, unhide HA]; rfl] at c3
        obtain ⟨SS, hSS⟩ : ∃ S, S = str (A ++ lb q 8) := ⟨_, rfl⟩
        rw [← hSS] at c2 c3
        rw [← unhide HSS] at c2
        have hmore := told_more T a m f (by have := unhide HL; omega)
        rw [← hq, ← hr, ← hD] at hmore
        have hcvD : ∀ W p, Blk W p 36 (D.map bv) → (convert 22 9 (.slice (some ⟨p, r, none⟩) (32 - r) (32 - r))).run Tryd.prog W = .ok (.string (str (D.drop r))) W := fun W p h => by
          have h2 := (blk_bytes h 32 (by omega) (by decide)).drop r (by omega)
          have := conv_str h2
          rw [List.length_drop, hDl] at this
          rw [show cutA (some (⟨p, 0, none⟩ : Addr)) 32 r = some ⟨p, r, none⟩ by unfold cutA; rw [if_neg (by omega)]; show some (Addr.add ⟨p, 0, none⟩ r) = _; rw [Addr.add_lit, Nat.zero_add]] at this
          exact this
        have slD : ∀ (p : Nat) (W : World), (Instr.sliceAt 36 (.pointer (some ⟨p, 0, none⟩)) (some (.int .i64 (r : Int))) none none).run Tryd.prog W = .ok (.slice (some ⟨p, r, none⟩) (32 - r) (32 - r)) W := fun p W => slice_arr_tail 36 5 32 Tryd.underlying36 size_byte p r hr32 W
        have hcv3 := unhide HCV wr w2.heap.size (hB3.kept g (by simp))
        have hij : (a : Int) + (m : Int) - (L : Int) = (f : Int) := by omega
        have hjq : (f : Int).tdiv 32 = (q : Int) := by rw [Int.tdiv_eq_ediv_of_nonneg (by omega)]; omega
        have hjr : (f : Int).tmod 32 = (r : Int) := by rw [Int.tmod_eq_emod_of_nonneg (by omega)]; omega
        have hjq' : (f : Int) / 32 = (q : Int) := by omega
        have hjr' : (f : Int) % 32 = (r : Int) := by omega
        have hwa : IntKind.i64.wrap ((a : Int) + (m : Int)) = (a : Int) + (m : Int) := by rw [IntKind.wrap_i64]; omega
        have hwj : IntKind.i64.wrap (f : Int) = (f : Int) := by rw [IntKind.wrap_i64]; omega
        have hwq : IntKind.i64.wrap (q : Int) = (q : Int) := by rw [IntKind.wrap_i64]; omega
        have hwu : IntKind.u64.wrap (q : Int) = (q : Int) := by rw [IntKind.wrap_u64]; omega
        have hmni : (m : Int) < (n : Int) := by omega
        have happ : str (told T a m) ++ str (D.drop r) = str (told T a (m + (32 - r))) := by rw [str_app, hmore]
        obtain ⟨SO, hSO⟩ : ∃ S, S = str (told T a m) := ⟨_, rfl⟩
        obtain ⟨SD, hSD⟩ : ∃ S, S = str (D.drop r) := ⟨_, rfl⟩
        obtain ⟨SN, hSN⟩ : ∃ S, S = str (told T a (m + (32 - r))) := ⟨_, rfl⟩
        rw [← hSO, ← hSD, ← hSN] at happ
        rw [← hSO] at hms
        simp only [← hSD] at hcvD
        rw [← hSO]
        have hsd : SD.size = 32 - r := by rw [hSD, str_size, List.length_drop, hDl]
        have hlim : m + (32 - r) ≤ 9223372036854775807 := by omega
        have HSD := hide hsD
        have HCD := hide hcvD
        have HSN := hide hSN
        have HR32 := hide hr32
        have hm2 : m + (32 - r) ≤ n + 32 := by omega
        have hm3 : n ≤ m + (32 - r) ∨ L ≤ a + (m + (32 - r)) := by omega
        have HM2 := hide hm2
        have HM3 := hide hm3
        clear hf hq hr hD hDl hsD hAl hSS hmore hcvD hSO hSD hSN hr32 hle hmd hmn hm2 hm3
        go_wp2_with (first
          | (go_at_call 60; refine (c2 _).mono ?_; rintro e w4 ⟨rfl, g4⟩; clear c2)
          | (go_at_call 59; refine (c3 _).mono ?_; rintro e w5 ⟨rfl, g5⟩; clear c3)
          | (refine wpList_store_row rfl 36 _ _ rfl w5.heap.size _ rfl rfl _ _ (hN2 w5) ?_ ?_ ?_ ?_; (rw [unhide HSD]; exact hi32); (rw [unhide HSD, unhide HZS]); (exact all_oneCell_toArray (bv_one _)); obtain ⟨W6, hW6⟩ : ∃ W6, W6 = (w5.alloc (.cells Z.toArray 36)).setRow w5.heap.size (D.map bv).toArray := ⟨_, rfl⟩; have hB6 := (hN2 w5).row (D.map bv); rw [← hW6] at hB6 ⊢; have g5' := gb_trans g (gb_trans g4 g5 (fun _ e => by cases e)) (fun _ e => by cases e); have g6 : W3.grownBy W6 none := (by rw [hW6]; exact gb_row (gb_alloc g5' _) _ (Or.inl g5'.size)); have hcv6 := unhide HCD W6 _ hB6; clear hW6 hB6))
        go_roundw
        case rel => exact ⟨m + (32 - r), by rw [unhide HSN], unhide HM3, unhide HM2, g6⟩
        case measure =>
          have h1 := unhide HR32
          have h2 := unhide HM2
          have e1 : SN.size = m + (32 - r) := by rw [unhide HSN, str_size, told_length]
          simp only [e1, hms]
          omega
      · have hnm : ¬ (m : Int) < (n : Int) := by omega
        have hmx : ¬ (n : Int) < 0 := by omega
        have hsl := slice_str_to (told T a m) n (by rw [told_length]; omega)
        rw [told_take T a m n (by omega)] at hsl
        have G := tn g3 g
        clear hmd hmn
        go_wp2
        go_ret
        exact ⟨rfl, G⟩

end Go.Proofs.YtjckdgapefaokaaDoor
