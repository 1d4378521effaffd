/- What the document's Open (package coffretref08) answers. Of keys of 32 bytes, texts and besides of at most 1000. -/
import Derived.Test.YtjckdgapefaokaaDoorRBox
import Derived.Test.YtjckdgapefaokaaDoorBIdeal
import Derived.Test.YtjckdgapefaokaaDoorARefO
namespace Go.Proofs.YtjckdgapefaokaaDoor
open Go.RowKit

theorem slice_str_from (l : List UInt8) (lo : Nat) (h2 : lo ≤ l.length) (W : World) : (Instr.slice 9 (.string (str l)) (some (.int .i64 (lo : Int))) none none).run Tryd.prog W = .ok (.string (str (l.drop lo))) W := by
  rw [run_slice_string_l W 9 _ Tryd.underlying9 .i64 (lo : Int) (by omega) (by rw [str_size]; omega), Int.toNat_natCast, str_size, str_sub, List.take_of_length_le (by rw [List.length_drop]; omega)]

set_option maxRecDepth 100000 in
set_option maxHeartbeats 2000000 in
theorem ropen8_any (w : World) (base : Nat) (B : BoxS) (v : Value) (k be s : List UInt8) (hR : Rl w base v B.L) (hk : k.length = 32) (hbe : be.length ≤ 1000) (hs : s.length ≤ 1000) (hm : B.mode = 0 ∨ B.mode = 1) (hn : B.L.length ≤ 100000) :
    Calls Tryd.prog 15 #[.agg (rbC (B.mode : Int) B.T B.u v).toArray, .string (str k), .string (str be), .string (str s)] w fun e w' => e = .returned (.tuple #[.string (str (txtO (B.opn k be s))), .bool (B.opn k be s).isSome]) ∧ w.grownBy w' none := by
  obtain ⟨C, hC⟩ : ∃ C, C = rbC (B.mode : Int) B.T B.u v := ⟨_, rfl⟩
  obtain ⟨W1, hW1⟩ : ∃ W1, W1 = w.alloc (.cells C.toArray 33) := ⟨_, rfl⟩
  have g1 : w.grownBy W1 none := by rw [hW1]; exact gb_alloc (gb_refl _ _) _
  have hC1 : Blk W1 w.heap.size 33 C := by rw [hW1]; exact Blk.new w _ _
  have hc3 : W1.cell? ⟨w.heap.size, 3, none⟩ = some v := by rw [hC1.cell, hC]; rfl
  have hc0 : W1.cell? ⟨w.heap.size, 0, none⟩ = some (.int .i64 (B.mode : Int)) := by rw [hC1.cell, hC]; rfl
  have hR1 := hR.none g1
  obtain ⟨rs, hrs⟩ : ∃ r, r = B.opn k be s := ⟨_, rfl⟩
  rw [← hrs]
  obtain ⟨rS, hrS⟩ : ∃ r, r = str (txtO rs) := ⟨_, rfl⟩
  obtain ⟨rB, hrB⟩ : ∃ r, r = rs.isSome := ⟨_, rfl⟩
  rw [← hrS, ← hrB, ← hC]
  obtain ⟨S, hS⟩ : ∃ S, S = str s := ⟨_, rfl⟩
  obtain ⟨K, hK⟩ : ∃ S, S = str k := ⟨_, rfl⟩
  obtain ⟨E, hE⟩ : ∃ S, S = str be := ⟨_, rfl⟩
  rw [← hS, ← hK, ← hE]
  have hsz : S.size = s.length := by rw [hS, str_size]
  have HW1 := hide hW1
  rcases hm with hm | hm
  · rw [hm] at hc0
    have hcz : W1.cell? ⟨w.heap.size, 0, none⟩ = some (.int .i64 0) := hc0
    by_cases h28 : s.length < 28
    · have ho : rs = none := by rw [hrs]; unfold BoxS.opn; rw [if_pos hm, if_pos h28]
      have e1 : rS = { data := #[] } := by rw [hrS, ho]; rfl
      have e2 : rB = false := by rw [hrB, ho]; rfl
      obtain ⟨n, hn'⟩ : ∃ n, n = s.length := ⟨_, rfl⟩
      rw [← hn'] at hsz h28
      have hi : (n : Int) < 28 := by omega
      have HE1 := hide e1
      have HE2 := hide e2
      clear hC hW1 hC1 hc3 hc0 hR1 hR hrs hrS hrB hS hK hE hn' h28 ho e1 e2 hm
      go_enter Tryd.func15, Tryd.ntmps15
      go_upto_region 1 with fail
      rw [← unhide HW1]
      go_wp2
      go_ret2
      exact ⟨by rw [unhide HE1, unhide HE2]; rfl, g1⟩
    · have cop := ropen6_any W1.drew k (s.take 12) be (s.drop 12) hk (by rw [List.length_take]; omega) (by omega) (by rw [List.length_drop]; omega)
      have hres : str (openL k (s.take 12) be (s.drop 12)) = rS ∧ openB k (s.take 12) be (s.drop 12) = rB := by
        rw [hrS, hrB, hrs]
        unfold BoxS.opn
        rw [if_pos hm, if_neg h28]
        cases hb : openB k (s.take 12) be (s.drop 12) with
        | true => exact ⟨rfl, rfl⟩
        | false => exact ⟨by rw [openL_no hb]; rfl, rfl⟩
      rw [hres.1, hres.2, ← hK, ← hE] at cop
      obtain ⟨SN, hSN⟩ : ∃ S, S = str (s.take 12) := ⟨_, rfl⟩
      obtain ⟨SD, hSD⟩ : ∃ S, S = str (s.drop 12) := ⟨_, rfl⟩
      rw [← hSN, ← hSD] at cop
      have sl1 : ∀ W, (Instr.slice 9 (.string S) none (some (.int .i64 12)) none).run Tryd.prog W = .ok (.string SN) W := fun W => by rw [hS, hSN]; exact slice_str_to s 12 (by omega) W
      have sl2 : ∀ W, (Instr.slice 9 (.string S) (some (.int .i64 12)) none none).run Tryd.prog W = .ok (.string SD) W := fun W => by rw [hS, hSD]; exact slice_str_from s 12 (by omega) W
      obtain ⟨n, hn'⟩ : ∃ n, n = s.length := ⟨_, rfl⟩
      rw [← hn'] at hsz h28
      have hi : ¬ (n : Int) < 28 := by omega
      have h0 : W1.grownBy W1.drew none := gb_drew (gb_refl _ _)
      have HSZ := hide hsz
      clear hC hW1 hC1 hc3 hc0 hR1 hR hrs hrS hrB hS hK hE hn' h28 hres hSN hSD hm
      go_enter Tryd.func15, Tryd.ntmps15
      go_upto_region 1 with fail
      rw [← unhide HW1]
      go_upto_region 4 with fail
      refine wp_region_noPanic ?_
      refine wp_region_held_drew (S := fun V => W1.grownBy V none) (by kernel_rfl) h0 (fun _ => ?_)
      refine wpAnyH_take (i := 0) (oi := { dst := some 17, op := Op.move (Operand.tmp 1), type := _, pos := _, after := _, guard := _ }) (v := .string K) rfl (by kernel_rfl) (by kernel_rfl) (by kernel_rfl) (fun _ _ _ h => h) (Or.inl ⟨by rfl, fun V (hV : W1.grownBy V none) => by go_simp⟩) h0 ?_
      (try simp only [Act.put, pq1, pq2, pq3])
      refine wpAnyH_take (i := 1) (oi := { dst := some 18, op := Op.move (Operand.tmp 3), type := _, pos := _, after := _, guard := _ }) (v := .string S) rfl (by kernel_rfl) (by kernel_rfl) (by kernel_rfl) (fun _ _ _ h => h) (Or.inl ⟨by rfl, fun V (hV : W1.grownBy V none) => by go_simp⟩) h0 ?_
      (try simp only [Act.put, pq1, pq2, pq3])
      refine wpAnyH_take (i := 2) (oi := { dst := some 19, op := Op.slice 9 (Operand.tmp 18) none (some (Operand.const (Value.int IntKind.i64 12))) none, type := _, pos := _, after := _, guard := _ }) (v := .string SN) rfl (by kernel_rfl) (by kernel_rfl) (by kernel_rfl) (fun _ _ _ h => h) (Or.inl ⟨by rfl, fun V (hV : W1.grownBy V none) => by go_simp⟩) h0 ?_
      (try simp only [Act.put, pq1, pq2, pq3])
      refine wpAnyH_take (i := 3) (oi := { dst := some 20, op := Op.move (Operand.tmp 2), type := _, pos := _, after := _, guard := _ }) (v := .string E) rfl (by kernel_rfl) (by kernel_rfl) (by kernel_rfl) (fun _ _ _ h => h) (Or.inl ⟨by rfl, fun V (hV : W1.grownBy V none) => by go_simp⟩) h0 ?_
      (try simp only [Act.put, pq1, pq2, pq3])
      refine wpAnyH_take (i := 4) (oi := { dst := some 21, op := Op.move (Operand.tmp 3), type := _, pos := _, after := _, guard := _ }) (v := .string S) rfl (by kernel_rfl) (by kernel_rfl) (by kernel_rfl) (fun _ _ _ h => h) (Or.inl ⟨by rfl, fun V (hV : W1.grownBy V none) => by go_simp⟩) h0 ?_
      (try simp only [Act.put, pq1, pq2, pq3])
      refine wpAnyH_take (i := 5) (oi := { dst := some 22, op := Op.slice 9 (Operand.tmp 21) (some (Operand.const (Value.int IntKind.i64 12))) none none, type := _, pos := _, after := _, guard := _ }) (v := .string SD) rfl (by kernel_rfl) (by kernel_rfl) (by kernel_rfl) (fun _ _ _ h => h) (Or.inl ⟨by rfl, fun V (hV : W1.grownBy V none) => by go_simp⟩) h0 ?_
      (try simp only [Act.put, pq1, pq2, pq3])
      refine wpAnyH_ready (rs := [6]) (by kernel_rfl) (by simp) ?_
      refine AllReadyH.cons (o := { dst := some 23, op := Op.call { callee := Callee.value (Operand.func 34), args := #[(Operand.tmp 17), (Operand.tmp 19), (Operand.tmp 20), (Operand.tmp 22)], argTypes := #[9, 9, 9, 9] }, type := _, pos := _, after := _, guard := _ }) rfl (fun K9 hK9 => ?_) AllReadyH.nil
      go_simp
      go_at_call 34
      refine (cop).mono ?_
      rintro e w2 ⟨rfl, gd⟩
      go_wp2_with fail
      refine hK9.out _ _ (tn h0 gd) (fun _ => ?_)
      clear hK9 K9
      (try simp only [Act.put, pq1, pq2, pq3])
      have h2 := tn h0 gd
      refine wpAnyH_take (i := 7) (oi := { dst := some 24, op := Op.extract (Operand.tmp 23) 0, type := _, pos := _, after := _, guard := _ }) (v := .string rS) rfl (by kernel_rfl) (by kernel_rfl) (by kernel_rfl) (fun _ _ _ h => h) (Or.inl ⟨by rfl, fun V (hV : W1.grownBy V none) => by go_simp⟩) h2 ?_
      (try simp only [Act.put, pq1, pq2, pq3])
      refine wpAnyH_take (i := 8) (oi := { dst := some 25, op := Op.extract (Operand.tmp 23) 1, type := _, pos := _, after := _, guard := _ }) (v := .bool rB) rfl (by kernel_rfl) (by kernel_rfl) (by kernel_rfl) (fun _ _ _ h => h) (Or.inl ⟨by rfl, fun V (hV : W1.grownBy V none) => by go_simp⟩) h2 ?_
      (try simp only [Act.put, pq1, pq2, pq3])
      refine wpAnyH_take (i := 9) (oi := { dst := some 8, op := Op.assign (Operand.tmp 24), type := _, pos := _, after := _, guard := _ }) (v := .string rS) rfl (by kernel_rfl) (by kernel_rfl) (by kernel_rfl) (fun _ _ _ h => h) (Or.inl ⟨by rfl, fun V (hV : W1.grownBy V none) => by go_simp⟩) h2 ?_
      (try simp only [Act.put, pq1, pq2, pq3])
      refine wpAnyH_take (i := 10) (oi := { dst := some 9, op := Op.assign (Operand.tmp 25), type := _, pos := _, after := _, guard := _ }) (v := .bool rB) rfl (by kernel_rfl) (by kernel_rfl) (by kernel_rfl) (fun _ _ _ h => h) (Or.inl ⟨by rfl, fun V (hV : W1.grownBy V none) => by go_simp⟩) h2 ?_
      (try simp only [Act.put, pq1, pq2, pq3])
      refine wpAnyH_done (by kernel_rfl) ?_ _
      refine NoPanic.normal ?_
      go_wp2
      go_ret2
      exact ⟨rfl, tn g1 h2⟩
  · rw [hm] at hc0
    have hcz : W1.cell? ⟨w.heap.size, 0, none⟩ = some (.int .i64 1) := hc0
    obtain ⟨lo, lc, rfl, hlo⟩ := hR.form
    obtain ⟨n, hnn⟩ : ∃ n, n = B.L.length := ⟨_, rfl⟩
    rw [← hnn] at hc3 hR1 hlo hn
    have hrs' : rs = (B.L.find? fun e => e.s == s && (e.k == k && e.be == be)).map (·.tx) := by
      rw [hrs]; unfold BoxS.opn; rw [if_neg (by rw [hm]; omega)]
    have HRS := hide hrs'
    have HRT := hide hrS
    have HRB := hide hrB
    have HS := hide hS
    have HK := hide hK
    have HE := hide hE
    have HN := hide hnn
    clear hC hC1 hW1 hc0 hR hrs hrS hrB hS hK hE hnn hrs' hm hsz
    go_enter Tryd.func15, Tryd.ntmps15
    go_upto_region 1 with fail
    rw [← unhide HW1]
    go_wp2
    go_loopw [10] (fun i wr => ∃ j : Nat, j ≤ n ∧ i = .int .i64 j ∧ wr = W1 ∧ ∀ i (h : i < B.L.length), i < j → (B.L[i].s == s && (B.L[i].k == k && B.L[i].be == be)) = false) (fun i _ => n - (intOf i).toNat)
    case atStart => exact ⟨0, Nat.zero_le _, rfl, rfl, fun i h h2 => by omega⟩
    case round =>
      obtain ⟨j, hj, rfl, e8, hno⟩ := hrel
      subst wr
      by_cases hlt : j < n
      · have hjL : j < B.L.length := by have := unhide HN; omega
        obtain ⟨g, rfl⟩ := hlo (by omega)
        have hce0 := hR1.cell j 0 hjL (by omega)
        have hce1 := hR1.cell j 1 hjL (by omega)
        have hce2 := hR1.cell j 2 hjL (by omega)
        have hce3 := hR1.cell j 3 hjL (by omega)
        obtain ⟨x, hx⟩ : ∃ x, x = B.L[j] := ⟨_, rfl⟩
        rw [← hx] at hce0 hce1 hce2 hce3
        obtain ⟨E0, hE0⟩ : ∃ E, E = str x.s := ⟨_, rfl⟩
        obtain ⟨E1, hE1⟩ : ∃ E, E = str x.k := ⟨_, rfl⟩
        obtain ⟨E2, hE2⟩ : ∃ E, E = str x.be := ⟨_, rfl⟩
        obtain ⟨E3, hE3⟩ : ∃ E, E = str x.tx := ⟨_, rfl⟩
        have hd0 : W1.cell? ⟨g, j * 4, none⟩ = some (.string E0) := by rw [hE0]; exact hce0
        have hd1 : W1.cell? ⟨g, j * 4 + 1, none⟩ = some (.string E1) := by rw [hE1]; exact hce1
        have hd2 : W1.cell? ⟨g, j * 4 + 2, none⟩ = some (.string E2) := by rw [hE2]; exact hce2
        have hd3 : W1.cell? ⟨g, j * 4 + 3, none⟩ = some (.string E3) := by rw [hE3]; exact hce3
        have q0 : (E0.toList == S.toList) = (x.s == s) := by rw [hE0, unhide HS, str_list, str_list]
        have q1 : (E1.toList == K.toList) = (x.k == k) := by rw [hE1, unhide HK, str_list, str_list]
        have q2 : (E2.toList == E.toList) = (x.be == be) := by rw [hE2, unhide HE, str_list, str_list]
        have hji : (j : Int) < (n : Int) := by omega
        have hj0 : (0 : Int) ≤ (j : Int) := by omega
        have hwj : IntKind.i64.wrap ((j : Int) + 1) = (j : Int) + 1 := by rw [IntKind.wrap_i64]; omega
        have hnext : (x.s == s && (x.k == k && x.be == be)) = false → ∀ i (h : i < B.L.length), i < j + 1 → (B.L[i].s == s && (B.L[i].k == k && B.L[i].be == be)) = false := fun hf i h h2 => by
          by_cases hi : i < j
          · exact hno i h hi
          · have : i = j := by omega
            subst this
            rw [← hx]; exact hf
        have hfound : (x.s == s && (x.k == k && x.be == be)) = true → rS = E3 ∧ rB = true := fun ht => by
          have hf : B.L.find? (fun e => e.s == s && (e.k == k && e.be == be)) = some x := by
            rw [List.find?_eq_some_iff_getElem]
            refine ⟨ht, j, hjL, hx.symm, fun i hi => ?_⟩
            rw [hno i (by omega) hi]; rfl
          have hr : rs = some x.tx := by rw [unhide HRS, hf]; rfl
          exact ⟨by rw [unhide HRT, hr, hE3]; rfl, by rw [unhide HRB, hr]; rfl⟩
        have HNX := hide hnext
        have HFD := hide hfound
        clear hce0 hce1 hce2 hce3 hE0 hE1 hE2 hE3 hno hnext hfound
        cases r0 : (x.s == s) with
        | false =>
          rw [r0] at q0
          have hq := unhide HNX (by rw [r0]; rfl)
          clear q1 q2 HFD HNX
          go_upto_region 8 with fail
          refine region_named fun O hO => ?_
          refine wpList_val (by rw [hO]; kernel_rfl) (.pointer (some ⟨w.heap.size, 3, none⟩)) (fun K9 hK9 => by go_simp; exact hK9) ?_
          (try simp only [Act.put, pq1, pq2, pq3])
          refine wpList_val (by rw [hO]; kernel_rfl) (.slice (some ⟨g, 0, none⟩) n lc) (fun K9 hK9 => by go_simp; exact hK9) ?_
          (try simp only [Act.put, pq1, pq2, pq3])
          refine wpList_val (by rw [hO]; kernel_rfl) (.int .i64 (j : Int)) (fun K9 hK9 => by go_simp; exact hK9) ?_
          (try simp only [Act.put, pq1, pq2, pq3])
          refine wpList_val (by rw [hO]; kernel_rfl) (.pointer (some ⟨g, j * 4, none⟩)) (fun K9 hK9 => by go_simp; exact hK9) ?_
          (try simp only [Act.put, pq1, pq2, pq3])
          refine wpList_val (by rw [hO]; kernel_rfl) (.pointer (some ⟨g, j * 4, none⟩)) (fun K9 hK9 => by go_simp; exact hK9) ?_
          (try simp only [Act.put, pq1, pq2, pq3])
          refine wpList_val (by rw [hO]; kernel_rfl) (.string E0) (fun K9 hK9 => by go_simp; exact hK9) ?_
          (try simp only [Act.put, pq1, pq2, pq3])
          refine wpList_val (by rw [hO]; kernel_rfl) (.string S) (fun K9 hK9 => by go_simp; exact hK9) ?_
          (try simp only [Act.put, pq1, pq2, pq3])
          refine wpList_val (by rw [hO]; kernel_rfl) (.bool false) (fun K9 hK9 => by go_simp; exact hK9) ?_
          (try simp only [Act.put, pq1, pq2, pq3])
          refine wpList_val (by rw [hO]; kernel_rfl) (.bool false) (fun K9 hK9 => by go_simp; exact hK9) ?_
          (try simp only [Act.put, pq1, pq2, pq3])
          refine wpList_skip (by rw [hO]; kernel_rfl) ?_
          (try simp only [Act.put, pq1, pq2, pq3])
          refine wpList_skip (by rw [hO]; kernel_rfl) ?_
          (try simp only [Act.put, pq1, pq2, pq3])
          refine wpList_skip (by rw [hO]; kernel_rfl) ?_
          (try simp only [Act.put, pq1, pq2, pq3])
          refine wpList_skip (by rw [hO]; kernel_rfl) ?_
          (try simp only [Act.put, pq1, pq2, pq3])
          refine wpList_skip (by rw [hO]; kernel_rfl) ?_
          (try simp only [Act.put, pq1, pq2, pq3])
          refine wpList_skip (by rw [hO]; kernel_rfl) ?_
          (try simp only [Act.put, pq1, pq2, pq3])
          refine wpList_skip (by rw [hO]; kernel_rfl) ?_
          (try simp only [Act.put, pq1, pq2, pq3])
          refine wpList_skip (by rw [hO]; kernel_rfl) ?_
          (try simp only [Act.put, pq1, pq2, pq3])
          refine wpList_val (by rw [hO]; kernel_rfl) (.bool false) (fun K9 hK9 => by go_simp; exact hK9) ?_
          (try simp only [Act.put, pq1, pq2, pq3])
          refine wpList_val (by rw [hO]; kernel_rfl) (.bool false) (fun K9 hK9 => by go_simp; exact hK9) ?_
          (try simp only [Act.put, pq1, pq2, pq3])
          refine wpList_skip (by rw [hO]; kernel_rfl) ?_
          (try simp only [Act.put, pq1, pq2, pq3])
          refine wpList_skip (by rw [hO]; kernel_rfl) ?_
          (try simp only [Act.put, pq1, pq2, pq3])
          refine wpList_skip (by rw [hO]; kernel_rfl) ?_
          (try simp only [Act.put, pq1, pq2, pq3])
          refine wpList_skip (by rw [hO]; kernel_rfl) ?_
          (try simp only [Act.put, pq1, pq2, pq3])
          refine wpList_skip (by rw [hO]; kernel_rfl) ?_
          (try simp only [Act.put, pq1, pq2, pq3])
          refine wpList_skip (by rw [hO]; kernel_rfl) ?_
          (try simp only [Act.put, pq1, pq2, pq3])
          refine wpList_skip (by rw [hO]; kernel_rfl) ?_
          (try simp only [Act.put, pq1, pq2, pq3])
          refine wpList_skip (by rw [hO]; kernel_rfl) ?_
          (try simp only [Act.put, pq1, pq2, pq3])
          refine wpList_val (by rw [hO]; kernel_rfl) (.bool false) (fun K9 hK9 => by go_simp; exact hK9) ?_
          (try simp only [Act.put, pq1, pq2, pq3])
          go_wp2
          go_roundw
          case rel => exact ⟨j + 1, by omega, by go_num, trivial, hq⟩
          case measure => simp [intOf]; omega
        | true =>
          rw [r0] at q0
          cases r1 : (x.k == k) with
          | false =>
            rw [r1] at q1
            have hq := unhide HNX (by rw [r0, r1]; rfl)
            clear q2 HFD HNX
            go_upto_region 8 with fail
            refine region_named fun O hO => ?_
            refine wpList_val (by rw [hO]; kernel_rfl) (.pointer (some ⟨w.heap.size, 3, none⟩)) (fun K9 hK9 => by go_simp; exact hK9) ?_
            (try simp only [Act.put, pq1, pq2, pq3])
            refine wpList_val (by rw [hO]; kernel_rfl) (.slice (some ⟨g, 0, none⟩) n lc) (fun K9 hK9 => by go_simp; exact hK9) ?_
            (try simp only [Act.put, pq1, pq2, pq3])
            refine wpList_val (by rw [hO]; kernel_rfl) (.int .i64 (j : Int)) (fun K9 hK9 => by go_simp; exact hK9) ?_
            (try simp only [Act.put, pq1, pq2, pq3])
            refine wpList_val (by rw [hO]; kernel_rfl) (.pointer (some ⟨g, j * 4, none⟩)) (fun K9 hK9 => by go_simp; exact hK9) ?_
            (try simp only [Act.put, pq1, pq2, pq3])
            refine wpList_val (by rw [hO]; kernel_rfl) (.pointer (some ⟨g, j * 4, none⟩)) (fun K9 hK9 => by go_simp; exact hK9) ?_
            (try simp only [Act.put, pq1, pq2, pq3])
            refine wpList_val (by rw [hO]; kernel_rfl) (.string E0) (fun K9 hK9 => by go_simp; exact hK9) ?_
            (try simp only [Act.put, pq1, pq2, pq3])
            refine wpList_val (by rw [hO]; kernel_rfl) (.string S) (fun K9 hK9 => by go_simp; exact hK9) ?_
            (try simp only [Act.put, pq1, pq2, pq3])
            refine wpList_val (by rw [hO]; kernel_rfl) (.bool true) (fun K9 hK9 => by go_simp; exact hK9) ?_
            (try simp only [Act.put, pq1, pq2, pq3])
            refine wpList_val (by rw [hO]; kernel_rfl) (.bool true) (fun K9 hK9 => by go_simp; exact hK9) ?_
            (try simp only [Act.put, pq1, pq2, pq3])
            refine wpList_val (by rw [hO]; kernel_rfl) (.pointer (some ⟨w.heap.size, 3, none⟩)) (fun K9 hK9 => by go_simp; exact hK9) ?_
            (try simp only [Act.put, pq1, pq2, pq3])
            refine wpList_val (by rw [hO]; kernel_rfl) (.slice (some ⟨g, 0, none⟩) n lc) (fun K9 hK9 => by go_simp; exact hK9) ?_
            (try simp only [Act.put, pq1, pq2, pq3])
            refine wpList_val (by rw [hO]; kernel_rfl) (.int .i64 (j : Int)) (fun K9 hK9 => by go_simp; exact hK9) ?_
            (try simp only [Act.put, pq1, pq2, pq3])
            refine wpList_val (by rw [hO]; kernel_rfl) (.pointer (some ⟨g, j * 4, none⟩)) (fun K9 hK9 => by go_simp; exact hK9) ?_
            (try simp only [Act.put, pq1, pq2, pq3])
            refine wpList_val (by rw [hO]; kernel_rfl) (.pointer (some ⟨g, j * 4 + 1, none⟩)) (fun K9 hK9 => by go_simp; exact hK9) ?_
            (try simp only [Act.put, pq1, pq2, pq3])
            refine wpList_val (by rw [hO]; kernel_rfl) (.string E1) (fun K9 hK9 => by go_simp; exact hK9) ?_
            (try simp only [Act.put, pq1, pq2, pq3])
            refine wpList_val (by rw [hO]; kernel_rfl) (.string K) (fun K9 hK9 => by go_simp; exact hK9) ?_
            (try simp only [Act.put, pq1, pq2, pq3])
            refine wpList_val (by rw [hO]; kernel_rfl) (.bool false) (fun K9 hK9 => by go_simp; exact hK9) ?_
            (try simp only [Act.put, pq1, pq2, pq3])
            refine wpList_val (by rw [hO]; kernel_rfl) (.bool false) (fun K9 hK9 => by go_simp; exact hK9) ?_
            (try simp only [Act.put, pq1, pq2, pq3])
            refine wpList_val (by rw [hO]; kernel_rfl) (.bool false) (fun K9 hK9 => by go_simp; exact hK9) ?_
            (try simp only [Act.put, pq1, pq2, pq3])
            refine wpList_skip (by rw [hO]; kernel_rfl) ?_
            (try simp only [Act.put, pq1, pq2, pq3])
            refine wpList_skip (by rw [hO]; kernel_rfl) ?_
            (try simp only [Act.put, pq1, pq2, pq3])
            refine wpList_skip (by rw [hO]; kernel_rfl) ?_
            (try simp only [Act.put, pq1, pq2, pq3])
            refine wpList_skip (by rw [hO]; kernel_rfl) ?_
            (try simp only [Act.put, pq1, pq2, pq3])
            refine wpList_skip (by rw [hO]; kernel_rfl) ?_
            (try simp only [Act.put, pq1, pq2, pq3])
            refine wpList_skip (by rw [hO]; kernel_rfl) ?_
            (try simp only [Act.put, pq1, pq2, pq3])
            refine wpList_skip (by rw [hO]; kernel_rfl) ?_
            (try simp only [Act.put, pq1, pq2, pq3])
            refine wpList_skip (by rw [hO]; kernel_rfl) ?_
            (try simp only [Act.put, pq1, pq2, pq3])
            refine wpList_val (by rw [hO]; kernel_rfl) (.bool false) (fun K9 hK9 => by go_simp; exact hK9) ?_
            (try simp only [Act.put, pq1, pq2, pq3])
            go_wp2
            go_roundw
            case rel => exact ⟨j + 1, by omega, by go_num, trivial, hq⟩
            case measure => simp [intOf]; omega
          | true =>
            rw [r1] at q1
            cases r2 : (x.be == be) with
            | false =>
              rw [r2] at q2
              have hq := unhide HNX (by rw [r0, r1, r2]; rfl)
              clear HFD HNX
              go_upto_region 8 with fail
              refine region_named fun O hO => ?_
              refine wpList_val (by rw [hO]; kernel_rfl) (.pointer (some ⟨w.heap.size, 3, none⟩)) (fun K9 hK9 => by go_simp; exact hK9) ?_
              (try simp only [Act.put, pq1, pq2, pq3])
              refine wpList_val (by rw [hO]; kernel_rfl) (.slice (some ⟨g, 0, none⟩) n lc) (fun K9 hK9 => by go_simp; exact hK9) ?_
              (try simp only [Act.put, pq1, pq2, pq3])
              refine wpList_val (by rw [hO]; kernel_rfl) (.int .i64 (j : Int)) (fun K9 hK9 => by go_simp; exact hK9) ?_
              (try simp only [Act.put, pq1, pq2, pq3])
              refine wpList_val (by rw [hO]; kernel_rfl) (.pointer (some ⟨g, j * 4, none⟩)) (fun K9 hK9 => by go_simp; exact hK9) ?_
              (try simp only [Act.put, pq1, pq2, pq3])
              refine wpList_val (by rw [hO]; kernel_rfl) (.pointer (some ⟨g, j * 4, none⟩)) (fun K9 hK9 => by go_simp; exact hK9) ?_
              (try simp only [Act.put, pq1, pq2, pq3])
              refine wpList_val (by rw [hO]; kernel_rfl) (.string E0) (fun K9 hK9 => by go_simp; exact hK9) ?_
              (try simp only [Act.put, pq1, pq2, pq3])
              refine wpList_val (by rw [hO]; kernel_rfl) (.string S) (fun K9 hK9 => by go_simp; exact hK9) ?_
              (try simp only [Act.put, pq1, pq2, pq3])
              refine wpList_val (by rw [hO]; kernel_rfl) (.bool true) (fun K9 hK9 => by go_simp; exact hK9) ?_
              (try simp only [Act.put, pq1, pq2, pq3])
              refine wpList_val (by rw [hO]; kernel_rfl) (.bool true) (fun K9 hK9 => by go_simp; exact hK9) ?_
              (try simp only [Act.put, pq1, pq2, pq3])
              refine wpList_val (by rw [hO]; kernel_rfl) (.pointer (some ⟨w.heap.size, 3, none⟩)) (fun K9 hK9 => by go_simp; exact hK9) ?_
              (try simp only [Act.put, pq1, pq2, pq3])
              refine wpList_val (by rw [hO]; kernel_rfl) (.slice (some ⟨g, 0, none⟩) n lc) (fun K9 hK9 => by go_simp; exact hK9) ?_
              (try simp only [Act.put, pq1, pq2, pq3])
              refine wpList_val (by rw [hO]; kernel_rfl) (.int .i64 (j : Int)) (fun K9 hK9 => by go_simp; exact hK9) ?_
              (try simp only [Act.put, pq1, pq2, pq3])
              refine wpList_val (by rw [hO]; kernel_rfl) (.pointer (some ⟨g, j * 4, none⟩)) (fun K9 hK9 => by go_simp; exact hK9) ?_
              (try simp only [Act.put, pq1, pq2, pq3])
              refine wpList_val (by rw [hO]; kernel_rfl) (.pointer (some ⟨g, j * 4 + 1, none⟩)) (fun K9 hK9 => by go_simp; exact hK9) ?_
              (try simp only [Act.put, pq1, pq2, pq3])
              refine wpList_val (by rw [hO]; kernel_rfl) (.string E1) (fun K9 hK9 => by go_simp; exact hK9) ?_
              (try simp only [Act.put, pq1, pq2, pq3])
              refine wpList_val (by rw [hO]; kernel_rfl) (.string K) (fun K9 hK9 => by go_simp; exact hK9) ?_
              (try simp only [Act.put, pq1, pq2, pq3])
              refine wpList_val (by rw [hO]; kernel_rfl) (.bool true) (fun K9 hK9 => by go_simp; exact hK9) ?_
              (try simp only [Act.put, pq1, pq2, pq3])
              refine wpList_val (by rw [hO]; kernel_rfl) (.bool true) (fun K9 hK9 => by go_simp; exact hK9) ?_
              (try simp only [Act.put, pq1, pq2, pq3])
              refine wpList_val (by rw [hO]; kernel_rfl) (.bool true) (fun K9 hK9 => by go_simp; exact hK9) ?_
              (try simp only [Act.put, pq1, pq2, pq3])
              refine wpList_val (by rw [hO]; kernel_rfl) (.pointer (some ⟨w.heap.size, 3, none⟩)) (fun K9 hK9 => by go_simp; exact hK9) ?_
              (try simp only [Act.put, pq1, pq2, pq3])
              refine wpList_val (by rw [hO]; kernel_rfl) (.slice (some ⟨g, 0, none⟩) n lc) (fun K9 hK9 => by go_simp; exact hK9) ?_
              (try simp only [Act.put, pq1, pq2, pq3])
              refine wpList_val (by rw [hO]; kernel_rfl) (.int .i64 (j : Int)) (fun K9 hK9 => by go_simp; exact hK9) ?_
              (try simp only [Act.put, pq1, pq2, pq3])
              refine wpList_val (by rw [hO]; kernel_rfl) (.pointer (some ⟨g, j * 4, none⟩)) (fun K9 hK9 => by go_simp; exact hK9) ?_
              (try simp only [Act.put, pq1, pq2, pq3])
              refine wpList_val (by rw [hO]; kernel_rfl) (.pointer (some ⟨g, j * 4 + 2, none⟩)) (fun K9 hK9 => by go_simp; exact hK9) ?_
              (try simp only [Act.put, pq1, pq2, pq3])
              refine wpList_val (by rw [hO]; kernel_rfl) (.string E2) (fun K9 hK9 => by go_simp; exact hK9) ?_
              (try simp only [Act.put, pq1, pq2, pq3])
              refine wpList_val (by rw [hO]; kernel_rfl) (.string E) (fun K9 hK9 => by go_simp; exact hK9) ?_
              (try simp only [Act.put, pq1, pq2, pq3])
              refine wpList_val (by rw [hO]; kernel_rfl) (.bool false) (fun K9 hK9 => by go_simp; exact hK9) ?_
              (try simp only [Act.put, pq1, pq2, pq3])
              refine wpList_val (by rw [hO]; kernel_rfl) (.bool false) (fun K9 hK9 => by go_simp; exact hK9) ?_
              (try simp only [Act.put, pq1, pq2, pq3])
              go_wp2
              go_roundw
              case rel => exact ⟨j + 1, by omega, by go_num, trivial, hq⟩
              case measure => simp [intOf]; omega
            | true =>
              rw [r2] at q2
              obtain ⟨f1, f2⟩ := unhide HFD (by rw [r0, r1, r2]; rfl)
              have HF1 := hide f1
              have HF2 := hide f2
              clear f1 f2 HFD HNX
              go_upto_region 8 with fail
              refine region_named fun O hO => ?_
              refine wpList_val (by rw [hO]; kernel_rfl) (.pointer (some ⟨w.heap.size, 3, none⟩)) (fun K9 hK9 => by go_simp; exact hK9) ?_
              (try simp only [Act.put, pq1, pq2, pq3])
              refine wpList_val (by rw [hO]; kernel_rfl) (.slice (some ⟨g, 0, none⟩) n lc) (fun K9 hK9 => by go_simp; exact hK9) ?_
              (try simp only [Act.put, pq1, pq2, pq3])
              refine wpList_val (by rw [hO]; kernel_rfl) (.int .i64 (j : Int)) (fun K9 hK9 => by go_simp; exact hK9) ?_
              (try simp only [Act.put, pq1, pq2, pq3])
              refine wpList_val (by rw [hO]; kernel_rfl) (.pointer (some ⟨g, j * 4, none⟩)) (fun K9 hK9 => by go_simp; exact hK9) ?_
              (try simp only [Act.put, pq1, pq2, pq3])
              refine wpList_val (by rw [hO]; kernel_rfl) (.pointer (some ⟨g, j * 4, none⟩)) (fun K9 hK9 => by go_simp; exact hK9) ?_
              (try simp only [Act.put, pq1, pq2, pq3])
              refine wpList_val (by rw [hO]; kernel_rfl) (.string E0) (fun K9 hK9 => by go_simp; exact hK9) ?_
              (try simp only [Act.put, pq1, pq2, pq3])
              refine wpList_val (by rw [hO]; kernel_rfl) (.string S) (fun K9 hK9 => by go_simp; exact hK9) ?_
              (try simp only [Act.put, pq1, pq2, pq3])
              refine wpList_val (by rw [hO]; kernel_rfl) (.bool true) (fun K9 hK9 => by go_simp; exact hK9) ?_
              (try simp only [Act.put, pq1, pq2, pq3])
              refine wpList_val (by rw [hO]; kernel_rfl) (.bool true) (fun K9 hK9 => by go_simp; exact hK9) ?_
              (try simp only [Act.put, pq1, pq2, pq3])
              refine wpList_val (by rw [hO]; kernel_rfl) (.pointer (some ⟨w.heap.size, 3, none⟩)) (fun K9 hK9 => by go_simp; exact hK9) ?_
              (try simp only [Act.put, pq1, pq2, pq3])
              refine wpList_val (by rw [hO]; kernel_rfl) (.slice (some ⟨g, 0, none⟩) n lc) (fun K9 hK9 => by go_simp; exact hK9) ?_
              (try simp only [Act.put, pq1, pq2, pq3])
              refine wpList_val (by rw [hO]; kernel_rfl) (.int .i64 (j : Int)) (fun K9 hK9 => by go_simp; exact hK9) ?_
              (try simp only [Act.put, pq1, pq2, pq3])
              refine wpList_val (by rw [hO]; kernel_rfl) (.pointer (some ⟨g, j * 4, none⟩)) (fun K9 hK9 => by go_simp; exact hK9) ?_
              (try simp only [Act.put, pq1, pq2, pq3])
              refine wpList_val (by rw [hO]; kernel_rfl) (.pointer (some ⟨g, j * 4 + 1, none⟩)) (fun K9 hK9 => by go_simp; exact hK9) ?_
              (try simp only [Act.put, pq1, pq2, pq3])
              refine wpList_val (by rw [hO]; kernel_rfl) (.string E1) (fun K9 hK9 => by go_simp; exact hK9) ?_
              (try simp only [Act.put, pq1, pq2, pq3])
              refine wpList_val (by rw [hO]; kernel_rfl) (.string K) (fun K9 hK9 => by go_simp; exact hK9) ?_
              (try simp only [Act.put, pq1, pq2, pq3])
              refine wpList_val (by rw [hO]; kernel_rfl) (.bool true) (fun K9 hK9 => by go_simp; exact hK9) ?_
              (try simp only [Act.put, pq1, pq2, pq3])
              refine wpList_val (by rw [hO]; kernel_rfl) (.bool true) (fun K9 hK9 => by go_simp; exact hK9) ?_
              (try simp only [Act.put, pq1, pq2, pq3])
              refine wpList_val (by rw [hO]; kernel_rfl) (.bool true) (fun K9 hK9 => by go_simp; exact hK9) ?_
              (try simp only [Act.put, pq1, pq2, pq3])
              refine wpList_val (by rw [hO]; kernel_rfl) (.pointer (some ⟨w.heap.size, 3, none⟩)) (fun K9 hK9 => by go_simp; exact hK9) ?_
              (try simp only [Act.put, pq1, pq2, pq3])
              refine wpList_val (by rw [hO]; kernel_rfl) (.slice (some ⟨g, 0, none⟩) n lc) (fun K9 hK9 => by go_simp; exact hK9) ?_
              (try simp only [Act.put, pq1, pq2, pq3])
              refine wpList_val (by rw [hO]; kernel_rfl) (.int .i64 (j : Int)) (fun K9 hK9 => by go_simp; exact hK9) ?_
              (try simp only [Act.put, pq1, pq2, pq3])
              refine wpList_val (by rw [hO]; kernel_rfl) (.pointer (some ⟨g, j * 4, none⟩)) (fun K9 hK9 => by go_simp; exact hK9) ?_
              (try simp only [Act.put, pq1, pq2, pq3])
              refine wpList_val (by rw [hO]; kernel_rfl) (.pointer (some ⟨g, j * 4 + 2, none⟩)) (fun K9 hK9 => by go_simp; exact hK9) ?_
              (try simp only [Act.put, pq1, pq2, pq3])
              refine wpList_val (by rw [hO]; kernel_rfl) (.string E2) (fun K9 hK9 => by go_simp; exact hK9) ?_
              (try simp only [Act.put, pq1, pq2, pq3])
              refine wpList_val (by rw [hO]; kernel_rfl) (.string E) (fun K9 hK9 => by go_simp; exact hK9) ?_
              (try simp only [Act.put, pq1, pq2, pq3])
              refine wpList_val (by rw [hO]; kernel_rfl) (.bool true) (fun K9 hK9 => by go_simp; exact hK9) ?_
              (try simp only [Act.put, pq1, pq2, pq3])
              refine wpList_val (by rw [hO]; kernel_rfl) (.bool true) (fun K9 hK9 => by go_simp; exact hK9) ?_
              (try simp only [Act.put, pq1, pq2, pq3])
              go_wp2
              go_ret2
              exact ⟨by rw [unhide HF1, unhide HF2]; rfl, g1⟩
      · obtain rfl : j = n := by omega
        have hnn : ¬ (j : Int) < (j : Int) := by omega
        have hr : rs = none := by
          rw [unhide HRS, List.find?_eq_none.2]
          · rfl
          · intro x hx hc
            obtain ⟨i, hi, rfl⟩ := List.getElem_of_mem hx
            rw [hno i hi (by have := unhide HN; omega)] at hc
            cases hc
        have e1 : rS = { data := #[] } := by rw [unhide HRT, hr]; rfl
        have e2 : rB = false := by rw [unhide HRB, hr]; rfl
        have HE1 := hide e1
        have HE2 := hide e2
        clear hno hr e1 e2
        go_wp2
        go_ret2
        exact ⟨by rw [unhide HE1, unhide HE2]; rfl, g1⟩

end Go.Proofs.YtjckdgapefaokaaDoor
