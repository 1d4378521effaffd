/- What the document's fit and OfTree (package coffretref10) answer. Of entries that lie in memory, with names and ids of at most 100000 bytes. -/
import Derived.Test.YtcemdlcimhoeeaaOCell
import Derived.Test.YtcemdlcimhoeeaaOData
import Derived.Test.YtcemdlcimhoeeaaRSized
import Derived.Test.YtcemdlcimhoeeaaNPartR
import Derived.Test.YtcemdlcimhoeeaaNLessR
import Derived.Test.YtcemdlcimhoeeaaORdId
import Derived.Test.YtcemdlcimhoeeaaMGrd
import Derived.Deep.RegionHeld3
import Derived.Deep.DrawnRows
import Derived.Deep.DeepCutAuto
namespace Go.Proofs.Ytcemdlcimhoeeaa
open Go.RowKit

/-- The cells of an entry of the document's. -/
def reC (e : EntL) : List Value := [.string (str e.name), .bool e.dir, .string (str e.id)]
theorem reC_one (e : EntL) : ∀ u ∈ reC e, u.oneCell' = true := by
  intro u hu
  simp only [reC, List.mem_cons, List.not_mem_nil, or_false] at hu
  rcases hu with rfl | rfl | rfl <;> rfl

/-- The slice value '.slice ao es.length c' holds the document's entries es. -/
structure Rens (w : World) (ao : Option Addr) (c : Nat) (es : List EntL) : Prop where
  zip : ao = none → es.length = 0 ∧ c = 0
  fits : es.length ≤ c
  most : c ≤ maxLen
  shape : ∀ ad, ao = some ad → 0 < es.length → ad.spot = none
  row : ∀ ad, ao = some ad → ∀ i (h : i < es.length), w.rangeAt ad.block (ad.off + i * 3) (reC es[i])

theorem Rens.none {w a : World} {ao : Option Addr} {c : Nat} {es : List EntL} (h : Rens w ao c es) (g : w.grownBy a Option.none) : Rens a ao c es :=
  ⟨h.zip, h.fits, h.most, h.shape, fun ad e i hi => range_kept (h.row ad e i hi) g (by simp)⟩
theorem Rens.at {w : World} {ao : Option Addr} {c : Nat} {es : List EntL} (h : Rens w ao c es) (i : Nat) (hi : i < es.length) : ∃ b o, ao = some ⟨b, o, Option.none⟩ ∧ ∀ k (hk : k < es.length), w.rangeAt b (o + k * 3) (reC es[k]) := by
  obtain ⟨ad, had⟩ : ∃ ad, ao = some ad := by
    cases ao with
    | none => have := (h.zip rfl).1; omega
    | some ad => exact ⟨ad, rfl⟩
  have hs := h.shape ad had (by omega)
  have h0 := h.row ad had
  obtain ⟨b, o, s⟩ := ad
  simp only at hs h0
  subst hs
  exact ⟨b, o, had, h0⟩
theorem Rens.own {w : World} {base : Nat} {v : Value} {es : List EntL} (h : w.ownsRow base 73 3 v es.length (es.flatMap reC)) : ∃ ao c, v = .slice ao es.length c ∧ Rens w ao c es := by
  obtain ⟨ao, c, h1, h2, h3, h4, h5, h6⟩ := own_rows reC 3 h (fun x _ => rfl)
  exact ⟨ao, c, h1, h2, h3, h4, fun ad e _ => (h5 ad e).1, h6⟩

/-- What the document's OfTree, OfChange, OfMark answer, by the errors and data r. -/
def RMade (w w' : World) (K : Int) (r : Int × List UInt8) (e : Ending) : Prop := e = .returned (.tuple #[.agg #[.int .i64 (if r.1 = 0 then K else 0), .string (str r.2)], .int .i64 r.1]) ∧ w.grownBy w' none
theorem info_robj : (Try.prog.info? 40).map (·.size) = some 2 := by kernel_rfl

theorem rfit_any (w : World) (K : Int) (d : List UInt8) (hd : d.length ≤ 100000000) : Calls Try.prog 30 #[.int .i64 K, .string (str d)] w fun e w' => RMade w w' K (fitB d) e := by
  have hsz := str_size d
  obtain ⟨S, hS⟩ : ∃ S, S = str d := ⟨_, rfl⟩
  obtain ⟨n, hn⟩ : ∃ n, n = d.length := ⟨_, rfl⟩
  rw [← hS, ← hn] at hsz
  by_cases h : 16384 < d.length
  · have e1 : fitB d = (3, []) := by simp [fitB, h]
    have h1 : (16384 : Int) < (n : Int) := by omega
    rw [e1, ← hS]
    clear hS hn h hd e1
    go_enter Try.func30, Try.ntmps30
    go_wp2
    exact bodyPost_ret (v := .tuple #[.agg #[.int .i64 0, .string ⟨#[]⟩], .int .i64 3]) (by simp [results, Try.results30, go_sem]) rfl ⟨rfl, gb_alloc (gb_refl _ _) _⟩
  · have e1 : fitB d = (0, d) := by simp [fitB, h]
    have h1 : ¬ (16384 : Int) < (n : Int) := by omega
    rw [e1, ← hS]
    have HS := hide hS
    clear hS hn h hd e1
    go_enter Try.func30, Try.ntmps30
    go_wp2
    exact bodyPost_ret (v := .tuple #[.agg #[.int .i64 K, .string S], .int .i64 0]) (by simp [results, Try.results30, go_sem]) rfl ⟨by rw [unhide HS]; rfl, gb_alloc (gb_refl _ _) _⟩

theorem entB_sum3 (es : List EntL) (M : Nat) (hid : ∀ e ∈ es, e.id.length ≤ M) (hs : ∀ e ∈ es, e.name.length ≤ M) : ∀ j, j ≤ es.length → ((es.take j).flatMap entB).length ≤ j * (M + M + 5) := by
  intro j
  induction j with
  | zero => intro _; simp
  | succ j ih =>
    intro hj
    have h1 := ih (by omega)
    have h2 := hid _ (List.getElem_mem (l := es) (n := j) (by omega))
    have h3 := hs _ (List.getElem_mem (l := es) (n := j) (by omega))
    rw [List.take_succ_eq_append_getElem (by omega), List.flatMap_append, List.length_append]
    simp only [List.flatMap_cons, List.flatMap_nil, List.append_nil, entB, List.length_append, lb_len, layS_len, Nat.succ_mul]
    omega

theorem goodAt_eq3 (es : List EntL) (j : Nat) (hj : j < es.length) : goodAt es j = (partB es[j].name && (decide (j = 0) || lessL (es[j - 1]'(by omega)).name es[j].name)) := by
  have h : j - 1 < es.length := by omega
  unfold goodAt
  rw [show es.getD j default = es[j] by simp [hj], show es.getD (j - 1) default = es[j - 1] by simp [h]]

theorem zero_robj (w : World) : (zeroValue 40).run Try.prog w = .ok (.agg #[.int .i64 0, .string (str [])]) w := by kernel_rfl

set_option maxRecDepth 100000 in
set_option maxHeartbeats 8000000 in
theorem rofTree_any (w : World) (ao : Option Addr) (c : Nat) (es : List EntL) (hE : Rens w ao c es) (hs : ∀ e ∈ es, e.name.length ≤ 100000) (hid : ∀ e ∈ es, e.id.length ≤ 100000) (hmany : es.length ≤ 1000000) :
    Calls Try.prog 7 #[.slice ao es.length c] w fun e w' => RMade w w' 2 (ofTree es) e := by
  have hB0 : ∃ W1, W1 = w.alloc (.cells #[.int .i64 0, .string (str [])] 40) ∧ Blk W1 w.heap.size 40 [.int .i64 0, .string (str [])] ∧ w.grownBy W1 none := box_new w _ _
  obtain ⟨W0, hW0, hB0, g0⟩ := hB0
  obtain ⟨S0, hS0⟩ : ∃ S, S = str [] := ⟨_, rfl⟩
  have hzv := zero_robj
  rw [← hS0] at hW0 hB0 hzv
  have HW0 := hide hW0
  have HB0 := hide hB0
  have HS0 := hide hS0
  clear hW0 hB0 hS0
  by_cases hn : 32 < es.length
  · have hr : ofTree es = (3, []) := by simp [ofTree, hn]
    obtain ⟨n, hln⟩ : ∃ n, n = es.length := ⟨_, rfl⟩
    have hn2 : (32 : Int) < (n : Int) := by omega
    rw [← hln]
    have HR := hide hr
    clear hln hn hE hs hid hmany hr HB0 g0 hzv
    go_enter Try.func7, Try.ntmps7
    go_wp2
    exact bodyPost_ret (v := .tuple #[.agg #[.int .i64 0, .string ⟨#[]⟩], .int .i64 3]) (by simp [results, Try.results7, go_sem]) rfl ⟨by rw [unhide HR]; rfl, gb_alloc (gb_refl _ _) _⟩
  · obtain ⟨n, hln⟩ : ∃ n, n = es.length := ⟨_, rfl⟩
    have hn2 : ¬ (32 : Int) < (n : Int) := by omega
    have hn3 : n ≤ 32 := by omega
    have hsum := entB_sum3 es 100000 hid hs
    have hcv : IntKind.u64.wrap (n : Int) = (n : Int) := by rw [IntKind.wrap_u64]; omega
    have cp := rput_any W0 [] n 2 (by omega) (by simp)
    rw [show nb 2 = 2 from by decide, List.nil_append] at cp
    have HE := hide hE
    have HM := hide hs
    have HI := hide hid
    have HL := hide hln
    have HSUM := hide hsum
    have HN : Hid (¬ 32 < es.length) := hn
    rw [← hln]
    rw [← hln] at HSUM
    obtain ⟨P, hP⟩ : ∃ P : Nat → List UInt8, ∀ j, P j = lb n 2 ++ (es.take j).flatMap entB := ⟨_, fun _ => rfl⟩
    have hP0 : P 0 = lb n 2 := by rw [hP]; simp
    rw [← hP0] at cp
    have hPS : ∀ j (hj : j < es.length), P (j + 1) = ((P j ++ lb (dirN es[j].dir) 1) ++ layS es[j].name) ++ es[j].id := by
      intro j hj
      rw [hP, hP, List.take_succ_eq_append_getElem hj, List.flatMap_append]
      simp [entB]
    have hPl : ∀ j, j ≤ es.length → (P j).length ≤ 2 + 32 * 200005 := by
      intro j hj
      have h1 := hsum j hj
      rw [hP, List.length_append, lb_len]
      have : j * (100000 + 100000 + 5) ≤ 32 * 200005 := Nat.mul_le_mul (by omega) (Nat.le_refl _)
      omega
    have hPn : P es.length = treeB es := by rw [hP, hln, List.take_of_length_le (Nat.le_refl _)]; rfl
    have HPS := hide hPS
    have HPL := hide hPl
    have HPN := hide hPn
    clear hE hs hln hn hid hmany hsum hP hP0 hPS hPl hPn
    rw [show str [] = (⟨#[]⟩ : ByteArray) from rfl] at cp
    go_enter Try.func7, Try.ntmps7
    go_wp2_with (rw [← unhide HW0])
    refine cp.mono ?_
    rintro e w1 ⟨rfl, g1⟩
    clear cp
    have HB1 := hide ((unhide HB0).kept g1 (by simp))
    have HG1 := hide (tn g0 g1)
    clear g1
    go_wp2
    go_loopw [4, 5] (fun t i wr => ∃ j : Nat, i = .int .i64 j ∧ t = .string (str (P j)) ∧ j ≤ n ∧ Hid (goodTo es j = true) ∧ w1.grownBy wr none) (fun _ i _ => n - (intOf i).toNat)
    case atStart => exact ⟨0, rfl, rfl, Nat.zero_le _, rfl, gb_refl _ _⟩
    case round =>
      obtain ⟨j, rfl, rfl, hj, HG, hg⟩ := hrel
      by_cases hlt : j < n
      · have hlt' : j < es.length := by have := unhide HL; omega
        obtain ⟨b, o, hao, hrow⟩ := (unhide HE).at j hlt'
        have GW := tn (unhide HG1) hg
        have hr := range_kept (hrow j hlt') GW (by simp)
        have hnl := (unhide HM) _ (List.getElem_mem hlt')
        have hil := (unhide HI) _ (List.getElem_mem hlt')
        have hgd := goodAt_eq3 es j hlt'
        have hps := unhide HPS j hlt'
        have hpl := unhide HPL j (by omega)
        have hpl2 := unhide HPL (j + 1) (by omega)
        obtain ⟨q, hq⟩ : ∃ q, q = j - 1 := ⟨_, rfl⟩
        have hq' : q < es.length := by omega
        have hrp := range_kept (hrow q hq') GW (by simp)
        have hpnl := (unhide HM) _ (List.getElem_mem hq')
        obtain ⟨E, hEE⟩ : ∃ E, E = es[j] := ⟨_, rfl⟩
        obtain ⟨F, hFF⟩ : ∃ E, E = es[q] := ⟨_, rfl⟩
        have hFq : es[j - 1]'(by omega) = F := by rw [hFF]; congr 1; exact hq.symm
        rw [hFq, ← hEE] at hgd
        rw [← hEE] at hr hnl hil hps
        rw [← hFF] at hrp hpnl
        clear hrow hEE hFF hFq hlt' hq'
        subst hao
        obtain ⟨nm, D, id⟩ := E
        obtain ⟨pn, PD, pid⟩ := F
        simp only at hnl hgd hil hps hpnl
        have hc0 : wr.cell? ⟨b, o + j * 3, none⟩ = some (.string (str nm)) := hr 0 _ rfl
        have hc1 : wr.cell? ⟨b, o + (j * 3 + 1), none⟩ = some (.bool D) := by rw [← Nat.add_assoc]; exact hr 1 _ rfl
        have hc2 : wr.cell? ⟨b, o + (j * 3 + 2), none⟩ = some (.string (str id)) := by rw [← Nat.add_assoc]; exact hr 2 _ rfl
        have hcp : wr.cell? ⟨b, o + q * 3, none⟩ = some (.string (str pn)) := hrp 0 _ rfl
        have hc1' : wr.cell? ⟨b, o + j * 3 + 1, none⟩ = some (.bool D) := hr 1 _ rfl
        have hc2' : wr.cell? ⟨b, o + j * 3 + 2, none⟩ = some (.string (str id)) := hr 2 _ rfl
        have cpart : ∀ V, Calls Try.prog 27 #[.string (str nm)] V fun e w' => e = .returned (.bool (partB nm)) ∧ V.grownBy w' none := fun V => rpart_any V nm hnl
        have cless : ∀ V, Calls Try.prog 28 #[.string (str pn), .string (str nm)] V fun e w' => e = .returned (.bool (lessL pn nm)) ∧ V.grownBy w' none := fun V => rless_any V pn nm hpnl hnl
        obtain ⟨Q0, hQ0⟩ : ∃ Q, Q = P j := ⟨_, rfl⟩
        obtain ⟨Q1, hQ1⟩ : ∃ Q, Q = Q0 ++ lb (dirN D) 1 := ⟨_, rfl⟩
        obtain ⟨Q2, hQ2⟩ : ∃ Q, Q = Q1 ++ layS nm := ⟨_, rfl⟩
        rw [← hQ0] at hpl hps
        have hq1l : Q1.length ≤ 10000000 := by rw [hQ1, List.length_append, lb_len]; omega
        have cput : ∀ V, Calls Try.prog 26 #[.string (str Q0), .int .u64 ((dirN D : Nat) : Int), .int .i64 1] V fun e w' => e = .returned (.string (str Q1)) ∧ V.grownBy w' none := fun V => by
          have h1 := rput_any V Q0 (dirN D) 1 (by unfold dirN; split <;> omega) (by omega)
          rw [show nb 1 = 1 from by decide, ← hQ1] at h1
          exact h1
        have csz : ∀ V, Calls Try.prog 29 #[.string (str Q1), .string (str nm)] V fun e w' => e = .returned (.string (str Q2)) ∧ V.grownBy w' none := fun V => by
          have h1 := rsized_any V Q1 nm (by omega)
          rw [← hQ2] at h1
          exact h1
        rw [← hQ1, ← hQ2] at hps
        have hz1 := str_size Q2
        have hz2 := str_size id
        have hcat : str Q2 ++ str id = str (P (j + 1)) := by rw [hps, str_app]
        have hq2l : Q2.length ≤ 20000000 := by rw [hQ2, List.length_append, layS_len]; omega
        rw [← hQ0]
        obtain ⟨T0, hT0⟩ : ∃ T, T = str Q0 := ⟨_, rfl⟩
        obtain ⟨T1, hT1⟩ : ∃ T, T = str Q1 := ⟨_, rfl⟩
        obtain ⟨T2, hT2⟩ : ∃ T, T = str Q2 := ⟨_, rfl⟩
        obtain ⟨T3, hT3⟩ : ∃ T, T = str (P (j + 1)) := ⟨_, rfl⟩
        obtain ⟨TI, hTI⟩ : ∃ T, T = str id := ⟨_, rfl⟩
        obtain ⟨TN, hTN⟩ : ∃ T, T = str nm := ⟨_, rfl⟩
        obtain ⟨TP, hTP⟩ : ∃ T, T = str pn := ⟨_, rfl⟩
        rw [← hT0] at cput ⊢
        rw [← hT1] at cput csz
        rw [← hT2] at csz hcat hz1
        rw [← hTI] at hc2 hc2' hcat hz2
        rw [← hTN] at hc0 cpart cless csz
        rw [← hTP] at hcp cless
        rw [← hT3] at hcat
        obtain ⟨z1, hz1'⟩ : ∃ z, z = Q2.length := ⟨_, rfl⟩
        obtain ⟨z2, hz2'⟩ : ∃ z, z = id.length := ⟨_, rfl⟩
        rw [← hz1'] at hz1
        rw [← hz2'] at hz2
        have hzz : ¬ 9223372036854775807 < z1 + z2 := by omega
        have HGD := hide hgd
        have HQ := hide hq
        have HT3 := hide hT3
        have h0 : wr.grownBy wr.drew none := gb_drew (gb_refl _ _)
        have HBr := hide ((unhide HB1).kept hg (by simp))
        clear hgd hr hrp hnl hil hpnl hq hps hpl hpl2 hQ0 hQ1 hQ2 hq1l hq2l hT0 hT1 hT2 hT3 hTI hTN hTP hz1' hz2'
        go_upto_region 7 with fail
        by_cases hp : partB nm = true
        · rw [hp] at cpart
          by_cases hj0 : j = 0
          · have hj1 : ¬ (0 : Int) < (j : Int) := by omega
            have hj2 : ¬ 0 < j := by omega
            have hj3 : decide (0 < j) = false := by simp [hj2]
            have hgt : goodTo es (j + 1) = true := by rw [goodTo_succ, unhide HG, unhide HGD, hp]; simp [hj0]
            have HGT := hide hgt
            clear hj0 hgt hp cless hcp HGD HG
            refine wp_region_noPanic ?_
            refine wp_region_held_drew (S := fun V => wr.grownBy V none) (by kernel_rfl) h0 (fun _ => ?_)
            refine wpAnyH_take (i := 0) (oi := { dst := some 21, op := Op.move (Operand.tmp 0), type := _, pos := _, after := _, guard := _ }) (v := .slice (some ⟨b, o, none⟩) n c) rfl (by kernel_rfl) (by kernel_rfl) (by kernel_rfl) (fun _ _ _ h => h) (Or.inl ⟨by rfl, fun V (hV : wr.grownBy V none) => by go_simp⟩) h0 ?_
            (try simp only [Act.put, List.setIfInBounds_toArray, List.set_cons_zero, List.set_cons_succ])
            refine wpAnyH_take (i := 1) (oi := { dst := some 22, op := Op.move (Operand.tmp 5), type := _, pos := _, after := _, guard := _ }) (v := .int .i64 (j : Int)) rfl (by kernel_rfl) (by kernel_rfl) (by kernel_rfl) (fun _ _ _ h => h) (Or.inl ⟨by rfl, fun V (hV : wr.grownBy V none) => by go_simp⟩) h0 ?_
            (try simp only [Act.put, List.setIfInBounds_toArray, List.set_cons_zero, List.set_cons_succ])
            refine wpAnyH_take (i := 2) (oi := { dst := some 23, op := Op.indexAddr 43 (Operand.tmp 21) (Operand.tmp 22), type := _, pos := _, after := _, guard := _ }) (v := .pointer (some ⟨b, o + j * 3, none⟩)) rfl (by kernel_rfl) (by kernel_rfl) (by kernel_rfl) (fun _ _ _ h => h) (Or.inl ⟨by rfl, fun V (hV : wr.grownBy V none) => by go_simp⟩) h0 ?_
            (try simp only [Act.put, List.setIfInBounds_toArray, List.set_cons_zero, List.set_cons_succ])
            refine wpAnyH_take (i := 3) (oi := { dst := some 24, op := Op.fieldAddr 73 (Operand.tmp 23) 0, type := _, pos := _, after := _, guard := _ }) (v := .pointer (some ⟨b, o + j * 3, none⟩)) rfl (by kernel_rfl) (by kernel_rfl) (by kernel_rfl) (fun _ _ _ h => h) (Or.inl ⟨by rfl, fun V (hV : wr.grownBy V none) => by go_simp⟩) h0 ?_
            (try simp only [Act.put, List.setIfInBounds_toArray, List.set_cons_zero, List.set_cons_succ])
            refine wpAnyH_take (i := 4) (oi := { dst := some 25, op := Op.load 9 (Operand.tmp 24), type := _, pos := _, after := _, guard := _ }) (v := .string TN) rfl (by kernel_rfl) (by kernel_rfl) (by kernel_rfl) (fun _ _ _ h => h) (Or.inl ⟨by rfl, fun V (hV : wr.grownBy V none) => by (have q9 := hV.cell hc0 (by simp); go_simp)⟩) h0 ?_
            (try simp only [Act.put, List.setIfInBounds_toArray, List.set_cons_zero, List.set_cons_succ])
            refine wpAnyH_ready (rs := [5]) (by kernel_rfl) (by simp) ?_
            refine AllReadyH.cons (o := { dst := some 26, op := Op.call { callee := Callee.value (Operand.func 27), args := #[(Operand.tmp 25)], argTypes := #[9] }, type := _, pos := _, after := _, guard := _ }) rfl (fun K9 hK9 => ?_) AllReadyH.nil
            go_simp
            go_at_call 27
            refine (cpart _).mono ?_
            rintro e w2a ⟨rfl, g2b⟩
            have g2a := tn h0 g2b
            clear g2b
            go_wp2_with fail
            refine hK9.out _ _ g2a (fun _ => ?_)
            clear hK9 K9
            (try simp only [Act.put, List.setIfInBounds_toArray, List.set_cons_zero, List.set_cons_succ])
            refine wpAnyH_take (i := 6) (oi := { dst := some 27, op := Op.unOp UnOp.not 4 (Operand.tmp 26), type := _, pos := _, after := _, guard := _ }) (v := .bool false) rfl (by kernel_rfl) (by kernel_rfl) (by kernel_rfl) (fun _ _ _ h => h) (Or.inl ⟨by rfl, fun V (hV : wr.grownBy V none) => by go_simp⟩) g2a ?_
            (try simp only [Act.put, List.setIfInBounds_toArray, List.set_cons_zero, List.set_cons_succ])
            refine wpAnyH_take (i := 7) (oi := { dst := some 28, op := Op.move (Operand.tmp 27), type := _, pos := _, after := _, guard := _ }) (v := .bool false) rfl (by kernel_rfl) (by kernel_rfl) (by kernel_rfl) (fun _ _ _ h => h) (Or.inl ⟨by rfl, fun V (hV : wr.grownBy V none) => by go_simp⟩) g2a ?_
            (try simp only [Act.put, List.setIfInBounds_toArray, List.set_cons_zero, List.set_cons_succ])
            refine wpAnyH_take (i := 8) (oi := { dst := some 29, op := Op.move (Operand.tmp 5), type := _, pos := _, after := _, guard := _ }) (v := .int .i64 (j : Int)) rfl (by kernel_rfl) (by kernel_rfl) (by kernel_rfl) (fun _ _ _ h => h) (Or.inl ⟨by rfl, fun V (hV : wr.grownBy V none) => by go_simp⟩) g2a ?_
            (try simp only [Act.put, List.setIfInBounds_toArray, List.set_cons_zero, List.set_cons_succ])
            refine wpAnyH_take (i := 9) (oi := { dst := some 30, op := Op.binOp BinOp.gtr 3 (Operand.tmp 29) (Operand.const (Value.int IntKind.i64 0)) 3, type := _, pos := _, after := _, guard := _ }) (v := .bool false) rfl (by kernel_rfl) (by kernel_rfl) (by kernel_rfl) (fun _ _ _ h => h) (Or.inl ⟨by rfl, fun V (hV : wr.grownBy V none) => by go_simp⟩) g2a ?_
            (try simp only [Act.put, List.setIfInBounds_toArray, List.set_cons_zero, List.set_cons_succ])
            refine wpAnyH_take (i := 10) (oi := { dst := some 31, op := Op.move (Operand.tmp 30), type := _, pos := _, after := _, guard := _ }) (v := .bool false) rfl (by kernel_rfl) (by kernel_rfl) (by kernel_rfl) (fun _ _ _ h => h) (Or.inl ⟨by rfl, fun V (hV : wr.grownBy V none) => by go_simp⟩) g2a ?_
            (try simp only [Act.put, List.setIfInBounds_toArray, List.set_cons_zero, List.set_cons_succ])
            refine wpAnyH_take (i := 11) (oi := { dst := some 32, op := Op.move (Operand.tmp 0), type := _, pos := _, after := _, guard := _ }) (v := undef) rfl (by kernel_rfl) (by kernel_rfl) (by kernel_rfl) (fun _ _ _ h => h) (Or.inr ⟨by rfl, rfl⟩) g2a ?_
            (try simp only [Act.put, List.setIfInBounds_toArray, List.set_cons_zero, List.set_cons_succ])
            refine wpAnyH_take (i := 12) (oi := { dst := some 33, op := Op.move (Operand.tmp 5), type := _, pos := _, after := _, guard := _ }) (v := undef) rfl (by kernel_rfl) (by kernel_rfl) (by kernel_rfl) (fun _ _ _ h => h) (Or.inr ⟨by rfl, rfl⟩) g2a ?_
            (try simp only [Act.put, List.setIfInBounds_toArray, List.set_cons_zero, List.set_cons_succ])
            refine wpAnyH_take (i := 13) (oi := { dst := some 34, op := Op.binOp BinOp.sub 3 (Operand.tmp 33) (Operand.const (Value.int IntKind.i64 1)) 3, type := _, pos := _, after := _, guard := _ }) (v := undef) rfl (by kernel_rfl) (by kernel_rfl) (by kernel_rfl) (fun _ _ _ h => h) (Or.inr ⟨by rfl, rfl⟩) g2a ?_
            (try simp only [Act.put, List.setIfInBounds_toArray, List.set_cons_zero, List.set_cons_succ])
            refine wpAnyH_take (i := 14) (oi := { dst := some 35, op := Op.indexAddr 43 (Operand.tmp 32) (Operand.tmp 34), type := _, pos := _, after := _, guard := _ }) (v := undef) rfl (by kernel_rfl) (by kernel_rfl) (by kernel_rfl) (fun _ _ _ h => h) (Or.inr ⟨by rfl, rfl⟩) g2a ?_
            (try simp only [Act.put, List.setIfInBounds_toArray, List.set_cons_zero, List.set_cons_succ])
            refine wpAnyH_take (i := 15) (oi := { dst := some 36, op := Op.fieldAddr 73 (Operand.tmp 35) 0, type := _, pos := _, after := _, guard := _ }) (v := undef) rfl (by kernel_rfl) (by kernel_rfl) (by kernel_rfl) (fun _ _ _ h => h) (Or.inr ⟨by rfl, rfl⟩) g2a ?_
            (try simp only [Act.put, List.setIfInBounds_toArray, List.set_cons_zero, List.set_cons_succ])
            refine wpAnyH_take (i := 16) (oi := { dst := some 37, op := Op.load 9 (Operand.tmp 36), type := _, pos := _, after := _, guard := _ }) (v := undef) rfl (by kernel_rfl) (by kernel_rfl) (by kernel_rfl) (fun _ _ _ h => h) (Or.inr ⟨by rfl, rfl⟩) g2a ?_
            (try simp only [Act.put, List.setIfInBounds_toArray, List.set_cons_zero, List.set_cons_succ])
            refine wpAnyH_take (i := 17) (oi := { dst := some 38, op := Op.move (Operand.tmp 0), type := _, pos := _, after := _, guard := _ }) (v := undef) rfl (by kernel_rfl) (by kernel_rfl) (by kernel_rfl) (fun _ _ _ h => h) (Or.inr ⟨by rfl, rfl⟩) g2a ?_
            (try simp only [Act.put, List.setIfInBounds_toArray, List.set_cons_zero, List.set_cons_succ])
            refine wpAnyH_take (i := 18) (oi := { dst := some 39, op := Op.move (Operand.tmp 5), type := _, pos := _, after := _, guard := _ }) (v := undef) rfl (by kernel_rfl) (by kernel_rfl) (by kernel_rfl) (fun _ _ _ h => h) (Or.inr ⟨by rfl, rfl⟩) g2a ?_
            (try simp only [Act.put, List.setIfInBounds_toArray, List.set_cons_zero, List.set_cons_succ])
            refine wpAnyH_take (i := 19) (oi := { dst := some 40, op := Op.indexAddr 43 (Operand.tmp 38) (Operand.tmp 39), type := _, pos := _, after := _, guard := _ }) (v := undef) rfl (by kernel_rfl) (by kernel_rfl) (by kernel_rfl) (fun _ _ _ h => h) (Or.inr ⟨by rfl, rfl⟩) g2a ?_
            (try simp only [Act.put, List.setIfInBounds_toArray, List.set_cons_zero, List.set_cons_succ])
            refine wpAnyH_take (i := 20) (oi := { dst := some 41, op := Op.fieldAddr 73 (Operand.tmp 40) 0, type := _, pos := _, after := _, guard := _ }) (v := undef) rfl (by kernel_rfl) (by kernel_rfl) (by kernel_rfl) (fun _ _ _ h => h) (Or.inr ⟨by rfl, rfl⟩) g2a ?_
            (try simp only [Act.put, List.setIfInBounds_toArray, List.set_cons_zero, List.set_cons_succ])
            refine wpAnyH_take (i := 21) (oi := { dst := some 42, op := Op.load 9 (Operand.tmp 41), type := _, pos := _, after := _, guard := _ }) (v := undef) rfl (by kernel_rfl) (by kernel_rfl) (by kernel_rfl) (fun _ _ _ h => h) (Or.inr ⟨by rfl, rfl⟩) g2a ?_
            (try simp only [Act.put, List.setIfInBounds_toArray, List.set_cons_zero, List.set_cons_succ])
            refine wpAnyH_take (i := 22) (oi := { dst := some 43, op := Op.call { callee := Callee.value (Operand.func 28), args := #[(Operand.tmp 37), (Operand.tmp 42)], argTypes := #[9, 9] }, type := _, pos := _, after := _, guard := _ }) (v := undef) rfl (by kernel_rfl) (by kernel_rfl) (by kernel_rfl) (fun _ _ _ h => h) (Or.inr ⟨by rfl, rfl⟩) g2a ?_
            (try simp only [Act.put, List.setIfInBounds_toArray, List.set_cons_zero, List.set_cons_succ])
            refine wpAnyH_take (i := 23) (oi := { dst := some 44, op := Op.unOp UnOp.not 4 (Operand.tmp 43), type := _, pos := _, after := _, guard := _ }) (v := undef) rfl (by kernel_rfl) (by kernel_rfl) (by kernel_rfl) (fun _ _ _ h => h) (Or.inr ⟨by rfl, rfl⟩) g2a ?_
            (try simp only [Act.put, List.setIfInBounds_toArray, List.set_cons_zero, List.set_cons_succ])
            refine wpAnyH_take (i := 24) (oi := { dst := some 45, op := Op.pick (Operand.tmp 31) (Operand.tmp 44) (Operand.const (Value.bool false)), type := _, pos := _, after := _, guard := _ }) (v := .bool false) rfl (by kernel_rfl) (by kernel_rfl) (by kernel_rfl) (fun _ _ _ h => h) (Or.inl ⟨by rfl, fun V (hV : wr.grownBy V none) => by go_simp⟩) g2a ?_
            (try simp only [Act.put, List.setIfInBounds_toArray, List.set_cons_zero, List.set_cons_succ])
            refine wpAnyH_take (i := 25) (oi := { dst := some 46, op := Op.pick (Operand.tmp 28) (Operand.const (Value.bool true)) (Operand.tmp 45), type := _, pos := _, after := _, guard := _ }) (v := .bool false) rfl (by kernel_rfl) (by kernel_rfl) (by kernel_rfl) (fun _ _ _ h => h) (Or.inl ⟨by rfl, fun V (hV : wr.grownBy V none) => by go_simp⟩) g2a ?_
            (try simp only [Act.put, List.setIfInBounds_toArray, List.set_cons_zero, List.set_cons_succ])
            refine wpAnyH_done (by kernel_rfl) ?_ _
            refine NoPanic.normal ?_
            obtain ⟨w2, hw2⟩ : ∃ V, V = w2a := ⟨_, rfl⟩
            rw [← hw2]
            have g2 : wr.grownBy w2 none := by rw [hw2]; exact g2a
            clear hw2
            clear cpart h0
            cases D
            · have hd1 := g2.cell hc1 (by simp)
              have hd1' := g2.cell hc1' (by simp)
              simp only [dirN, Bool.false_eq_true, if_false] at cput
              have h0b : w1.grownBy w2.drew none := gb_drew (tn hg g2)
              have hk0 := g2.cell hc0 (by simp)
              have hk2 := g2.cell hc2 (by simp)
              have hk2' := g2.cell hc2' (by simp)
              go_upto_region 12 with fail
              have h0c : w2.grownBy w2.drew none := gb_drew (gb_refl _ _)
              refine wp_region_noPanic ?_
              refine wp_region_held_drew (S := fun V => w2.grownBy V none) (by kernel_rfl) h0c (fun _ => ?_)
              refine wpAnyH_take (i := 0) (oi := { dst := some 53, op := Op.move (Operand.tmp 4), type := _, pos := _, after := _, guard := _ }) (v := .string T0) rfl (by kernel_rfl) (by kernel_rfl) (by kernel_rfl) (fun _ _ _ h => h) (Or.inl ⟨by rfl, fun V (hV : w2.grownBy V none) => by go_simp⟩) h0c ?_
              (try simp only [Act.put, List.setIfInBounds_toArray, List.set_cons_zero, List.set_cons_succ])
              refine wpAnyH_take (i := 1) (oi := { dst := some 54, op := Op.move (Operand.tmp 6), type := _, pos := _, after := _, guard := _ }) (v := .int .u64 0) rfl (by kernel_rfl) (by kernel_rfl) (by kernel_rfl) (fun _ _ _ h => h) (Or.inl ⟨by rfl, fun V (hV : w2.grownBy V none) => by go_simp⟩) h0c ?_
              (try simp only [Act.put, List.setIfInBounds_toArray, List.set_cons_zero, List.set_cons_succ])
              refine wpAnyH_take (i := 3) (oi := { dst := some 56, op := Op.move (Operand.tmp 0), type := _, pos := _, after := _, guard := _ }) (v := .slice (some ⟨b, o, none⟩) n c) rfl (by kernel_rfl) (by kernel_rfl) (by kernel_rfl) (fun _ _ _ h => h) (Or.inl ⟨by rfl, fun V (hV : w2.grownBy V none) => by go_simp⟩) h0c ?_
              (try simp only [Act.put, List.setIfInBounds_toArray, List.set_cons_zero, List.set_cons_succ])
              refine wpAnyH_take (i := 4) (oi := { dst := some 57, op := Op.move (Operand.tmp 5), type := _, pos := _, after := _, guard := _ }) (v := .int .i64 (j : Int)) rfl (by kernel_rfl) (by kernel_rfl) (by kernel_rfl) (fun _ _ _ h => h) (Or.inl ⟨by rfl, fun V (hV : w2.grownBy V none) => by go_simp⟩) h0c ?_
              (try simp only [Act.put, List.setIfInBounds_toArray, List.set_cons_zero, List.set_cons_succ])
              refine wpAnyH_take (i := 5) (oi := { dst := some 58, op := Op.indexAddr 43 (Operand.tmp 56) (Operand.tmp 57), type := _, pos := _, after := _, guard := _ }) (v := .pointer (some ⟨b, o + j * 3, none⟩)) rfl (by kernel_rfl) (by kernel_rfl) (by kernel_rfl) (fun _ _ _ h => h) (Or.inl ⟨by rfl, fun V (hV : w2.grownBy V none) => by go_simp⟩) h0c ?_
              (try simp only [Act.put, List.setIfInBounds_toArray, List.set_cons_zero, List.set_cons_succ])
              refine wpAnyH_take (i := 6) (oi := { dst := some 59, op := Op.fieldAddr 73 (Operand.tmp 58) 0, type := _, pos := _, after := _, guard := _ }) (v := .pointer (some ⟨b, o + j * 3, none⟩)) rfl (by kernel_rfl) (by kernel_rfl) (by kernel_rfl) (fun _ _ _ h => h) (Or.inl ⟨by rfl, fun V (hV : w2.grownBy V none) => by go_simp⟩) h0c ?_
              (try simp only [Act.put, List.setIfInBounds_toArray, List.set_cons_zero, List.set_cons_succ])
              refine wpAnyH_take (i := 7) (oi := { dst := some 60, op := Op.load 9 (Operand.tmp 59), type := _, pos := _, after := _, guard := _ }) (v := .string TN) rfl (by kernel_rfl) (by kernel_rfl) (by kernel_rfl) (fun _ _ _ h => h) (Or.inl ⟨by rfl, fun V (hV : w2.grownBy V none) => by (have q9 := hV.cell hk0 (by simp); go_simp)⟩) h0c ?_
              (try simp only [Act.put, List.setIfInBounds_toArray, List.set_cons_zero, List.set_cons_succ])
              refine wpAnyH_take (i := 9) (oi := { dst := some 62, op := Op.move (Operand.tmp 0), type := _, pos := _, after := _, guard := _ }) (v := .slice (some ⟨b, o, none⟩) n c) rfl (by kernel_rfl) (by kernel_rfl) (by kernel_rfl) (fun _ _ _ h => h) (Or.inl ⟨by rfl, fun V (hV : w2.grownBy V none) => by go_simp⟩) h0c ?_
              (try simp only [Act.put, List.setIfInBounds_toArray, List.set_cons_zero, List.set_cons_succ])
              refine wpAnyH_take (i := 10) (oi := { dst := some 63, op := Op.move (Operand.tmp 5), type := _, pos := _, after := _, guard := _ }) (v := .int .i64 (j : Int)) rfl (by kernel_rfl) (by kernel_rfl) (by kernel_rfl) (fun _ _ _ h => h) (Or.inl ⟨by rfl, fun V (hV : w2.grownBy V none) => by go_simp⟩) h0c ?_
              (try simp only [Act.put, List.setIfInBounds_toArray, List.set_cons_zero, List.set_cons_succ])
              refine wpAnyH_take (i := 11) (oi := { dst := some 64, op := Op.indexAddr 43 (Operand.tmp 62) (Operand.tmp 63), type := _, pos := _, after := _, guard := _ }) (v := .pointer (some ⟨b, o + j * 3, none⟩)) rfl (by kernel_rfl) (by kernel_rfl) (by kernel_rfl) (fun _ _ _ h => h) (Or.inl ⟨by rfl, fun V (hV : w2.grownBy V none) => by go_simp⟩) h0c ?_
              (try simp only [Act.put, List.setIfInBounds_toArray, List.set_cons_zero, List.set_cons_succ])
              refine wpAnyH_take (i := 12) (oi := { dst := some 65, op := Op.fieldAddr 73 (Operand.tmp 64) 2, type := _, pos := _, after := _, guard := _ }) (v := .pointer (some ⟨b, o + (j * 3 + 2), none⟩)) rfl (by kernel_rfl) (by kernel_rfl) (by kernel_rfl) (fun _ _ _ h => h) (Or.inl ⟨by rfl, fun V (hV : w2.grownBy V none) => by go_simp⟩) h0c ?_
              (try simp only [Act.put, List.setIfInBounds_toArray, List.set_cons_zero, List.set_cons_succ])
              refine wpAnyH_take (i := 13) (oi := { dst := some 66, op := Op.load 9 (Operand.tmp 65), type := _, pos := _, after := _, guard := _ }) (v := .string TI) rfl (by kernel_rfl) (by kernel_rfl) (by kernel_rfl) (fun _ _ _ h => h) (Or.inl ⟨by rfl, fun V (hV : w2.grownBy V none) => by (have q9 := hV.cell hk2 (by simp); have q8 := hV.cell hk2' (by simp); go_simp)⟩) h0c ?_
              (try simp only [Act.put, List.setIfInBounds_toArray, List.set_cons_zero, List.set_cons_succ])
              refine wpAnyH_ready (rs := [2]) (by kernel_rfl) (by simp) ?_
              refine AllReadyH.cons (o := { dst := some 55, op := Op.call { callee := Callee.value (Operand.func 26), args := #[(Operand.tmp 53), (Operand.tmp 54), Operand.const (Value.int IntKind.i64 1)], argTypes := #[9, 26, 3] }, type := _, pos := _, after := _, guard := _ }) rfl (fun K9 hK9 => ?_) AllReadyH.nil
              go_simp
              go_at_call 26
              refine (cput _).mono ?_
              rintro e w4 ⟨rfl, g4a⟩
              have g4 := tn h0c g4a
              clear g4a
              go_wp2_with fail
              refine hK9.out _ _ g4 (fun _ => ?_)
              clear hK9 K9
              (try simp only [Act.put, List.setIfInBounds_toArray, List.set_cons_zero, List.set_cons_succ])
              refine wpAnyH_ready (rs := [8]) (by kernel_rfl) (by simp) ?_
              refine AllReadyH.cons (o := { dst := some 61, op := Op.call { callee := Callee.value (Operand.func 29), args := #[(Operand.tmp 55), (Operand.tmp 60)], argTypes := #[9, 9] }, type := _, pos := _, after := _, guard := _ }) rfl (fun K9 hK9 => ?_) AllReadyH.nil
              go_simp
              go_at_call 29
              refine (csz _).mono ?_
              rintro e w5 ⟨rfl, g5a⟩
              have g5 := tn g4 g5a
              clear g5a
              go_wp2_with fail
              refine hK9.out _ _ g5 (fun _ => ?_)
              clear hK9 K9
              (try simp only [Act.put, List.setIfInBounds_toArray, List.set_cons_zero, List.set_cons_succ])
              refine wpAnyH_take (i := 14) (oi := { dst := some 67, op := Op.binOp BinOp.add 9 (Operand.tmp 61) (Operand.tmp 66) 9, type := _, pos := _, after := _, guard := _ }) (v := .string T3) rfl (by kernel_rfl) (by kernel_rfl) (by kernel_rfl) (fun _ _ _ h => h) (Or.inl ⟨by rfl, fun V (hV : w2.grownBy V none) => by go_simp⟩) g5 ?_
              (try simp only [Act.put, List.setIfInBounds_toArray, List.set_cons_zero, List.set_cons_succ])
              refine wpAnyH_take (i := 15) (oi := { dst := some 4, op := Op.assign (Operand.tmp 67), type := _, pos := _, after := _, guard := _ }) (v := .string T3) rfl (by kernel_rfl) (by kernel_rfl) (by kernel_rfl) (fun _ _ _ h => h) (Or.inl ⟨by rfl, fun V (hV : w2.grownBy V none) => by go_simp⟩) g5 ?_
              (try simp only [Act.put, List.setIfInBounds_toArray, List.set_cons_zero, List.set_cons_succ])
              refine wpAnyH_done (by kernel_rfl) ?_ _
              refine NoPanic.normal ?_
              have g6 : w1.grownBy w5 none := tn (tn hg g2) g5
              clear cput csz h0c h0b
              go_wp2
              go_roundw
              case rel => exact ⟨j + 1, by go_num, by rw [← unhide HT3], by omega, HGT, g6⟩
              case measure => simp [intOf]; omega
            · have hd1 := g2.cell hc1 (by simp)
              have hd1' := g2.cell hc1' (by simp)
              simp only [dirN, if_true] at cput
              have h0b : w1.grownBy w2.drew none := gb_drew (tn hg g2)
              have hk0 := g2.cell hc0 (by simp)
              have hk2 := g2.cell hc2 (by simp)
              have hk2' := g2.cell hc2' (by simp)
              go_upto_region 12 with fail
              have h0c : w2.grownBy w2.drew none := gb_drew (gb_refl _ _)
              refine wp_region_noPanic ?_
              refine wp_region_held_drew (S := fun V => w2.grownBy V none) (by kernel_rfl) h0c (fun _ => ?_)
              refine wpAnyH_take (i := 0) (oi := { dst := some 53, op := Op.move (Operand.tmp 4), type := _, pos := _, after := _, guard := _ }) (v := .string T0) rfl (by kernel_rfl) (by kernel_rfl) (by kernel_rfl) (fun _ _ _ h => h) (Or.inl ⟨by rfl, fun V (hV : w2.grownBy V none) => by go_simp⟩) h0c ?_
              (try simp only [Act.put, List.setIfInBounds_toArray, List.set_cons_zero, List.set_cons_succ])
              refine wpAnyH_take (i := 1) (oi := { dst := some 54, op := Op.move (Operand.tmp 6), type := _, pos := _, after := _, guard := _ }) (v := .int .u64 1) rfl (by kernel_rfl) (by kernel_rfl) (by kernel_rfl) (fun _ _ _ h => h) (Or.inl ⟨by rfl, fun V (hV : w2.grownBy V none) => by go_simp⟩) h0c ?_
              (try simp only [Act.put, List.setIfInBounds_toArray, List.set_cons_zero, List.set_cons_succ])
              refine wpAnyH_take (i := 3) (oi := { dst := some 56, op := Op.move (Operand.tmp 0), type := _, pos := _, after := _, guard := _ }) (v := .slice (some ⟨b, o, none⟩) n c) rfl (by kernel_rfl) (by kernel_rfl) (by kernel_rfl) (fun _ _ _ h => h) (Or.inl ⟨by rfl, fun V (hV : w2.grownBy V none) => by go_simp⟩) h0c ?_
              (try simp only [Act.put, List.setIfInBounds_toArray, List.set_cons_zero, List.set_cons_succ])
              refine wpAnyH_take (i := 4) (oi := { dst := some 57, op := Op.move (Operand.tmp 5), type := _, pos := _, after := _, guard := _ }) (v := .int .i64 (j : Int)) rfl (by kernel_rfl) (by kernel_rfl) (by kernel_rfl) (fun _ _ _ h => h) (Or.inl ⟨by rfl, fun V (hV : w2.grownBy V none) => by go_simp⟩) h0c ?_
              (try simp only [Act.put, List.setIfInBounds_toArray, List.set_cons_zero, List.set_cons_succ])
              refine wpAnyH_take (i := 5) (oi := { dst := some 58, op := Op.indexAddr 43 (Operand.tmp 56) (Operand.tmp 57), type := _, pos := _, after := _, guard := _ }) (v := .pointer (some ⟨b, o + j * 3, none⟩)) rfl (by kernel_rfl) (by kernel_rfl) (by kernel_rfl) (fun _ _ _ h => h) (Or.inl ⟨by rfl, fun V (hV : w2.grownBy V none) => by go_simp⟩) h0c ?_
              (try simp only [Act.put, List.setIfInBounds_toArray, List.set_cons_zero, List.set_cons_succ])
              refine wpAnyH_take (i := 6) (oi := { dst := some 59, op := Op.fieldAddr 73 (Operand.tmp 58) 0, type := _, pos := _, after := _, guard := _ }) (v := .pointer (some ⟨b, o + j * 3, none⟩)) rfl (by kernel_rfl) (by kernel_rfl) (by kernel_rfl) (fun _ _ _ h => h) (Or.inl ⟨by rfl, fun V (hV : w2.grownBy V none) => by go_simp⟩) h0c ?_
              (try simp only [Act.put, List.setIfInBounds_toArray, List.set_cons_zero, List.set_cons_succ])
              refine wpAnyH_take (i := 7) (oi := { dst := some 60, op := Op.load 9 (Operand.tmp 59), type := _, pos := _, after := _, guard := _ }) (v := .string TN) rfl (by kernel_rfl) (by kernel_rfl) (by kernel_rfl) (fun _ _ _ h => h) (Or.inl ⟨by rfl, fun V (hV : w2.grownBy V none) => by (have q9 := hV.cell hk0 (by simp); go_simp)⟩) h0c ?_
              (try simp only [Act.put, List.setIfInBounds_toArray, List.set_cons_zero, List.set_cons_succ])
              refine wpAnyH_take (i := 9) (oi := { dst := some 62, op := Op.move (Operand.tmp 0), type := _, pos := _, after := _, guard := _ }) (v := .slice (some ⟨b, o, none⟩) n c) rfl (by kernel_rfl) (by kernel_rfl) (by kernel_rfl) (fun _ _ _ h => h) (Or.inl ⟨by rfl, fun V (hV : w2.grownBy V none) => by go_simp⟩) h0c ?_
              (try simp only [Act.put, List.setIfInBounds_toArray, List.set_cons_zero, List.set_cons_succ])
              refine wpAnyH_take (i := 10) (oi := { dst := some 63, op := Op.move (Operand.tmp 5), type := _, pos := _, after := _, guard := _ }) (v := .int .i64 (j : Int)) rfl (by kernel_rfl) (by kernel_rfl) (by kernel_rfl) (fun _ _ _ h => h) (Or.inl ⟨by rfl, fun V (hV : w2.grownBy V none) => by go_simp⟩) h0c ?_
              (try simp only [Act.put, List.setIfInBounds_toArray, List.set_cons_zero, List.set_cons_succ])
              refine wpAnyH_take (i := 11) (oi := { dst := some 64, op := Op.indexAddr 43 (Operand.tmp 62) (Operand.tmp 63), type := _, pos := _, after := _, guard := _ }) (v := .pointer (some ⟨b, o + j * 3, none⟩)) rfl (by kernel_rfl) (by kernel_rfl) (by kernel_rfl) (fun _ _ _ h => h) (Or.inl ⟨by rfl, fun V (hV : w2.grownBy V none) => by go_simp⟩) h0c ?_
              (try simp only [Act.put, List.setIfInBounds_toArray, List.set_cons_zero, List.set_cons_succ])
              refine wpAnyH_take (i := 12) (oi := { dst := some 65, op := Op.fieldAddr 73 (Operand.tmp 64) 2, type := _, pos := _, after := _, guard := _ }) (v := .pointer (some ⟨b, o + (j * 3 + 2), none⟩)) rfl (by kernel_rfl) (by kernel_rfl) (by kernel_rfl) (fun _ _ _ h => h) (Or.inl ⟨by rfl, fun V (hV : w2.grownBy V none) => by go_simp⟩) h0c ?_
              (try simp only [Act.put, List.setIfInBounds_toArray, List.set_cons_zero, List.set_cons_succ])
              refine wpAnyH_take (i := 13) (oi := { dst := some 66, op := Op.load 9 (Operand.tmp 65), type := _, pos := _, after := _, guard := _ }) (v := .string TI) rfl (by kernel_rfl) (by kernel_rfl) (by kernel_rfl) (fun _ _ _ h => h) (Or.inl ⟨by rfl, fun V (hV : w2.grownBy V none) => by (have q9 := hV.cell hk2 (by simp); have q8 := hV.cell hk2' (by simp); go_simp)⟩) h0c ?_
              (try simp only [Act.put, List.setIfInBounds_toArray, List.set_cons_zero, List.set_cons_succ])
              refine wpAnyH_ready (rs := [2]) (by kernel_rfl) (by simp) ?_
              refine AllReadyH.cons (o := { dst := some 55, op := Op.call { callee := Callee.value (Operand.func 26), args := #[(Operand.tmp 53), (Operand.tmp 54), Operand.const (Value.int IntKind.i64 1)], argTypes := #[9, 26, 3] }, type := _, pos := _, after := _, guard := _ }) rfl (fun K9 hK9 => ?_) AllReadyH.nil
              go_simp
              go_at_call 26
              refine (cput _).mono ?_
              rintro e w4 ⟨rfl, g4a⟩
              have g4 := tn h0c g4a
              clear g4a
              go_wp2_with fail
              refine hK9.out _ _ g4 (fun _ => ?_)
              clear hK9 K9
              (try simp only [Act.put, List.setIfInBounds_toArray, List.set_cons_zero, List.set_cons_succ])
              refine wpAnyH_ready (rs := [8]) (by kernel_rfl) (by simp) ?_
              refine AllReadyH.cons (o := { dst := some 61, op := Op.call { callee := Callee.value (Operand.func 29), args := #[(Operand.tmp 55), (Operand.tmp 60)], argTypes := #[9, 9] }, type := _, pos := _, after := _, guard := _ }) rfl (fun K9 hK9 => ?_) AllReadyH.nil
              go_simp
              go_at_call 29
              refine (csz _).mono ?_
              rintro e w5 ⟨rfl, g5a⟩
              have g5 := tn g4 g5a
              clear g5a
              go_wp2_with fail
              refine hK9.out _ _ g5 (fun _ => ?_)
              clear hK9 K9
              (try simp only [Act.put, List.setIfInBounds_toArray, List.set_cons_zero, List.set_cons_succ])
              refine wpAnyH_take (i := 14) (oi := { dst := some 67, op := Op.binOp BinOp.add 9 (Operand.tmp 61) (Operand.tmp 66) 9, type := _, pos := _, after := _, guard := _ }) (v := .string T3) rfl (by kernel_rfl) (by kernel_rfl) (by kernel_rfl) (fun _ _ _ h => h) (Or.inl ⟨by rfl, fun V (hV : w2.grownBy V none) => by go_simp⟩) g5 ?_
              (try simp only [Act.put, List.setIfInBounds_toArray, List.set_cons_zero, List.set_cons_succ])
              refine wpAnyH_take (i := 15) (oi := { dst := some 4, op := Op.assign (Operand.tmp 67), type := _, pos := _, after := _, guard := _ }) (v := .string T3) rfl (by kernel_rfl) (by kernel_rfl) (by kernel_rfl) (fun _ _ _ h => h) (Or.inl ⟨by rfl, fun V (hV : w2.grownBy V none) => by go_simp⟩) g5 ?_
              (try simp only [Act.put, List.setIfInBounds_toArray, List.set_cons_zero, List.set_cons_succ])
              refine wpAnyH_done (by kernel_rfl) ?_ _
              refine NoPanic.normal ?_
              have g6 : w1.grownBy w5 none := tn (tn hg g2) g5
              clear cput csz h0c h0b
              go_wp2
              go_roundw
              case rel => exact ⟨j + 1, by go_num, by rw [← unhide HT3], by omega, HGT, g6⟩
              case measure => simp [intOf]; omega
          · have hj1 : (0 : Int) < (j : Int) := by omega
            have hj2 : 0 < j := by omega
            have hjq : (j : Int) - 1 = (q : Int) := by have := unhide HQ; omega
            have hqn : q < n := by have := unhide HQ; omega
            have hqw : IntKind.i64.wrap (q : Int) = (q : Int) := by rw [IntKind.wrap_i64]; omega
            by_cases hls : lessL pn nm = true
            · rw [hls] at cless
              have hgt : goodTo es (j + 1) = true := by rw [goodTo_succ, unhide HG, unhide HGD, hp, hls]; simp
              have HGT := hide hgt
              clear hj0 hgt hp HGD HG hls
              refine wp_region_noPanic ?_
              refine wp_region_held_drew (S := fun V => wr.grownBy V none) (by kernel_rfl) h0 (fun _ => ?_)
              refine wpAnyH_take (i := 0) (oi := { dst := some 21, op := Op.move (Operand.tmp 0), type := _, pos := _, after := _, guard := _ }) (v := .slice (some ⟨b, o, none⟩) n c) rfl (by kernel_rfl) (by kernel_rfl) (by kernel_rfl) (fun _ _ _ h => h) (Or.inl ⟨by rfl, fun V (hV : wr.grownBy V none) => by go_simp⟩) h0 ?_
              (try simp only [Act.put, List.setIfInBounds_toArray, List.set_cons_zero, List.set_cons_succ])
              refine wpAnyH_take (i := 1) (oi := { dst := some 22, op := Op.move (Operand.tmp 5), type := _, pos := _, after := _, guard := _ }) (v := .int .i64 (j : Int)) rfl (by kernel_rfl) (by kernel_rfl) (by kernel_rfl) (fun _ _ _ h => h) (Or.inl ⟨by rfl, fun V (hV : wr.grownBy V none) => by go_simp⟩) h0 ?_
              (try simp only [Act.put, List.setIfInBounds_toArray, List.set_cons_zero, List.set_cons_succ])
              refine wpAnyH_take (i := 2) (oi := { dst := some 23, op := Op.indexAddr 43 (Operand.tmp 21) (Operand.tmp 22), type := _, pos := _, after := _, guard := _ }) (v := .pointer (some ⟨b, o + j * 3, none⟩)) rfl (by kernel_rfl) (by kernel_rfl) (by kernel_rfl) (fun _ _ _ h => h) (Or.inl ⟨by rfl, fun V (hV : wr.grownBy V none) => by go_simp⟩) h0 ?_
              (try simp only [Act.put, List.setIfInBounds_toArray, List.set_cons_zero, List.set_cons_succ])
              refine wpAnyH_take (i := 3) (oi := { dst := some 24, op := Op.fieldAddr 73 (Operand.tmp 23) 0, type := _, pos := _, after := _, guard := _ }) (v := .pointer (some ⟨b, o + j * 3, none⟩)) rfl (by kernel_rfl) (by kernel_rfl) (by kernel_rfl) (fun _ _ _ h => h) (Or.inl ⟨by rfl, fun V (hV : wr.grownBy V none) => by go_simp⟩) h0 ?_
              (try simp only [Act.put, List.setIfInBounds_toArray, List.set_cons_zero, List.set_cons_succ])
              refine wpAnyH_take (i := 4) (oi := { dst := some 25, op := Op.load 9 (Operand.tmp 24), type := _, pos := _, after := _, guard := _ }) (v := .string TN) rfl (by kernel_rfl) (by kernel_rfl) (by kernel_rfl) (fun _ _ _ h => h) (Or.inl ⟨by rfl, fun V (hV : wr.grownBy V none) => by (have q9 := hV.cell hc0 (by simp); go_simp)⟩) h0 ?_
              (try simp only [Act.put, List.setIfInBounds_toArray, List.set_cons_zero, List.set_cons_succ])
              refine wpAnyH_ready (rs := [5]) (by kernel_rfl) (by simp) ?_
              refine AllReadyH.cons (o := { dst := some 26, op := Op.call { callee := Callee.value (Operand.func 27), args := #[(Operand.tmp 25)], argTypes := #[9] }, type := _, pos := _, after := _, guard := _ }) rfl (fun K9 hK9 => ?_) AllReadyH.nil
              go_simp
              go_at_call 27
              refine (cpart _).mono ?_
              rintro e w2a ⟨rfl, g2b⟩
              have g2a := tn h0 g2b
              clear g2b
              go_wp2_with fail
              refine hK9.out _ _ g2a (fun _ => ?_)
              clear hK9 K9
              (try simp only [Act.put, List.setIfInBounds_toArray, List.set_cons_zero, List.set_cons_succ])
              refine wpAnyH_take (i := 6) (oi := { dst := some 27, op := Op.unOp UnOp.not 4 (Operand.tmp 26), type := _, pos := _, after := _, guard := _ }) (v := .bool false) rfl (by kernel_rfl) (by kernel_rfl) (by kernel_rfl) (fun _ _ _ h => h) (Or.inl ⟨by rfl, fun V (hV : wr.grownBy V none) => by go_simp⟩) g2a ?_
              (try simp only [Act.put, List.setIfInBounds_toArray, List.set_cons_zero, List.set_cons_succ])
              refine wpAnyH_take (i := 7) (oi := { dst := some 28, op := Op.move (Operand.tmp 27), type := _, pos := _, after := _, guard := _ }) (v := .bool false) rfl (by kernel_rfl) (by kernel_rfl) (by kernel_rfl) (fun _ _ _ h => h) (Or.inl ⟨by rfl, fun V (hV : wr.grownBy V none) => by go_simp⟩) g2a ?_
              (try simp only [Act.put, List.setIfInBounds_toArray, List.set_cons_zero, List.set_cons_succ])
              refine wpAnyH_take (i := 8) (oi := { dst := some 29, op := Op.move (Operand.tmp 5), type := _, pos := _, after := _, guard := _ }) (v := .int .i64 (j : Int)) rfl (by kernel_rfl) (by kernel_rfl) (by kernel_rfl) (fun _ _ _ h => h) (Or.inl ⟨by rfl, fun V (hV : wr.grownBy V none) => by go_simp⟩) g2a ?_
              (try simp only [Act.put, List.setIfInBounds_toArray, List.set_cons_zero, List.set_cons_succ])
              refine wpAnyH_take (i := 9) (oi := { dst := some 30, op := Op.binOp BinOp.gtr 3 (Operand.tmp 29) (Operand.const (Value.int IntKind.i64 0)) 3, type := _, pos := _, after := _, guard := _ }) (v := .bool true) rfl (by kernel_rfl) (by kernel_rfl) (by kernel_rfl) (fun _ _ _ h => h) (Or.inl ⟨by rfl, fun V (hV : wr.grownBy V none) => by go_simp⟩) g2a ?_
              (try simp only [Act.put, List.setIfInBounds_toArray, List.set_cons_zero, List.set_cons_succ])
              refine wpAnyH_take (i := 10) (oi := { dst := some 31, op := Op.move (Operand.tmp 30), type := _, pos := _, after := _, guard := _ }) (v := .bool true) rfl (by kernel_rfl) (by kernel_rfl) (by kernel_rfl) (fun _ _ _ h => h) (Or.inl ⟨by rfl, fun V (hV : wr.grownBy V none) => by go_simp⟩) g2a ?_
              (try simp only [Act.put, List.setIfInBounds_toArray, List.set_cons_zero, List.set_cons_succ])
              refine wpAnyH_take (i := 11) (oi := { dst := some 32, op := Op.move (Operand.tmp 0), type := _, pos := _, after := _, guard := _ }) (v := .slice (some ⟨b, o, none⟩) n c) rfl (by kernel_rfl) (by kernel_rfl) (by kernel_rfl) (fun _ _ _ h => h) (Or.inl ⟨by rfl, fun V (hV : wr.grownBy V none) => by go_simp⟩) g2a ?_
              (try simp only [Act.put, List.setIfInBounds_toArray, List.set_cons_zero, List.set_cons_succ])
              refine wpAnyH_take (i := 12) (oi := { dst := some 33, op := Op.move (Operand.tmp 5), type := _, pos := _, after := _, guard := _ }) (v := .int .i64 (j : Int)) rfl (by kernel_rfl) (by kernel_rfl) (by kernel_rfl) (fun _ _ _ h => h) (Or.inl ⟨by rfl, fun V (hV : wr.grownBy V none) => by go_simp⟩) g2a ?_
              (try simp only [Act.put, List.setIfInBounds_toArray, List.set_cons_zero, List.set_cons_succ])
              refine wpAnyH_take (i := 13) (oi := { dst := some 34, op := Op.binOp BinOp.sub 3 (Operand.tmp 33) (Operand.const (Value.int IntKind.i64 1)) 3, type := _, pos := _, after := _, guard := _ }) (v := .int .i64 (q : Int)) rfl (by kernel_rfl) (by kernel_rfl) (by kernel_rfl) (fun _ _ _ h => h) (Or.inl ⟨by rfl, fun V (hV : wr.grownBy V none) => by go_simp⟩) g2a ?_
              (try simp only [Act.put, List.setIfInBounds_toArray, List.set_cons_zero, List.set_cons_succ])
              refine wpAnyH_take (i := 14) (oi := { dst := some 35, op := Op.indexAddr 43 (Operand.tmp 32) (Operand.tmp 34), type := _, pos := _, after := _, guard := _ }) (v := .pointer (some ⟨b, o + q * 3, none⟩)) rfl (by kernel_rfl) (by kernel_rfl) (by kernel_rfl) (fun _ _ _ h => h) (Or.inl ⟨by rfl, fun V (hV : wr.grownBy V none) => by go_simp⟩) g2a ?_
              (try simp only [Act.put, List.setIfInBounds_toArray, List.set_cons_zero, List.set_cons_succ])
              refine wpAnyH_take (i := 15) (oi := { dst := some 36, op := Op.fieldAddr 73 (Operand.tmp 35) 0, type := _, pos := _, after := _, guard := _ }) (v := .pointer (some ⟨b, o + q * 3, none⟩)) rfl (by kernel_rfl) (by kernel_rfl) (by kernel_rfl) (fun _ _ _ h => h) (Or.inl ⟨by rfl, fun V (hV : wr.grownBy V none) => by go_simp⟩) g2a ?_
              (try simp only [Act.put, List.setIfInBounds_toArray, List.set_cons_zero, List.set_cons_succ])
              refine wpAnyH_take (i := 16) (oi := { dst := some 37, op := Op.load 9 (Operand.tmp 36), type := _, pos := _, after := _, guard := _ }) (v := .string TP) rfl (by kernel_rfl) (by kernel_rfl) (by kernel_rfl) (fun _ _ _ h => h) (Or.inl ⟨by rfl, fun V (hV : wr.grownBy V none) => by (have q9 := hV.cell hcp (by simp); go_simp)⟩) g2a ?_
              (try simp only [Act.put, List.setIfInBounds_toArray, List.set_cons_zero, List.set_cons_succ])
              refine wpAnyH_take (i := 17) (oi := { dst := some 38, op := Op.move (Operand.tmp 0), type := _, pos := _, after := _, guard := _ }) (v := .slice (some ⟨b, o, none⟩) n c) rfl (by kernel_rfl) (by kernel_rfl) (by kernel_rfl) (fun _ _ _ h => h) (Or.inl ⟨by rfl, fun V (hV : wr.grownBy V none) => by go_simp⟩) g2a ?_
              (try simp only [Act.put, List.setIfInBounds_toArray, List.set_cons_zero, List.set_cons_succ])
              refine wpAnyH_take (i := 18) (oi := { dst := some 39, op := Op.move (Operand.tmp 5), type := _, pos := _, after := _, guard := _ }) (v := .int .i64 (j : Int)) rfl (by kernel_rfl) (by kernel_rfl) (by kernel_rfl) (fun _ _ _ h => h) (Or.inl ⟨by rfl, fun V (hV : wr.grownBy V none) => by go_simp⟩) g2a ?_
              (try simp only [Act.put, List.setIfInBounds_toArray, List.set_cons_zero, List.set_cons_succ])
              refine wpAnyH_take (i := 19) (oi := { dst := some 40, op := Op.indexAddr 43 (Operand.tmp 38) (Operand.tmp 39), type := _, pos := _, after := _, guard := _ }) (v := .pointer (some ⟨b, o + j * 3, none⟩)) rfl (by kernel_rfl) (by kernel_rfl) (by kernel_rfl) (fun _ _ _ h => h) (Or.inl ⟨by rfl, fun V (hV : wr.grownBy V none) => by go_simp⟩) g2a ?_
              (try simp only [Act.put, List.setIfInBounds_toArray, List.set_cons_zero, List.set_cons_succ])
              refine wpAnyH_take (i := 20) (oi := { dst := some 41, op := Op.fieldAddr 73 (Operand.tmp 40) 0, type := _, pos := _, after := _, guard := _ }) (v := .pointer (some ⟨b, o + j * 3, none⟩)) rfl (by kernel_rfl) (by kernel_rfl) (by kernel_rfl) (fun _ _ _ h => h) (Or.inl ⟨by rfl, fun V (hV : wr.grownBy V none) => by go_simp⟩) g2a ?_
              (try simp only [Act.put, List.setIfInBounds_toArray, List.set_cons_zero, List.set_cons_succ])
              refine wpAnyH_take (i := 21) (oi := { dst := some 42, op := Op.load 9 (Operand.tmp 41), type := _, pos := _, after := _, guard := _ }) (v := .string TN) rfl (by kernel_rfl) (by kernel_rfl) (by kernel_rfl) (fun _ _ _ h => h) (Or.inl ⟨by rfl, fun V (hV : wr.grownBy V none) => by (have q9 := hV.cell hc0 (by simp); go_simp)⟩) g2a ?_
              (try simp only [Act.put, List.setIfInBounds_toArray, List.set_cons_zero, List.set_cons_succ])
              refine wpAnyH_ready (rs := [22]) (by kernel_rfl) (by simp) ?_
              refine AllReadyH.cons (o := { dst := some 43, op := Op.call { callee := Callee.value (Operand.func 28), args := #[(Operand.tmp 37), (Operand.tmp 42)], argTypes := #[9, 9] }, type := _, pos := _, after := _, guard := _ }) rfl (fun K9 hK9 => ?_) AllReadyH.nil
              go_simp
              go_at_call 28
              refine (cless _).mono ?_
              rintro e w3a ⟨rfl, g3b⟩
              have g3a := tn g2a g3b
              clear g3b
              go_wp2_with fail
              refine hK9.out _ _ g3a (fun _ => ?_)
              clear hK9 K9
              (try simp only [Act.put, List.setIfInBounds_toArray, List.set_cons_zero, List.set_cons_succ])
              refine wpAnyH_take (i := 23) (oi := { dst := some 44, op := Op.unOp UnOp.not 4 (Operand.tmp 43), type := _, pos := _, after := _, guard := _ }) (v := .bool false) rfl (by kernel_rfl) (by kernel_rfl) (by kernel_rfl) (fun _ _ _ h => h) (Or.inl ⟨by rfl, fun V (hV : wr.grownBy V none) => by go_simp⟩) g3a ?_
              (try simp only [Act.put, List.setIfInBounds_toArray, List.set_cons_zero, List.set_cons_succ])
              refine wpAnyH_take (i := 24) (oi := { dst := some 45, op := Op.pick (Operand.tmp 31) (Operand.tmp 44) (Operand.const (Value.bool false)), type := _, pos := _, after := _, guard := _ }) (v := .bool false) rfl (by kernel_rfl) (by kernel_rfl) (by kernel_rfl) (fun _ _ _ h => h) (Or.inl ⟨by rfl, fun V (hV : wr.grownBy V none) => by go_simp⟩) g3a ?_
              (try simp only [Act.put, List.setIfInBounds_toArray, List.set_cons_zero, List.set_cons_succ])
              refine wpAnyH_take (i := 25) (oi := { dst := some 46, op := Op.pick (Operand.tmp 28) (Operand.const (Value.bool true)) (Operand.tmp 45), type := _, pos := _, after := _, guard := _ }) (v := .bool false) rfl (by kernel_rfl) (by kernel_rfl) (by kernel_rfl) (fun _ _ _ h => h) (Or.inl ⟨by rfl, fun V (hV : wr.grownBy V none) => by go_simp⟩) g3a ?_
              (try simp only [Act.put, List.setIfInBounds_toArray, List.set_cons_zero, List.set_cons_succ])
              refine wpAnyH_done (by kernel_rfl) ?_ _
              refine NoPanic.normal ?_
              obtain ⟨w2, hw2⟩ : ∃ V, V = w3a := ⟨_, rfl⟩
              rw [← hw2]
              have g2 : wr.grownBy w2 none := by rw [hw2]; exact g3a
              clear hw2
              clear cpart cless h0
              cases D
              · have hd1 := g2.cell hc1 (by simp)
                have hd1' := g2.cell hc1' (by simp)
                simp only [dirN, Bool.false_eq_true, if_false] at cput
                have h0b : w1.grownBy w2.drew none := gb_drew (tn hg g2)
                have hk0 := g2.cell hc0 (by simp)
                have hk2 := g2.cell hc2 (by simp)
                have hk2' := g2.cell hc2' (by simp)
                go_upto_region 12 with fail
                have h0c : w2.grownBy w2.drew none := gb_drew (gb_refl _ _)
                refine wp_region_noPanic ?_
                refine wp_region_held_drew (S := fun V => w2.grownBy V none) (by kernel_rfl) h0c (fun _ => ?_)
                refine wpAnyH_take (i := 0) (oi := { dst := some 53, op := Op.move (Operand.tmp 4), type := _, pos := _, after := _, guard := _ }) (v := .string T0) rfl (by kernel_rfl) (by kernel_rfl) (by kernel_rfl) (fun _ _ _ h => h) (Or.inl ⟨by rfl, fun V (hV : w2.grownBy V none) => by go_simp⟩) h0c ?_
                (try simp only [Act.put, List.setIfInBounds_toArray, List.set_cons_zero, List.set_cons_succ])
                refine wpAnyH_take (i := 1) (oi := { dst := some 54, op := Op.move (Operand.tmp 6), type := _, pos := _, after := _, guard := _ }) (v := .int .u64 0) rfl (by kernel_rfl) (by kernel_rfl) (by kernel_rfl) (fun _ _ _ h => h) (Or.inl ⟨by rfl, fun V (hV : w2.grownBy V none) => by go_simp⟩) h0c ?_
                (try simp only [Act.put, List.setIfInBounds_toArray, List.set_cons_zero, List.set_cons_succ])
                refine wpAnyH_take (i := 3) (oi := { dst := some 56, op := Op.move (Operand.tmp 0), type := _, pos := _, after := _, guard := _ }) (v := .slice (some ⟨b, o, none⟩) n c) rfl (by kernel_rfl) (by kernel_rfl) (by kernel_rfl) (fun _ _ _ h => h) (Or.inl ⟨by rfl, fun V (hV : w2.grownBy V none) => by go_simp⟩) h0c ?_
                (try simp only [Act.put, List.setIfInBounds_toArray, List.set_cons_zero, List.set_cons_succ])
                refine wpAnyH_take (i := 4) (oi := { dst := some 57, op := Op.move (Operand.tmp 5), type := _, pos := _, after := _, guard := _ }) (v := .int .i64 (j : Int)) rfl (by kernel_rfl) (by kernel_rfl) (by kernel_rfl) (fun _ _ _ h => h) (Or.inl ⟨by rfl, fun V (hV : w2.grownBy V none) => by go_simp⟩) h0c ?_
                (try simp only [Act.put, List.setIfInBounds_toArray, List.set_cons_zero, List.set_cons_succ])
                refine wpAnyH_take (i := 5) (oi := { dst := some 58, op := Op.indexAddr 43 (Operand.tmp 56) (Operand.tmp 57), type := _, pos := _, after := _, guard := _ }) (v := .pointer (some ⟨b, o + j * 3, none⟩)) rfl (by kernel_rfl) (by kernel_rfl) (by kernel_rfl) (fun _ _ _ h => h) (Or.inl ⟨by rfl, fun V (hV : w2.grownBy V none) => by go_simp⟩) h0c ?_
                (try simp only [Act.put, List.setIfInBounds_toArray, List.set_cons_zero, List.set_cons_succ])
                refine wpAnyH_take (i := 6) (oi := { dst := some 59, op := Op.fieldAddr 73 (Operand.tmp 58) 0, type := _, pos := _, after := _, guard := _ }) (v := .pointer (some ⟨b, o + j * 3, none⟩)) rfl (by kernel_rfl) (by kernel_rfl) (by kernel_rfl) (fun _ _ _ h => h) (Or.inl ⟨by rfl, fun V (hV : w2.grownBy V none) => by go_simp⟩) h0c ?_
                (try simp only [Act.put, List.setIfInBounds_toArray, List.set_cons_zero, List.set_cons_succ])
                refine wpAnyH_take (i := 7) (oi := { dst := some 60, op := Op.load 9 (Operand.tmp 59), type := _, pos := _, after := _, guard := _ }) (v := .string TN) rfl (by kernel_rfl) (by kernel_rfl) (by kernel_rfl) (fun _ _ _ h => h) (Or.inl ⟨by rfl, fun V (hV : w2.grownBy V none) => by (have q9 := hV.cell hk0 (by simp); go_simp)⟩) h0c ?_
                (try simp only [Act.put, List.setIfInBounds_toArray, List.set_cons_zero, List.set_cons_succ])
                refine wpAnyH_take (i := 9) (oi := { dst := some 62, op := Op.move (Operand.tmp 0), type := _, pos := _, after := _, guard := _ }) (v := .slice (some ⟨b, o, none⟩) n c) rfl (by kernel_rfl) (by kernel_rfl) (by kernel_rfl) (fun _ _ _ h => h) (Or.inl ⟨by rfl, fun V (hV : w2.grownBy V none) => by go_simp⟩) h0c ?_
                (try simp only [Act.put, List.setIfInBounds_toArray, List.set_cons_zero, List.set_cons_succ])
                refine wpAnyH_take (i := 10) (oi := { dst := some 63, op := Op.move (Operand.tmp 5), type := _, pos := _, after := _, guard := _ }) (v := .int .i64 (j : Int)) rfl (by kernel_rfl) (by kernel_rfl) (by kernel_rfl) (fun _ _ _ h => h) (Or.inl ⟨by rfl, fun V (hV : w2.grownBy V none) => by go_simp⟩) h0c ?_
                (try simp only [Act.put, List.setIfInBounds_toArray, List.set_cons_zero, List.set_cons_succ])
                refine wpAnyH_take (i := 11) (oi := { dst := some 64, op := Op.indexAddr 43 (Operand.tmp 62) (Operand.tmp 63), type := _, pos := _, after := _, guard := _ }) (v := .pointer (some ⟨b, o + j * 3, none⟩)) rfl (by kernel_rfl) (by kernel_rfl) (by kernel_rfl) (fun _ _ _ h => h) (Or.inl ⟨by rfl, fun V (hV : w2.grownBy V none) => by go_simp⟩) h0c ?_
                (try simp only [Act.put, List.setIfInBounds_toArray, List.set_cons_zero, List.set_cons_succ])
                refine wpAnyH_take (i := 12) (oi := { dst := some 65, op := Op.fieldAddr 73 (Operand.tmp 64) 2, type := _, pos := _, after := _, guard := _ }) (v := .pointer (some ⟨b, o + (j * 3 + 2), none⟩)) rfl (by kernel_rfl) (by kernel_rfl) (by kernel_rfl) (fun _ _ _ h => h) (Or.inl ⟨by rfl, fun V (hV : w2.grownBy V none) => by go_simp⟩) h0c ?_
                (try simp only [Act.put, List.setIfInBounds_toArray, List.set_cons_zero, List.set_cons_succ])
                refine wpAnyH_take (i := 13) (oi := { dst := some 66, op := Op.load 9 (Operand.tmp 65), type := _, pos := _, after := _, guard := _ }) (v := .string TI) rfl (by kernel_rfl) (by kernel_rfl) (by kernel_rfl) (fun _ _ _ h => h) (Or.inl ⟨by rfl, fun V (hV : w2.grownBy V none) => by (have q9 := hV.cell hk2 (by simp); have q8 := hV.cell hk2' (by simp); go_simp)⟩) h0c ?_
                (try simp only [Act.put, List.setIfInBounds_toArray, List.set_cons_zero, List.set_cons_succ])
                refine wpAnyH_ready (rs := [2]) (by kernel_rfl) (by simp) ?_
                refine AllReadyH.cons (o := { dst := some 55, op := Op.call { callee := Callee.value (Operand.func 26), args := #[(Operand.tmp 53), (Operand.tmp 54), Operand.const (Value.int IntKind.i64 1)], argTypes := #[9, 26, 3] }, type := _, pos := _, after := _, guard := _ }) rfl (fun K9 hK9 => ?_) AllReadyH.nil
                go_simp
                go_at_call 26
                refine (cput _).mono ?_
                rintro e w4 ⟨rfl, g4a⟩
                have g4 := tn h0c g4a
                clear g4a
                go_wp2_with fail
                refine hK9.out _ _ g4 (fun _ => ?_)
                clear hK9 K9
                (try simp only [Act.put, List.setIfInBounds_toArray, List.set_cons_zero, List.set_cons_succ])
                refine wpAnyH_ready (rs := [8]) (by kernel_rfl) (by simp) ?_
                refine AllReadyH.cons (o := { dst := some 61, op := Op.call { callee := Callee.value (Operand.func 29), args := #[(Operand.tmp 55), (Operand.tmp 60)], argTypes := #[9, 9] }, type := _, pos := _, after := _, guard := _ }) rfl (fun K9 hK9 => ?_) AllReadyH.nil
                go_simp
                go_at_call 29
                refine (csz _).mono ?_
                rintro e w5 ⟨rfl, g5a⟩
                have g5 := tn g4 g5a
                clear g5a
                go_wp2_with fail
                refine hK9.out _ _ g5 (fun _ => ?_)
                clear hK9 K9
                (try simp only [Act.put, List.setIfInBounds_toArray, List.set_cons_zero, List.set_cons_succ])
                refine wpAnyH_take (i := 14) (oi := { dst := some 67, op := Op.binOp BinOp.add 9 (Operand.tmp 61) (Operand.tmp 66) 9, type := _, pos := _, after := _, guard := _ }) (v := .string T3) rfl (by kernel_rfl) (by kernel_rfl) (by kernel_rfl) (fun _ _ _ h => h) (Or.inl ⟨by rfl, fun V (hV : w2.grownBy V none) => by go_simp⟩) g5 ?_
                (try simp only [Act.put, List.setIfInBounds_toArray, List.set_cons_zero, List.set_cons_succ])
                refine wpAnyH_take (i := 15) (oi := { dst := some 4, op := Op.assign (Operand.tmp 67), type := _, pos := _, after := _, guard := _ }) (v := .string T3) rfl (by kernel_rfl) (by kernel_rfl) (by kernel_rfl) (fun _ _ _ h => h) (Or.inl ⟨by rfl, fun V (hV : w2.grownBy V none) => by go_simp⟩) g5 ?_
                (try simp only [Act.put, List.setIfInBounds_toArray, List.set_cons_zero, List.set_cons_succ])
                refine wpAnyH_done (by kernel_rfl) ?_ _
                refine NoPanic.normal ?_
                have g6 : w1.grownBy w5 none := tn (tn hg g2) g5
                clear cput csz h0c h0b
                go_wp2
                go_roundw
                case rel => exact ⟨j + 1, by go_num, by rw [← unhide HT3], by omega, HGT, g6⟩
                case measure => simp [intOf]; omega
              · have hd1 := g2.cell hc1 (by simp)
                have hd1' := g2.cell hc1' (by simp)
                simp only [dirN, if_true] at cput
                have h0b : w1.grownBy w2.drew none := gb_drew (tn hg g2)
                have hk0 := g2.cell hc0 (by simp)
                have hk2 := g2.cell hc2 (by simp)
                have hk2' := g2.cell hc2' (by simp)
                go_upto_region 12 with fail
                have h0c : w2.grownBy w2.drew none := gb_drew (gb_refl _ _)
                refine wp_region_noPanic ?_
                refine wp_region_held_drew (S := fun V => w2.grownBy V none) (by kernel_rfl) h0c (fun _ => ?_)
                refine wpAnyH_take (i := 0) (oi := { dst := some 53, op := Op.move (Operand.tmp 4), type := _, pos := _, after := _, guard := _ }) (v := .string T0) rfl (by kernel_rfl) (by kernel_rfl) (by kernel_rfl) (fun _ _ _ h => h) (Or.inl ⟨by rfl, fun V (hV : w2.grownBy V none) => by go_simp⟩) h0c ?_
                (try simp only [Act.put, List.setIfInBounds_toArray, List.set_cons_zero, List.set_cons_succ])
                refine wpAnyH_take (i := 1) (oi := { dst := some 54, op := Op.move (Operand.tmp 6), type := _, pos := _, after := _, guard := _ }) (v := .int .u64 1) rfl (by kernel_rfl) (by kernel_rfl) (by kernel_rfl) (fun _ _ _ h => h) (Or.inl ⟨by rfl, fun V (hV : w2.grownBy V none) => by go_simp⟩) h0c ?_
                (try simp only [Act.put, List.setIfInBounds_toArray, List.set_cons_zero, List.set_cons_succ])
                refine wpAnyH_take (i := 3) (oi := { dst := some 56, op := Op.move (Operand.tmp 0), type := _, pos := _, after := _, guard := _ }) (v := .slice (some ⟨b, o, none⟩) n c) rfl (by kernel_rfl) (by kernel_rfl) (by kernel_rfl) (fun _ _ _ h => h) (Or.inl ⟨by rfl, fun V (hV : w2.grownBy V none) => by go_simp⟩) h0c ?_
                (try simp only [Act.put, List.setIfInBounds_toArray, List.set_cons_zero, List.set_cons_succ])
                refine wpAnyH_take (i := 4) (oi := { dst := some 57, op := Op.move (Operand.tmp 5), type := _, pos := _, after := _, guard := _ }) (v := .int .i64 (j : Int)) rfl (by kernel_rfl) (by kernel_rfl) (by kernel_rfl) (fun _ _ _ h => h) (Or.inl ⟨by rfl, fun V (hV : w2.grownBy V none) => by go_simp⟩) h0c ?_
                (try simp only [Act.put, List.setIfInBounds_toArray, List.set_cons_zero, List.set_cons_succ])
                refine wpAnyH_take (i := 5) (oi := { dst := some 58, op := Op.indexAddr 43 (Operand.tmp 56) (Operand.tmp 57), type := _, pos := _, after := _, guard := _ }) (v := .pointer (some ⟨b, o + j * 3, none⟩)) rfl (by kernel_rfl) (by kernel_rfl) (by kernel_rfl) (fun _ _ _ h => h) (Or.inl ⟨by rfl, fun V (hV : w2.grownBy V none) => by go_simp⟩) h0c ?_
                (try simp only [Act.put, List.setIfInBounds_toArray, List.set_cons_zero, List.set_cons_succ])
                refine wpAnyH_take (i := 6) (oi := { dst := some 59, op := Op.fieldAddr 73 (Operand.tmp 58) 0, type := _, pos := _, after := _, guard := _ }) (v := .pointer (some ⟨b, o + j * 3, none⟩)) rfl (by kernel_rfl) (by kernel_rfl) (by kernel_rfl) (fun _ _ _ h => h) (Or.inl ⟨by rfl, fun V (hV : w2.grownBy V none) => by go_simp⟩) h0c ?_
                (try simp only [Act.put, List.setIfInBounds_toArray, List.set_cons_zero, List.set_cons_succ])
                refine wpAnyH_take (i := 7) (oi := { dst := some 60, op := Op.load 9 (Operand.tmp 59), type := _, pos := _, after := _, guard := _ }) (v := .string TN) rfl (by kernel_rfl) (by kernel_rfl) (by kernel_rfl) (fun _ _ _ h => h) (Or.inl ⟨by rfl, fun V (hV : w2.grownBy V none) => by (have q9 := hV.cell hk0 (by simp); go_simp)⟩) h0c ?_
                (try simp only [Act.put, List.setIfInBounds_toArray, List.set_cons_zero, List.set_cons_succ])
                refine wpAnyH_take (i := 9) (oi := { dst := some 62, op := Op.move (Operand.tmp 0), type := _, pos := _, after := _, guard := _ }) (v := .slice (some ⟨b, o, none⟩) n c) rfl (by kernel_rfl) (by kernel_rfl) (by kernel_rfl) (fun _ _ _ h => h) (Or.inl ⟨by rfl, fun V (hV : w2.grownBy V none) => by go_simp⟩) h0c ?_
                (try simp only [Act.put, List.setIfInBounds_toArray, List.set_cons_zero, List.set_cons_succ])
                refine wpAnyH_take (i := 10) (oi := { dst := some 63, op := Op.move (Operand.tmp 5), type := _, pos := _, after := _, guard := _ }) (v := .int .i64 (j : Int)) rfl (by kernel_rfl) (by kernel_rfl) (by kernel_rfl) (fun _ _ _ h => h) (Or.inl ⟨by rfl, fun V (hV : w2.grownBy V none) => by go_simp⟩) h0c ?_
                (try simp only [Act.put, List.setIfInBounds_toArray, List.set_cons_zero, List.set_cons_succ])
                refine wpAnyH_take (i := 11) (oi := { dst := some 64, op := Op.indexAddr 43 (Operand.tmp 62) (Operand.tmp 63), type := _, pos := _, after := _, guard := _ }) (v := .pointer (some ⟨b, o + j * 3, none⟩)) rfl (by kernel_rfl) (by kernel_rfl) (by kernel_rfl) (fun _ _ _ h => h) (Or.inl ⟨by rfl, fun V (hV : w2.grownBy V none) => by go_simp⟩) h0c ?_
                (try simp only [Act.put, List.setIfInBounds_toArray, List.set_cons_zero, List.set_cons_succ])
                refine wpAnyH_take (i := 12) (oi := { dst := some 65, op := Op.fieldAddr 73 (Operand.tmp 64) 2, type := _, pos := _, after := _, guard := _ }) (v := .pointer (some ⟨b, o + (j * 3 + 2), none⟩)) rfl (by kernel_rfl) (by kernel_rfl) (by kernel_rfl) (fun _ _ _ h => h) (Or.inl ⟨by rfl, fun V (hV : w2.grownBy V none) => by go_simp⟩) h0c ?_
                (try simp only [Act.put, List.setIfInBounds_toArray, List.set_cons_zero, List.set_cons_succ])
                refine wpAnyH_take (i := 13) (oi := { dst := some 66, op := Op.load 9 (Operand.tmp 65), type := _, pos := _, after := _, guard := _ }) (v := .string TI) rfl (by kernel_rfl) (by kernel_rfl) (by kernel_rfl) (fun _ _ _ h => h) (Or.inl ⟨by rfl, fun V (hV : w2.grownBy V none) => by (have q9 := hV.cell hk2 (by simp); have q8 := hV.cell hk2' (by simp); go_simp)⟩) h0c ?_
                (try simp only [Act.put, List.setIfInBounds_toArray, List.set_cons_zero, List.set_cons_succ])
                refine wpAnyH_ready (rs := [2]) (by kernel_rfl) (by simp) ?_
                refine AllReadyH.cons (o := { dst := some 55, op := Op.call { callee := Callee.value (Operand.func 26), args := #[(Operand.tmp 53), (Operand.tmp 54), Operand.const (Value.int IntKind.i64 1)], argTypes := #[9, 26, 3] }, type := _, pos := _, after := _, guard := _ }) rfl (fun K9 hK9 => ?_) AllReadyH.nil
                go_simp
                go_at_call 26
                refine (cput _).mono ?_
                rintro e w4 ⟨rfl, g4a⟩
                have g4 := tn h0c g4a
                clear g4a
                go_wp2_with fail
                refine hK9.out _ _ g4 (fun _ => ?_)
                clear hK9 K9
                (try simp only [Act.put, List.setIfInBounds_toArray, List.set_cons_zero, List.set_cons_succ])
                refine wpAnyH_ready (rs := [8]) (by kernel_rfl) (by simp) ?_
                refine AllReadyH.cons (o := { dst := some 61, op := Op.call { callee := Callee.value (Operand.func 29), args := #[(Operand.tmp 55), (Operand.tmp 60)], argTypes := #[9, 9] }, type := _, pos := _, after := _, guard := _ }) rfl (fun K9 hK9 => ?_) AllReadyH.nil
                go_simp
                go_at_call 29
                refine (csz _).mono ?_
                rintro e w5 ⟨rfl, g5a⟩
                have g5 := tn g4 g5a
                clear g5a
                go_wp2_with fail
                refine hK9.out _ _ g5 (fun _ => ?_)
                clear hK9 K9
                (try simp only [Act.put, List.setIfInBounds_toArray, List.set_cons_zero, List.set_cons_succ])
                refine wpAnyH_take (i := 14) (oi := { dst := some 67, op := Op.binOp BinOp.add 9 (Operand.tmp 61) (Operand.tmp 66) 9, type := _, pos := _, after := _, guard := _ }) (v := .string T3) rfl (by kernel_rfl) (by kernel_rfl) (by kernel_rfl) (fun _ _ _ h => h) (Or.inl ⟨by rfl, fun V (hV : w2.grownBy V none) => by go_simp⟩) g5 ?_
                (try simp only [Act.put, List.setIfInBounds_toArray, List.set_cons_zero, List.set_cons_succ])
                refine wpAnyH_take (i := 15) (oi := { dst := some 4, op := Op.assign (Operand.tmp 67), type := _, pos := _, after := _, guard := _ }) (v := .string T3) rfl (by kernel_rfl) (by kernel_rfl) (by kernel_rfl) (fun _ _ _ h => h) (Or.inl ⟨by rfl, fun V (hV : w2.grownBy V none) => by go_simp⟩) g5 ?_
                (try simp only [Act.put, List.setIfInBounds_toArray, List.set_cons_zero, List.set_cons_succ])
                refine wpAnyH_done (by kernel_rfl) ?_ _
                refine NoPanic.normal ?_
                have g6 : w1.grownBy w5 none := tn (tn hg g2) g5
                clear cput csz h0c h0b
                go_wp2
                go_roundw
                case rel => exact ⟨j + 1, by go_num, by rw [← unhide HT3], by omega, HGT, g6⟩
                case measure => simp [intOf]; omega
            · have hlf : lessL pn nm = false := by simpa using hls
              rw [hlf] at cless
              have hgf : goodAt es j = false := by rw [unhide HGD, hp, hlf]; simp [hj0]
              have hres : ofTree es = (2, []) := by
                have h1 : goodTo es es.length = false := all_not (by have := unhide HL; omega) hgf
                simp [ofTree, unhide HN, h1]
              have HRS := hide hres
              clear hj0 hp HGD HG hls hlf hgf hres
              refine wp_region_noPanic ?_
              refine wp_region_held_drew (S := fun V => wr.grownBy V none) (by kernel_rfl) h0 (fun _ => ?_)
              refine wpAnyH_take (i := 0) (oi := { dst := some 21, op := Op.move (Operand.tmp 0), type := _, pos := _, after := _, guard := _ }) (v := .slice (some ⟨b, o, none⟩) n c) rfl (by kernel_rfl) (by kernel_rfl) (by kernel_rfl) (fun _ _ _ h => h) (Or.inl ⟨by rfl, fun V (hV : wr.grownBy V none) => by go_simp⟩) h0 ?_
              (try simp only [Act.put, List.setIfInBounds_toArray, List.set_cons_zero, List.set_cons_succ])
              refine wpAnyH_take (i := 1) (oi := { dst := some 22, op := Op.move (Operand.tmp 5), type := _, pos := _, after := _, guard := _ }) (v := .int .i64 (j : Int)) rfl (by kernel_rfl) (by kernel_rfl) (by kernel_rfl) (fun _ _ _ h => h) (Or.inl ⟨by rfl, fun V (hV : wr.grownBy V none) => by go_simp⟩) h0 ?_
              (try simp only [Act.put, List.setIfInBounds_toArray, List.set_cons_zero, List.set_cons_succ])
              refine wpAnyH_take (i := 2) (oi := { dst := some 23, op := Op.indexAddr 43 (Operand.tmp 21) (Operand.tmp 22), type := _, pos := _, after := _, guard := _ }) (v := .pointer (some ⟨b, o + j * 3, none⟩)) rfl (by kernel_rfl) (by kernel_rfl) (by kernel_rfl) (fun _ _ _ h => h) (Or.inl ⟨by rfl, fun V (hV : wr.grownBy V none) => by go_simp⟩) h0 ?_
              (try simp only [Act.put, List.setIfInBounds_toArray, List.set_cons_zero, List.set_cons_succ])
              refine wpAnyH_take (i := 3) (oi := { dst := some 24, op := Op.fieldAddr 73 (Operand.tmp 23) 0, type := _, pos := _, after := _, guard := _ }) (v := .pointer (some ⟨b, o + j * 3, none⟩)) rfl (by kernel_rfl) (by kernel_rfl) (by kernel_rfl) (fun _ _ _ h => h) (Or.inl ⟨by rfl, fun V (hV : wr.grownBy V none) => by go_simp⟩) h0 ?_
              (try simp only [Act.put, List.setIfInBounds_toArray, List.set_cons_zero, List.set_cons_succ])
              refine wpAnyH_take (i := 4) (oi := { dst := some 25, op := Op.load 9 (Operand.tmp 24), type := _, pos := _, after := _, guard := _ }) (v := .string TN) rfl (by kernel_rfl) (by kernel_rfl) (by kernel_rfl) (fun _ _ _ h => h) (Or.inl ⟨by rfl, fun V (hV : wr.grownBy V none) => by (have q9 := hV.cell hc0 (by simp); go_simp)⟩) h0 ?_
              (try simp only [Act.put, List.setIfInBounds_toArray, List.set_cons_zero, List.set_cons_succ])
              refine wpAnyH_ready (rs := [5]) (by kernel_rfl) (by simp) ?_
              refine AllReadyH.cons (o := { dst := some 26, op := Op.call { callee := Callee.value (Operand.func 27), args := #[(Operand.tmp 25)], argTypes := #[9] }, type := _, pos := _, after := _, guard := _ }) rfl (fun K9 hK9 => ?_) AllReadyH.nil
              go_simp
              go_at_call 27
              refine (cpart _).mono ?_
              rintro e w2a ⟨rfl, g2b⟩
              have g2a := tn h0 g2b
              clear g2b
              go_wp2_with fail
              refine hK9.out _ _ g2a (fun _ => ?_)
              clear hK9 K9
              (try simp only [Act.put, List.setIfInBounds_toArray, List.set_cons_zero, List.set_cons_succ])
              refine wpAnyH_take (i := 6) (oi := { dst := some 27, op := Op.unOp UnOp.not 4 (Operand.tmp 26), type := _, pos := _, after := _, guard := _ }) (v := .bool false) rfl (by kernel_rfl) (by kernel_rfl) (by kernel_rfl) (fun _ _ _ h => h) (Or.inl ⟨by rfl, fun V (hV : wr.grownBy V none) => by go_simp⟩) g2a ?_
              (try simp only [Act.put, List.setIfInBounds_toArray, List.set_cons_zero, List.set_cons_succ])
              refine wpAnyH_take (i := 7) (oi := { dst := some 28, op := Op.move (Operand.tmp 27), type := _, pos := _, after := _, guard := _ }) (v := .bool false) rfl (by kernel_rfl) (by kernel_rfl) (by kernel_rfl) (fun _ _ _ h => h) (Or.inl ⟨by rfl, fun V (hV : wr.grownBy V none) => by go_simp⟩) g2a ?_
              (try simp only [Act.put, List.setIfInBounds_toArray, List.set_cons_zero, List.set_cons_succ])
              refine wpAnyH_take (i := 8) (oi := { dst := some 29, op := Op.move (Operand.tmp 5), type := _, pos := _, after := _, guard := _ }) (v := .int .i64 (j : Int)) rfl (by kernel_rfl) (by kernel_rfl) (by kernel_rfl) (fun _ _ _ h => h) (Or.inl ⟨by rfl, fun V (hV : wr.grownBy V none) => by go_simp⟩) g2a ?_
              (try simp only [Act.put, List.setIfInBounds_toArray, List.set_cons_zero, List.set_cons_succ])
              refine wpAnyH_take (i := 9) (oi := { dst := some 30, op := Op.binOp BinOp.gtr 3 (Operand.tmp 29) (Operand.const (Value.int IntKind.i64 0)) 3, type := _, pos := _, after := _, guard := _ }) (v := .bool true) rfl (by kernel_rfl) (by kernel_rfl) (by kernel_rfl) (fun _ _ _ h => h) (Or.inl ⟨by rfl, fun V (hV : wr.grownBy V none) => by go_simp⟩) g2a ?_
              (try simp only [Act.put, List.setIfInBounds_toArray, List.set_cons_zero, List.set_cons_succ])
              refine wpAnyH_take (i := 10) (oi := { dst := some 31, op := Op.move (Operand.tmp 30), type := _, pos := _, after := _, guard := _ }) (v := .bool true) rfl (by kernel_rfl) (by kernel_rfl) (by kernel_rfl) (fun _ _ _ h => h) (Or.inl ⟨by rfl, fun V (hV : wr.grownBy V none) => by go_simp⟩) g2a ?_
              (try simp only [Act.put, List.setIfInBounds_toArray, List.set_cons_zero, List.set_cons_succ])
              refine wpAnyH_take (i := 11) (oi := { dst := some 32, op := Op.move (Operand.tmp 0), type := _, pos := _, after := _, guard := _ }) (v := .slice (some ⟨b, o, none⟩) n c) rfl (by kernel_rfl) (by kernel_rfl) (by kernel_rfl) (fun _ _ _ h => h) (Or.inl ⟨by rfl, fun V (hV : wr.grownBy V none) => by go_simp⟩) g2a ?_
              (try simp only [Act.put, List.setIfInBounds_toArray, List.set_cons_zero, List.set_cons_succ])
              refine wpAnyH_take (i := 12) (oi := { dst := some 33, op := Op.move (Operand.tmp 5), type := _, pos := _, after := _, guard := _ }) (v := .int .i64 (j : Int)) rfl (by kernel_rfl) (by kernel_rfl) (by kernel_rfl) (fun _ _ _ h => h) (Or.inl ⟨by rfl, fun V (hV : wr.grownBy V none) => by go_simp⟩) g2a ?_
              (try simp only [Act.put, List.setIfInBounds_toArray, List.set_cons_zero, List.set_cons_succ])
              refine wpAnyH_take (i := 13) (oi := { dst := some 34, op := Op.binOp BinOp.sub 3 (Operand.tmp 33) (Operand.const (Value.int IntKind.i64 1)) 3, type := _, pos := _, after := _, guard := _ }) (v := .int .i64 (q : Int)) rfl (by kernel_rfl) (by kernel_rfl) (by kernel_rfl) (fun _ _ _ h => h) (Or.inl ⟨by rfl, fun V (hV : wr.grownBy V none) => by go_simp⟩) g2a ?_
              (try simp only [Act.put, List.setIfInBounds_toArray, List.set_cons_zero, List.set_cons_succ])
              refine wpAnyH_take (i := 14) (oi := { dst := some 35, op := Op.indexAddr 43 (Operand.tmp 32) (Operand.tmp 34), type := _, pos := _, after := _, guard := _ }) (v := .pointer (some ⟨b, o + q * 3, none⟩)) rfl (by kernel_rfl) (by kernel_rfl) (by kernel_rfl) (fun _ _ _ h => h) (Or.inl ⟨by rfl, fun V (hV : wr.grownBy V none) => by go_simp⟩) g2a ?_
              (try simp only [Act.put, List.setIfInBounds_toArray, List.set_cons_zero, List.set_cons_succ])
              refine wpAnyH_take (i := 15) (oi := { dst := some 36, op := Op.fieldAddr 73 (Operand.tmp 35) 0, type := _, pos := _, after := _, guard := _ }) (v := .pointer (some ⟨b, o + q * 3, none⟩)) rfl (by kernel_rfl) (by kernel_rfl) (by kernel_rfl) (fun _ _ _ h => h) (Or.inl ⟨by rfl, fun V (hV : wr.grownBy V none) => by go_simp⟩) g2a ?_
              (try simp only [Act.put, List.setIfInBounds_toArray, List.set_cons_zero, List.set_cons_succ])
              refine wpAnyH_take (i := 16) (oi := { dst := some 37, op := Op.load 9 (Operand.tmp 36), type := _, pos := _, after := _, guard := _ }) (v := .string TP) rfl (by kernel_rfl) (by kernel_rfl) (by kernel_rfl) (fun _ _ _ h => h) (Or.inl ⟨by rfl, fun V (hV : wr.grownBy V none) => by (have q9 := hV.cell hcp (by simp); go_simp)⟩) g2a ?_
              (try simp only [Act.put, List.setIfInBounds_toArray, List.set_cons_zero, List.set_cons_succ])
              refine wpAnyH_take (i := 17) (oi := { dst := some 38, op := Op.move (Operand.tmp 0), type := _, pos := _, after := _, guard := _ }) (v := .slice (some ⟨b, o, none⟩) n c) rfl (by kernel_rfl) (by kernel_rfl) (by kernel_rfl) (fun _ _ _ h => h) (Or.inl ⟨by rfl, fun V (hV : wr.grownBy V none) => by go_simp⟩) g2a ?_
              (try simp only [Act.put, List.setIfInBounds_toArray, List.set_cons_zero, List.set_cons_succ])
              refine wpAnyH_take (i := 18) (oi := { dst := some 39, op := Op.move (Operand.tmp 5), type := _, pos := _, after := _, guard := _ }) (v := .int .i64 (j : Int)) rfl (by kernel_rfl) (by kernel_rfl) (by kernel_rfl) (fun _ _ _ h => h) (Or.inl ⟨by rfl, fun V (hV : wr.grownBy V none) => by go_simp⟩) g2a ?_
              (try simp only [Act.put, List.setIfInBounds_toArray, List.set_cons_zero, List.set_cons_succ])
              refine wpAnyH_take (i := 19) (oi := { dst := some 40, op := Op.indexAddr 43 (Operand.tmp 38) (Operand.tmp 39), type := _, pos := _, after := _, guard := _ }) (v := .pointer (some ⟨b, o + j * 3, none⟩)) rfl (by kernel_rfl) (by kernel_rfl) (by kernel_rfl) (fun _ _ _ h => h) (Or.inl ⟨by rfl, fun V (hV : wr.grownBy V none) => by go_simp⟩) g2a ?_
              (try simp only [Act.put, List.setIfInBounds_toArray, List.set_cons_zero, List.set_cons_succ])
              refine wpAnyH_take (i := 20) (oi := { dst := some 41, op := Op.fieldAddr 73 (Operand.tmp 40) 0, type := _, pos := _, after := _, guard := _ }) (v := .pointer (some ⟨b, o + j * 3, none⟩)) rfl (by kernel_rfl) (by kernel_rfl) (by kernel_rfl) (fun _ _ _ h => h) (Or.inl ⟨by rfl, fun V (hV : wr.grownBy V none) => by go_simp⟩) g2a ?_
              (try simp only [Act.put, List.setIfInBounds_toArray, List.set_cons_zero, List.set_cons_succ])
              refine wpAnyH_take (i := 21) (oi := { dst := some 42, op := Op.load 9 (Operand.tmp 41), type := _, pos := _, after := _, guard := _ }) (v := .string TN) rfl (by kernel_rfl) (by kernel_rfl) (by kernel_rfl) (fun _ _ _ h => h) (Or.inl ⟨by rfl, fun V (hV : wr.grownBy V none) => by (have q9 := hV.cell hc0 (by simp); go_simp)⟩) g2a ?_
              (try simp only [Act.put, List.setIfInBounds_toArray, List.set_cons_zero, List.set_cons_succ])
              refine wpAnyH_ready (rs := [22]) (by kernel_rfl) (by simp) ?_
              refine AllReadyH.cons (o := { dst := some 43, op := Op.call { callee := Callee.value (Operand.func 28), args := #[(Operand.tmp 37), (Operand.tmp 42)], argTypes := #[9, 9] }, type := _, pos := _, after := _, guard := _ }) rfl (fun K9 hK9 => ?_) AllReadyH.nil
              go_simp
              go_at_call 28
              refine (cless _).mono ?_
              rintro e w3a ⟨rfl, g3b⟩
              have g3a := tn g2a g3b
              clear g3b
              go_wp2_with fail
              refine hK9.out _ _ g3a (fun _ => ?_)
              clear hK9 K9
              (try simp only [Act.put, List.setIfInBounds_toArray, List.set_cons_zero, List.set_cons_succ])
              refine wpAnyH_take (i := 23) (oi := { dst := some 44, op := Op.unOp UnOp.not 4 (Operand.tmp 43), type := _, pos := _, after := _, guard := _ }) (v := .bool true) rfl (by kernel_rfl) (by kernel_rfl) (by kernel_rfl) (fun _ _ _ h => h) (Or.inl ⟨by rfl, fun V (hV : wr.grownBy V none) => by go_simp⟩) g3a ?_
              (try simp only [Act.put, List.setIfInBounds_toArray, List.set_cons_zero, List.set_cons_succ])
              refine wpAnyH_take (i := 24) (oi := { dst := some 45, op := Op.pick (Operand.tmp 31) (Operand.tmp 44) (Operand.const (Value.bool false)), type := _, pos := _, after := _, guard := _ }) (v := .bool true) rfl (by kernel_rfl) (by kernel_rfl) (by kernel_rfl) (fun _ _ _ h => h) (Or.inl ⟨by rfl, fun V (hV : wr.grownBy V none) => by go_simp⟩) g3a ?_
              (try simp only [Act.put, List.setIfInBounds_toArray, List.set_cons_zero, List.set_cons_succ])
              refine wpAnyH_take (i := 25) (oi := { dst := some 46, op := Op.pick (Operand.tmp 28) (Operand.const (Value.bool true)) (Operand.tmp 45), type := _, pos := _, after := _, guard := _ }) (v := .bool true) rfl (by kernel_rfl) (by kernel_rfl) (by kernel_rfl) (fun _ _ _ h => h) (Or.inl ⟨by rfl, fun V (hV : wr.grownBy V none) => by go_simp⟩) g3a ?_
              (try simp only [Act.put, List.setIfInBounds_toArray, List.set_cons_zero, List.set_cons_succ])
              refine wpAnyH_done (by kernel_rfl) ?_ _
              refine NoPanic.normal ?_
              obtain ⟨w2, hw2⟩ : ∃ V, V = w3a := ⟨_, rfl⟩
              rw [← hw2]
              have g2 : wr.grownBy w2 none := by rw [hw2]; exact g3a
              clear hw2
              have hBr := (unhide HBr).kept g2 (by simp)
              have hf0 := hBr.fz 0
              have hf1 := hBr.fz 1
              have hd0 := hBr.cell 0
              have hd1 := hBr.cell 1
              simp only [List.getElem?_cons_zero, List.getElem?_cons_succ] at hd0 hd1
              go_wp2
              refine bodyPost_ret (results_row_tmp rfl _ _ _ _ _ _ _ rfl ((hBr.set 0 (.int .i64 0)).set 1 _) Try.underlying40 rfl info_robj) rfl ?_
              refine ⟨by rw [unhide HRS, unhide HS0]; rfl, gb_setCell (gb_setCell (tn (tn (unhide HG1) hg) g2) _ _ (Or.inl (Nat.le_refl _))) _ _ (Or.inl (Nat.le_refl _))⟩
        · have hpf : partB nm = false := by simpa using hp
          rw [hpf] at cpart
          have hgf : goodAt es j = false := by rw [unhide HGD, hpf]; rfl
          have hres : ofTree es = (2, []) := by
            have h1 : goodTo es es.length = false := all_not (by have := unhide HL; omega) hgf
            simp [ofTree, unhide HN, h1]
          have HRS := hide hres
          clear hp HGD HG hpf hgf hres
          refine wp_region_noPanic ?_
          refine wp_region_held_drew (S := fun V => wr.grownBy V none) (by kernel_rfl) h0 (fun _ => ?_)
          refine wpAnyH_take (i := 0) (oi := { dst := some 21, op := Op.move (Operand.tmp 0), type := _, pos := _, after := _, guard := _ }) (v := .slice (some ⟨b, o, none⟩) n c) rfl (by kernel_rfl) (by kernel_rfl) (by kernel_rfl) (fun _ _ _ h => h) (Or.inl ⟨by rfl, fun V (hV : wr.grownBy V none) => by go_simp⟩) h0 ?_
          (try simp only [Act.put, List.setIfInBounds_toArray, List.set_cons_zero, List.set_cons_succ])
          refine wpAnyH_take (i := 1) (oi := { dst := some 22, op := Op.move (Operand.tmp 5), type := _, pos := _, after := _, guard := _ }) (v := .int .i64 (j : Int)) rfl (by kernel_rfl) (by kernel_rfl) (by kernel_rfl) (fun _ _ _ h => h) (Or.inl ⟨by rfl, fun V (hV : wr.grownBy V none) => by go_simp⟩) h0 ?_
          (try simp only [Act.put, List.setIfInBounds_toArray, List.set_cons_zero, List.set_cons_succ])
          refine wpAnyH_take (i := 2) (oi := { dst := some 23, op := Op.indexAddr 43 (Operand.tmp 21) (Operand.tmp 22), type := _, pos := _, after := _, guard := _ }) (v := .pointer (some ⟨b, o + j * 3, none⟩)) rfl (by kernel_rfl) (by kernel_rfl) (by kernel_rfl) (fun _ _ _ h => h) (Or.inl ⟨by rfl, fun V (hV : wr.grownBy V none) => by go_simp⟩) h0 ?_
          (try simp only [Act.put, List.setIfInBounds_toArray, List.set_cons_zero, List.set_cons_succ])
          refine wpAnyH_take (i := 3) (oi := { dst := some 24, op := Op.fieldAddr 73 (Operand.tmp 23) 0, type := _, pos := _, after := _, guard := _ }) (v := .pointer (some ⟨b, o + j * 3, none⟩)) rfl (by kernel_rfl) (by kernel_rfl) (by kernel_rfl) (fun _ _ _ h => h) (Or.inl ⟨by rfl, fun V (hV : wr.grownBy V none) => by go_simp⟩) h0 ?_
          (try simp only [Act.put, List.setIfInBounds_toArray, List.set_cons_zero, List.set_cons_succ])
          refine wpAnyH_take (i := 4) (oi := { dst := some 25, op := Op.load 9 (Operand.tmp 24), type := _, pos := _, after := _, guard := _ }) (v := .string TN) rfl (by kernel_rfl) (by kernel_rfl) (by kernel_rfl) (fun _ _ _ h => h) (Or.inl ⟨by rfl, fun V (hV : wr.grownBy V none) => by (have q9 := hV.cell hc0 (by simp); go_simp)⟩) h0 ?_
          (try simp only [Act.put, List.setIfInBounds_toArray, List.set_cons_zero, List.set_cons_succ])
          refine wpAnyH_ready (rs := [5]) (by kernel_rfl) (by simp) ?_
          refine AllReadyH.cons (o := { dst := some 26, op := Op.call { callee := Callee.value (Operand.func 27), args := #[(Operand.tmp 25)], argTypes := #[9] }, type := _, pos := _, after := _, guard := _ }) rfl (fun K9 hK9 => ?_) AllReadyH.nil
          go_simp
          go_at_call 27
          refine (cpart _).mono ?_
          rintro e w2a ⟨rfl, g2b⟩
          have g2a := tn h0 g2b
          clear g2b
          go_wp2_with fail
          refine hK9.out _ _ g2a (fun _ => ?_)
          clear hK9 K9
          (try simp only [Act.put, List.setIfInBounds_toArray, List.set_cons_zero, List.set_cons_succ])
          refine wpAnyH_take (i := 6) (oi := { dst := some 27, op := Op.unOp UnOp.not 4 (Operand.tmp 26), type := _, pos := _, after := _, guard := _ }) (v := .bool true) rfl (by kernel_rfl) (by kernel_rfl) (by kernel_rfl) (fun _ _ _ h => h) (Or.inl ⟨by rfl, fun V (hV : wr.grownBy V none) => by go_simp⟩) g2a ?_
          (try simp only [Act.put, List.setIfInBounds_toArray, List.set_cons_zero, List.set_cons_succ])
          refine wpAnyH_take (i := 7) (oi := { dst := some 28, op := Op.move (Operand.tmp 27), type := _, pos := _, after := _, guard := _ }) (v := .bool true) rfl (by kernel_rfl) (by kernel_rfl) (by kernel_rfl) (fun _ _ _ h => h) (Or.inl ⟨by rfl, fun V (hV : wr.grownBy V none) => by go_simp⟩) g2a ?_
          (try simp only [Act.put, List.setIfInBounds_toArray, List.set_cons_zero, List.set_cons_succ])
          refine wpAnyH_take (i := 8) (oi := { dst := some 29, op := Op.move (Operand.tmp 5), type := _, pos := _, after := _, guard := _ }) (v := undef) rfl (by kernel_rfl) (by kernel_rfl) (by kernel_rfl) (fun _ _ _ h => h) (Or.inr ⟨by rfl, rfl⟩) g2a ?_
          (try simp only [Act.put, List.setIfInBounds_toArray, List.set_cons_zero, List.set_cons_succ])
          refine wpAnyH_take (i := 9) (oi := { dst := some 30, op := Op.binOp BinOp.gtr 3 (Operand.tmp 29) (Operand.const (Value.int IntKind.i64 0)) 3, type := _, pos := _, after := _, guard := _ }) (v := undef) rfl (by kernel_rfl) (by kernel_rfl) (by kernel_rfl) (fun _ _ _ h => h) (Or.inr ⟨by rfl, rfl⟩) g2a ?_
          (try simp only [Act.put, List.setIfInBounds_toArray, List.set_cons_zero, List.set_cons_succ])
          refine wpAnyH_take (i := 10) (oi := { dst := some 31, op := Op.move (Operand.tmp 30), type := _, pos := _, after := _, guard := _ }) (v := undef) rfl (by kernel_rfl) (by kernel_rfl) (by kernel_rfl) (fun _ _ _ h => h) (Or.inr ⟨by rfl, rfl⟩) g2a ?_
          (try simp only [Act.put, List.setIfInBounds_toArray, List.set_cons_zero, List.set_cons_succ])
          refine wpAnyH_take (i := 11) (oi := { dst := some 32, op := Op.move (Operand.tmp 0), type := _, pos := _, after := _, guard := _ }) (v := undef) rfl (by kernel_rfl) (by kernel_rfl) (by kernel_rfl) (fun _ _ _ h => h) (Or.inr ⟨by rfl, rfl⟩) g2a ?_
          (try simp only [Act.put, List.setIfInBounds_toArray, List.set_cons_zero, List.set_cons_succ])
          refine wpAnyH_take (i := 12) (oi := { dst := some 33, op := Op.move (Operand.tmp 5), type := _, pos := _, after := _, guard := _ }) (v := undef) rfl (by kernel_rfl) (by kernel_rfl) (by kernel_rfl) (fun _ _ _ h => h) (Or.inr ⟨by rfl, rfl⟩) g2a ?_
          (try simp only [Act.put, List.setIfInBounds_toArray, List.set_cons_zero, List.set_cons_succ])
          refine wpAnyH_take (i := 13) (oi := { dst := some 34, op := Op.binOp BinOp.sub 3 (Operand.tmp 33) (Operand.const (Value.int IntKind.i64 1)) 3, type := _, pos := _, after := _, guard := _ }) (v := undef) rfl (by kernel_rfl) (by kernel_rfl) (by kernel_rfl) (fun _ _ _ h => h) (Or.inr ⟨by rfl, rfl⟩) g2a ?_
          (try simp only [Act.put, List.setIfInBounds_toArray, List.set_cons_zero, List.set_cons_succ])
          refine wpAnyH_take (i := 14) (oi := { dst := some 35, op := Op.indexAddr 43 (Operand.tmp 32) (Operand.tmp 34), type := _, pos := _, after := _, guard := _ }) (v := undef) rfl (by kernel_rfl) (by kernel_rfl) (by kernel_rfl) (fun _ _ _ h => h) (Or.inr ⟨by rfl, rfl⟩) g2a ?_
          (try simp only [Act.put, List.setIfInBounds_toArray, List.set_cons_zero, List.set_cons_succ])
          refine wpAnyH_take (i := 15) (oi := { dst := some 36, op := Op.fieldAddr 73 (Operand.tmp 35) 0, type := _, pos := _, after := _, guard := _ }) (v := undef) rfl (by kernel_rfl) (by kernel_rfl) (by kernel_rfl) (fun _ _ _ h => h) (Or.inr ⟨by rfl, rfl⟩) g2a ?_
          (try simp only [Act.put, List.setIfInBounds_toArray, List.set_cons_zero, List.set_cons_succ])
          refine wpAnyH_take (i := 16) (oi := { dst := some 37, op := Op.load 9 (Operand.tmp 36), type := _, pos := _, after := _, guard := _ }) (v := undef) rfl (by kernel_rfl) (by kernel_rfl) (by kernel_rfl) (fun _ _ _ h => h) (Or.inr ⟨by rfl, rfl⟩) g2a ?_
          (try simp only [Act.put, List.setIfInBounds_toArray, List.set_cons_zero, List.set_cons_succ])
          refine wpAnyH_take (i := 17) (oi := { dst := some 38, op := Op.move (Operand.tmp 0), type := _, pos := _, after := _, guard := _ }) (v := undef) rfl (by kernel_rfl) (by kernel_rfl) (by kernel_rfl) (fun _ _ _ h => h) (Or.inr ⟨by rfl, rfl⟩) g2a ?_
          (try simp only [Act.put, List.setIfInBounds_toArray, List.set_cons_zero, List.set_cons_succ])
          refine wpAnyH_take (i := 18) (oi := { dst := some 39, op := Op.move (Operand.tmp 5), type := _, pos := _, after := _, guard := _ }) (v := undef) rfl (by kernel_rfl) (by kernel_rfl) (by kernel_rfl) (fun _ _ _ h => h) (Or.inr ⟨by rfl, rfl⟩) g2a ?_
          (try simp only [Act.put, List.setIfInBounds_toArray, List.set_cons_zero, List.set_cons_succ])
          refine wpAnyH_take (i := 19) (oi := { dst := some 40, op := Op.indexAddr 43 (Operand.tmp 38) (Operand.tmp 39), type := _, pos := _, after := _, guard := _ }) (v := undef) rfl (by kernel_rfl) (by kernel_rfl) (by kernel_rfl) (fun _ _ _ h => h) (Or.inr ⟨by rfl, rfl⟩) g2a ?_
          (try simp only [Act.put, List.setIfInBounds_toArray, List.set_cons_zero, List.set_cons_succ])
          refine wpAnyH_take (i := 20) (oi := { dst := some 41, op := Op.fieldAddr 73 (Operand.tmp 40) 0, type := _, pos := _, after := _, guard := _ }) (v := undef) rfl (by kernel_rfl) (by kernel_rfl) (by kernel_rfl) (fun _ _ _ h => h) (Or.inr ⟨by rfl, rfl⟩) g2a ?_
          (try simp only [Act.put, List.setIfInBounds_toArray, List.set_cons_zero, List.set_cons_succ])
          refine wpAnyH_take (i := 21) (oi := { dst := some 42, op := Op.load 9 (Operand.tmp 41), type := _, pos := _, after := _, guard := _ }) (v := undef) rfl (by kernel_rfl) (by kernel_rfl) (by kernel_rfl) (fun _ _ _ h => h) (Or.inr ⟨by rfl, rfl⟩) g2a ?_
          (try simp only [Act.put, List.setIfInBounds_toArray, List.set_cons_zero, List.set_cons_succ])
          refine wpAnyH_take (i := 22) (oi := { dst := some 43, op := Op.call { callee := Callee.value (Operand.func 28), args := #[(Operand.tmp 37), (Operand.tmp 42)], argTypes := #[9, 9] }, type := _, pos := _, after := _, guard := _ }) (v := undef) rfl (by kernel_rfl) (by kernel_rfl) (by kernel_rfl) (fun _ _ _ h => h) (Or.inr ⟨by rfl, rfl⟩) g2a ?_
          (try simp only [Act.put, List.setIfInBounds_toArray, List.set_cons_zero, List.set_cons_succ])
          refine wpAnyH_take (i := 23) (oi := { dst := some 44, op := Op.unOp UnOp.not 4 (Operand.tmp 43), type := _, pos := _, after := _, guard := _ }) (v := undef) rfl (by kernel_rfl) (by kernel_rfl) (by kernel_rfl) (fun _ _ _ h => h) (Or.inr ⟨by rfl, rfl⟩) g2a ?_
          (try simp only [Act.put, List.setIfInBounds_toArray, List.set_cons_zero, List.set_cons_succ])
          refine wpAnyH_take (i := 24) (oi := { dst := some 45, op := Op.pick (Operand.tmp 31) (Operand.tmp 44) (Operand.const (Value.bool false)), type := _, pos := _, after := _, guard := _ }) (v := undef) rfl (by kernel_rfl) (by kernel_rfl) (by kernel_rfl) (fun _ _ _ h => h) (Or.inr ⟨by rfl, rfl⟩) g2a ?_
          (try simp only [Act.put, List.setIfInBounds_toArray, List.set_cons_zero, List.set_cons_succ])
          refine wpAnyH_take (i := 25) (oi := { dst := some 46, op := Op.pick (Operand.tmp 28) (Operand.const (Value.bool true)) (Operand.tmp 45), type := _, pos := _, after := _, guard := _ }) (v := .bool true) rfl (by kernel_rfl) (by kernel_rfl) (by kernel_rfl) (fun _ _ _ h => h) (Or.inl ⟨by rfl, fun V (hV : wr.grownBy V none) => by go_simp⟩) g2a ?_
          (try simp only [Act.put, List.setIfInBounds_toArray, List.set_cons_zero, List.set_cons_succ])
          refine wpAnyH_done (by kernel_rfl) ?_ _
          refine NoPanic.normal ?_
          obtain ⟨w2, hw2⟩ : ∃ V, V = w2a := ⟨_, rfl⟩
          rw [← hw2]
          have g2 : wr.grownBy w2 none := by rw [hw2]; exact g2a
          clear hw2
          have hBr := (unhide HBr).kept g2 (by simp)
          have hf0 := hBr.fz 0
          have hf1 := hBr.fz 1
          have hd0 := hBr.cell 0
          have hd1 := hBr.cell 1
          simp only [List.getElem?_cons_zero, List.getElem?_cons_succ] at hd0 hd1
          go_wp2
          refine bodyPost_ret (results_row_tmp rfl _ _ _ _ _ _ _ rfl ((hBr.set 0 (.int .i64 0)).set 1 _) Try.underlying40 rfl info_robj) rfl ?_
          refine ⟨by rw [unhide HRS, unhide HS0]; rfl, gb_setCell (gb_setCell (tn (tn (unhide HG1) hg) g2) _ _ (Or.inl (Nat.le_refl _))) _ _ (Or.inl (Nat.le_refl _))⟩
      · have hjn : j = es.length := by have := unhide HL; omega
        have hres : ofTree es = fitB (treeB es) := by
          have h1 : goodTo es es.length = true := by rw [← hjn]; exact unhide HG
          simp [ofTree, unhide HN, h1]
        have hpl := unhide HPL j (by omega)
        have cf := rfit_any wr 2 (P j) (by omega)
        obtain ⟨r, hr⟩ : ∃ r, r = fitB (P j) := ⟨_, rfl⟩
        have hrr : ofTree es = r := by rw [hr, hjn, unhide HPN]; exact hres
        rw [← hr] at cf
        have HRR := hide hrr
        have HBr := hide ((unhide HB1).kept hg (by simp))
        clear hjn hres hpl hr hrr HG
        go_wp2_with fail
        refine cf.mono ?_
        rintro e w2 ⟨rfl, g2⟩
        have hBr := (unhide HBr).kept g2 (by simp)
        have hf0 := hBr.fz 0
        have hf1 := hBr.fz 1
        have hd0 := hBr.cell 0
        have hd1 := hBr.cell 1
        simp only [List.getElem?_cons_zero, List.getElem?_cons_succ] at hd0 hd1
        obtain ⟨K, hK⟩ : ∃ K : Int, K = (if r.1 = 0 then 2 else 0) := ⟨_, rfl⟩
        obtain ⟨x, hx⟩ : ∃ x : Int, x = r.1 := ⟨_, rfl⟩
        obtain ⟨SS, hSS⟩ : ∃ S, S = str r.2 := ⟨_, rfl⟩
        rw [← hK, ← hx, ← hSS]
        have HK := hide hK
        have HX := hide hx
        have HSS := hide hSS
        clear cf hK hx hSS
        go_wp2
        refine bodyPost_ret (results_row_tmp rfl _ _ _ _ _ _ _ rfl ((hBr.set 0 (.int .i64 K)).set 1 (.string SS)) Try.underlying40 rfl info_robj) rfl ?_
        refine ⟨?_, gb_setCell (gb_setCell (tn (tn (unhide HG1) hg) g2) _ _ (Or.inl (Nat.le_refl _))) _ _ (Or.inl (Nat.le_refl _))⟩
        rw [unhide HRR, ← unhide HK, ← unhide HX, ← unhide HSS]
        rfl

end Go.Proofs.Ytcemdlcimhoeeaa
