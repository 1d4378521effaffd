/- A slice of ints in memory, in words of our own; and what the document's answer for layer 5 reckons with digits (package coffretref05: digit, carried, Add, of, prime). No condition but those that each lemma names. -/
import Derived.Test.YtjckdgapefaokaaDoorKEqual
import Derived.Test.YtjckdgapefaokaaDoorMStr
import Derived.Test.YtjckdgapefaokaaDoorPRefK
namespace Go.Proofs.YtjckdgapefaokaaDoor
open Go.RowKit

/-- A digit as a cell holds it. -/
def iv (d : Nat) : Value := .int .i64 (d : Int)
theorem iv_one (l : List Nat) : ∀ u ∈ l.map iv, u.oneCell' = true := by
  intro u hu
  obtain ⟨_, _, rfl⟩ := List.mem_map.1 hu
  rfl

/-- The slice value '.slice ao ds.length c' holds the ints ds. -/
structure Ints (w : World) (ao : Option Addr) (c : Nat) (ds : List Nat) : Prop where
  zip : ao = none → ds.length = 0 ∧ c = 0
  fits : ds.length ≤ c
  most : c ≤ maxLen
  shape : ∀ ad, ao = some ad → 0 < ds.length → ad.spot = none
  cell : ∀ ad, ao = some ad → ∀ i (h : i < ds.length), w.cell? ⟨ad.block, ad.off + i, none⟩ = some (iv ds[i])

theorem Ints.nil (w : World) : Ints w none 0 [] := ⟨fun _ => ⟨rfl, rfl⟩, Nat.le_refl _, Nat.zero_le _, (fun _ h => by cases h), (fun _ h => by cases h)⟩
theorem Ints.kept {w a : World} {ao : Option Addr} {c : Nat} {ds : List Nat} (h : Ints w ao c ds) (g : w.grownBy a none) : Ints a ao c ds :=
  ⟨h.zip, h.fits, h.most, h.shape, fun ad e i hi => g.cell (h.cell ad e i hi) (by simp)⟩
theorem Ints.own {w : World} {base : Nat} {v : Value} {ds : List Nat} (h : w.ownsRow base 3 1 v ds.length (ds.map iv)) : ∃ ao c, v = .slice ao ds.length c ∧ Ints w ao c ds := by
  rcases h.2 with ⟨rfl, h0⟩ | ⟨g, cap, cur, rfl, hg, hh, h3, h4, h5, h6⟩
  · have := List.eq_nil_of_length_eq_zero h0
    subst this
    exact ⟨none, 0, rfl, Ints.nil _⟩
  · refine ⟨_, cap, rfl, ⟨(fun e => by cases e), h3, h4, (fun ad e _ => by cases e; rfl), (fun ad e i hi => ?_)⟩⟩
    cases e
    have := h.cellAt i (by omega)
    rw [show (⟨g, 0, none⟩ : Addr).off + i = i from Nat.zero_add i, this]
    simp [hi]

theorem info_int : (Tryd.prog.info? 3).map (fun i => (i.zero, i.size, i.bytes)) = some (some (.int .i64 0), 1, 8) := by kernel_rfl

theorem digit_any (w : World) (ao : Option Addr) (c : Nat) (ds : List Nat) (h : Ints w ao c ds) (i : Nat) :
    Calls Tryd.prog 90 #[.slice ao ds.length c, .int .i64 (i : Int)] w fun e w' => e = .returned (.int .i64 ((ds.getD i 0 : Nat) : Int)) ∧ w' = w := by
  by_cases hi : i < ds.length
  · obtain ⟨ad, rfl⟩ : ∃ ad, ao = some ad := by
      cases ao with
      | none => have := h.zip rfl; omega
      | some ad => exact ⟨ad, rfl⟩
    have hc := h.cell ad rfl i hi
    have hs := h.shape ad rfl (by omega)
    obtain ⟨b, o, s⟩ := ad
    simp only at hs hc
    subst hs
    rw [show ds.getD i 0 = ds[i] by simp [List.getD, hi]]
    unfold iv at hc
    obtain ⟨d, hd⟩ : ∃ d, d = ds[i] := ⟨_, rfl⟩
    rw [← hd] at hc ⊢
    have q0 : (0 : Int) ≤ (i : Int) := by omega
    have q1 : (i : Int) < (ds.length : Int) := by omega
    clear h hd
    go_enter Tryd.func90, Tryd.ntmps90
    go_wp2
    go_ret
    exact ⟨rfl, rfl⟩
  · have q1 : ¬ (i : Int) < (ds.length : Int) := by omega
    rw [getD_out ds i hi]
    clear h
    go_enter Tryd.func90, Tryd.ntmps90
    go_wp2
    go_ret
    exact ⟨rfl, rfl⟩

/-- A number in new memory. -/
def NumV (w w' : World) (v : Value) (n len : Nat) : Prop := ∃ out : List Nat, w'.ownsRow w.heap.size 3 1 v out.length (out.map iv) ∧ valN out = n ∧ (∀ d ∈ out, d < 256) ∧ out.length ≤ len
theorem NumV.open {w w' : World} {v : Value} {n len : Nat} (h : NumV w w' v n len) : ∃ ao c out, v = .slice ao (out : List Nat).length c ∧ Ints w' ao c out ∧ valN out = n ∧ (∀ d ∈ out, d < 256) ∧ out.length ≤ len := by
  obtain ⟨out, h1, h2, h3, h4⟩ := h
  obtain ⟨ao, c, rfl, hi⟩ := Ints.own h1
  exact ⟨ao, c, out, rfl, hi, h2, h3, h4⟩

theorem pow_small (j : Nat) (h : 256 ^ j ≤ 1099511627776) : j ≤ 5 := by
  rcases Nat.lt_or_ge j 6 with h1 | h1
  · omega
  · have : (256 : Nat) ^ 6 ≤ 256 ^ j := Nat.pow_le_pow_right (by omega) h1
    have e : (256 : Nat) ^ 6 = 281474976710656 := by decide
    omega

theorem carry_less (c j B : Nat) (h : c * 256 ^ j ≤ B) : c / 256 * 256 ^ (j + 1) ≤ B := by
  rw [Nat.pow_succ, Nat.mul_comm (256 ^ j) 256, ← Nat.mul_assoc]
  exact Nat.le_trans (Nat.mul_le_mul_right _ (Nat.div_mul_le_self c 256)) h

set_option maxRecDepth 100000 in
set_option maxHeartbeats 1000000 in
theorem carried_any (w : World) (ao : Option Addr) (c : Nat) (ds : List Nat) (h : Ints w ao c ds) (hd : ∀ d ∈ ds, d ≤ 1099511627776) (hl : ds.length ≤ 1000) (L : Nat) (hL : ds.length ≤ L) (hV : valN ds < 256 ^ L) :
    Calls Tryd.prog 106 #[.slice ao ds.length c] w fun e w' => ∃ v, e = .returned v ∧ NumV w w' v (valN ds) L ∧ w.grownBy w' none := by
  obtain ⟨i0, hi, hz0, hz1, hz2⟩ := info_parts info_int
  have hg1 : ∀ i, ds.getD i 0 ≤ 1099511627776 := fun i => by
    by_cases hi : i < ds.length
    · rw [show ds.getD i 0 = ds[i] by simp [List.getD, hi]]; exact hd _ (List.getElem_mem hi)
    · rw [getD_out ds i hi]; omega
  obtain ⟨q, hq⟩ : ∃ q, q = ds.length := ⟨_, rfl⟩
  have hdg := fun V (g : w.grownBy V none) i => digit_any V ao c ds (h.kept g) i
  rw [← hq] at hdg
  rw [← hq] at hl hL
  have HLL := hide hL
  have HLV := hide hV
  clear hL hV
  have HG := hide hg1
  have HQ := hide hq
  rw [← hq]
  clear h hd hg1 hq
  go_enter Tryd.func106, Tryd.ntmps106
  go_wp2
  go_loopw [3, 4, 5] (fun ov cv iv' wr => ∃ (i k : Nat) (o : List Nat), iv' = .int .i64 i ∧ cv = .int .i64 k ∧ o.length = i ∧ wr.ownsRow w.heap.size 3 1 ov i (o.map iv) ∧ valN o + 256 ^ i * k = valN (ds.take i) ∧ (∀ d ∈ o, d < 256) ∧ k ≤ 1099511627776 ∧ i ≤ q + 6 ∧ (q ≤ i → k * 256 ^ (i - q) ≤ 1099511627776) ∧ (i ≤ q ∨ 256 ^ (i - 1) ≤ valN ds) ∧ w.grownBy wr none) (fun _ cv iv' _ => (q - (intOf iv').toNat) * 2199023255552 + (intOf cv).toNat)
  case atStart =>
    refine ⟨0, 0, [], rfl, rfl, rfl, World.ownsRow_nil _ _ _ _, by simp [valN], (fun _ h => by cases h), by omega, by omega, fun _ => by omega, Or.inl (Nat.zero_le _), gb_refl _ _⟩
  case round =>
    obtain ⟨i, k, o, rfl, rfl, ho, hown, hval, hlt, hk, hiq, hkq, htop, hg⟩ := hrel
    by_cases hgo : i < q ∨ 0 < k
    · have hgd := unhide HG i
      obtain ⟨d, hdd⟩ : ∃ d, d = ds.getD i 0 := ⟨_, rfl⟩
      have hdc := hdg wr hg i
      rw [← hdd] at hdc hgd
      have hstep := carry_step o ds i k ho hval
      rw [← hdd] at hstep
      have hi6 : i + 1 ≤ q + 6 := by
        rcases Nat.lt_or_ge i q with h1 | h1
        · omega
        · have h2 := hkq h1
          have h3 : 1 * 256 ^ (i - q) ≤ k * 256 ^ (i - q) := Nat.mul_le_mul_right _ (by omega)
          have h4 := pow_small (i - q) (by omega)
          omega
      have hkq2 : q ≤ i + 1 → (k + d) / 256 * 256 ^ (i + 1 - q) ≤ 1099511627776 := by
        intro h1
        rcases Nat.lt_or_ge i q with h2 | h2
        · rw [show i + 1 - q = 0 by omega]
          omega
        · have hd0 : d = 0 := by rw [hdd]; exact getD_out ds i (by rw [← unhide HQ]; omega)
          have := carry_less k (i - q) _ (hkq h2)
          rw [hd0, Nat.add_zero, show i + 1 - q = i - q + 1 by omega]
          exact this
      have htop2 : i + 1 ≤ q ∨ 256 ^ (i + 1 - 1) ≤ valN ds := by
        rcases Nat.lt_or_ge i q with h2 | h2
        · exact Or.inl h2
        · right
          have hv := hval
          rw [List.take_of_length_le (by rw [← unhide HQ]; exact h2)] at hv
          have h3 : 256 ^ i * 1 ≤ 256 ^ i * k := Nat.mul_le_mul_left _ (by omega)
          rw [Nat.add_sub_cancel]
          omega
      have HTOP := hide htop2
      clear htop htop2
      obtain ⟨s, hs⟩ : ∃ s : Nat, s = k + d := ⟨_, rfl⟩
      obtain ⟨t, ht⟩ : ∃ t : Nat, t = s % 256 := ⟨_, rfl⟩
      obtain ⟨u, hu⟩ : ∃ u : Nat, u = s / 256 := ⟨_, rfl⟩
      rw [← hs, ← ht, ← hu] at hstep
      rw [← hs, ← hu] at hkq2
      have a1 : (k : Int) + (d : Int) = (s : Int) := by omega
      have a2 : IntKind.i64.wrap (s : Int) = (s : Int) := by rw [IntKind.wrap_i64]; omega
      have a3 : Int.tmod (s : Int) 256 = (t : Int) := by rw [Int.tmod_eq_emod_of_nonneg (by omega)]; omega
      have a4 : Int.tdiv (s : Int) 256 = (u : Int) := by rw [Int.tdiv_eq_ediv_of_nonneg (by omega)]; omega
      have a5 : (s : Int) % 256 = (t : Int) := by omega
      have a6 : (s : Int) / 256 = (u : Int) := by omega
      have a7 : IntKind.i64.wrap (u : Int) = (u : Int) := by rw [IntKind.wrap_i64]; omega
      have hul : u ≤ 1099511627776 := by omega
      have ht2 : t < 256 := by omega
      have hmes : (q - (i + 1)) * 2199023255552 + u < (q - i) * 2199023255552 + k := by
        rcases Nat.lt_or_ge i q with h1 | h1
        · have : (q - i) = (q - (i + 1)) + 1 := by omega
          rw [this, Nat.add_mul]
          omega
        · have hd0 : d = 0 := by rw [hdd]; exact getD_out ds i (by rw [← unhide HQ]; omega)
          rw [show q - (i + 1) = 0 by omega, show q - i = 0 by omega]
          omega
      have HST := hide hstep
      have HKQ := hide hkq2
      have HOWN := hide hown
      have HO := hide ho
      have HLT := hide hlt
      have HMES := hide hmes
      have hgs := hg.size
      clear hdd hstep hkq2 hown ho hval hlt hkq hs ht hu hmes
      by_cases hiq2 : i < q
      · have c1 : (i : Int) < (q : Int) := by omega
        go_wp2_with fail
        refine hdc.mono ?_
        rintro e w2 ⟨rfl, rfl⟩
        clear hdc
        go_wp2_with (at_builtin; refine wpList_append_own _ rfl _ _ 151 rfl w.heap.size 3 i0 (.int .i64 0) 1 8 Tryd.underlying151 hi hz0 hz1 hz2 rfl (by decide) _ _ _ rfl ((unhide HOWN).alloc _) ⟨w2.heap.size, 0, none⟩ 1 1 [.int .i64 (t : Int)] rfl rfl ?c1 ?c2 ?c3 ?c4 ?c5 ?_)
        case c1 =>
          intro t0 y0 h0
          match t0, h0 with
          | 0, h0 => simp at h0; subst h0; simp [Addr.add]
        case c2 => intro y0 h0; simp at h0; subst h0; rfl
        case c3 => unfold maxLen; omega
        case c4 => omega
        case c5 => simp; omega
        intro v3 w3 o3 g3 _
        have hg3 : w.grownBy w3 none := gb_trans (gb_alloc hg _) g3 (fun y e => Or.inl ((unhide HOWN).lt y e).1)
        clear g3
        go_wp2
        go_roundw
        case rel =>
          refine ⟨i + 1, u, o ++ [t], by go_num, rfl, by rw [List.length_append, unhide HO]; rfl, by rw [List.map_append]; exact o3, unhide HST, ?_, hul, hi6, unhide HKQ, unhide HTOP, hg3⟩
          intro y hy
          rcases List.mem_append.1 hy with hy | hy
          · exact unhide HLT y hy
          · rw [List.mem_singleton] at hy; omega
        case measure =>
          have := unhide HMES
          simp [intOf]
          omega
      · have c1 : ¬ (i : Int) < (q : Int) := by omega
        have c2 : (0 : Int) < (k : Int) := by omega
        go_wp2_with fail
        refine hdc.mono ?_
        rintro e w2 ⟨rfl, rfl⟩
        clear hdc
        go_wp2_with (at_builtin; refine wpList_append_own _ rfl _ _ 151 rfl w.heap.size 3 i0 (.int .i64 0) 1 8 Tryd.underlying151 hi hz0 hz1 hz2 rfl (by decide) _ _ _ rfl ((unhide HOWN).alloc _) ⟨w2.heap.size, 0, none⟩ 1 1 [.int .i64 (t : Int)] rfl rfl ?c1 ?c2 ?c3 ?c4 ?c5 ?_)
        case c1 =>
          intro t0 y0 h0
          match t0, h0 with
          | 0, h0 => simp at h0; subst h0; simp [Addr.add]
        case c2 => intro y0 h0; simp at h0; subst h0; rfl
        case c3 => unfold maxLen; omega
        case c4 => omega
        case c5 => simp; omega
        intro v3 w3 o3 g3 _
        have hg3 : w.grownBy w3 none := gb_trans (gb_alloc hg _) g3 (fun y e => Or.inl ((unhide HOWN).lt y e).1)
        clear g3
        go_wp2
        go_roundw
        case rel =>
          refine ⟨i + 1, u, o ++ [t], by go_num, rfl, by rw [List.length_append, unhide HO]; rfl, by rw [List.map_append]; exact o3, unhide HST, ?_, hul, hi6, unhide HKQ, unhide HTOP, hg3⟩
          intro y hy
          rcases List.mem_append.1 hy with hy | hy
          · exact unhide HLT y hy
          · rw [List.mem_singleton] at hy; omega
        case measure =>
          have := unhide HMES
          simp [intOf]
          omega
    · have c1 : ¬ (i : Int) < (q : Int) := by omega
      obtain rfl : k = 0 := by omega
      have hq2 : ds.take i = ds := List.take_of_length_le (by rw [← unhide HQ]; omega)
      rw [hq2, Nat.mul_zero, Nat.add_zero] at hval
      subst ho
      have hiL : o.length ≤ L := by
        rcases htop with h | h
        · exact Nat.le_trans h (unhide HLL)
        · have h2 := Nat.lt_of_le_of_lt h (unhide HLV)
          have h3 := (Nat.pow_lt_pow_iff_right (by omega)).1 h2
          omega
      clear htop
      have hN : NumV w wr u3 (valN ds) L := ⟨o, hown, hval, hlt, hiL⟩
      have HN := hide hN
      clear hown hval hlt hkq hdg hN hq2 hiL
      go_wp2
      go_ret
      exact ⟨_, rfl, unhide HN, hg⟩

end Go.Proofs.YtjckdgapefaokaaDoor
