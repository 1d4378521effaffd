/- What the document's answer for layer 5 reckons with digits: less, Times (package coffretref05). Of numbers of at most 400 digits, and of 100. -/
import Derived.Test.YtjckdgapefaokaaDoorPRefB
import Derived.Deep.DrawnRows
namespace Go.Proofs.YtjckdgapefaokaaDoor
open Go.RowKit

attribute [local go_sem ↓] Go.wp_at_zero Go.wp_at_succ

set_option maxRecDepth 100000 in
set_option maxHeartbeats 1000000 in
theorem less_any (w : World) (ao : Option Addr) (ca : Nat) (a : List Nat) (ha : Ints w ao ca a) (da : ∀ d ∈ a, d < 256) (bo : Option Addr) (cb : Nat) (b : List Nat) (hb : Ints w bo cb b) (db : ∀ d ∈ b, d < 256) (la : a.length ≤ 400) (hle : valN b ≤ valN a) (hbl : b.length ≤ a.length) :
    Calls Tryd.prog 105 #[.slice ao a.length ca, .slice bo b.length cb] w fun e w' => ∃ v, e = .returned v ∧ NumV w w' v (valN a - valN b) a.length ∧ w.grownBy w' none := by
  obtain ⟨i0, hi, hz0, hz1, hz2⟩ := info_parts info_int
  obtain ⟨p, hp⟩ : ∃ p, p = a.length := ⟨_, rfl⟩
  obtain ⟨q, hq⟩ : ∃ q, q = b.length := ⟨_, rfl⟩
  have hdg := fun V (g : w.grownBy V none) i => digit_any V ao ca a (ha.kept g) i
  have hdh := fun V (g : w.grownBy V none) i => digit_any V bo cb b (hb.kept g) i
  have hpa := preN_all a p (by omega)
  have hpb := preN_all b p (by omega)
  rw [← hp] at hdg la
  rw [← hq] at hdh
  rw [← hp, ← hq]
  have HDA := hide da
  have HDB := hide db
  have HLE := hide hle
  have HPA := hide hpa
  have HPB := hide hpb
  clear hp hq ha hb da db hle hbl hpa hpb
  go_enter Tryd.func105, Tryd.ntmps105
  go_wp2
  go_loopw [5, 6, 7] (fun ov cv iv' wr => ∃ (i c : Nat) (o : List Nat), i ≤ p ∧ iv' = .int .i64 i ∧ cv = .int .i64 c ∧ o.length = i ∧ wr.ownsRow w.heap.size 3 1 ov i (o.map iv) ∧ valN o + preN b i = preN a i + 256 ^ i * c ∧ (∀ d ∈ o, d < 256) ∧ c ≤ 1 ∧ w.grownBy wr none) (fun _ _ iv' _ => p - (intOf iv').toNat)
  case atStart => exact ⟨0, 0, [], Nat.zero_le _, rfl, rfl, rfl, World.ownsRow_nil _ _ _ _, by simp [valN, preN_zero], (fun _ h => by cases h), by omega, gb_refl _ _⟩
  case round =>
    obtain ⟨i, c, o, him, rfl, rfl, ho, hown, hval, hlt, hc, hg⟩ := hrel
    have hgs := hg.size
    by_cases hgo : i < p
    · have c1 : (i : Int) < (p : Int) := by omega
      have hda := hdg wr hg i
      have hdb := hdh wr hg i
      have l1 := getD_lt (unhide HDA) i
      have l2 := getD_lt (unhide HDB) i
      obtain ⟨x, hx⟩ : ∃ x, x = a.getD i 0 := ⟨_, rfl⟩
      obtain ⟨y, hy⟩ : ∃ y, y = b.getD i 0 := ⟨_, rfl⟩
      rw [← hx] at hda l1
      rw [← hy] at hdb l2
      by_cases hn : y + c ≤ x
      · have q1 : ¬ ((x : Int) - (y : Int)) - (c : Int) < 0 := by omega
        obtain ⟨d, hd⟩ : ∃ d : Nat, (d : Int) = (x : Int) - (y : Int) - (c : Int) := ⟨x - y - c, by omega⟩
        have q3 : (x : Int) - (y : Int) - (c : Int) = (d : Int) := hd.symm
        have hd0 : ¬ (d : Int) < 0 := by omega
        have hd2 : d < 256 := by omega
        have hstep := less_step o a b i c d 0 ho hval (by rw [← hx, ← hy]; omega)
        have HST := hide hstep
        have HOWN := hide hown
        have HO := hide ho
        have HLT := hide hlt
        clear hd hstep hown ho hval hlt hx hy q1
        go_wp2_with fail
        refine hda.mono ?_
        rintro e _ ⟨rfl, rfl⟩
        clear hda
        go_wp2_with fail
        refine hdb.mono ?_
        rintro e w3 ⟨rfl, rfl⟩
        clear hdb
        go_wp2_with (at_builtin; refine wpList_append_own _ rfl _ _ 151 rfl w.heap.size 3 i0 (.int .i64 0) 1 8 Tryd.underlying151 hi hz0 hz1 hz2 rfl (by decide) _ _ _ rfl ((unhide HOWN).alloc _) ⟨w3.heap.size, 0, none⟩ 1 1 [.int .i64 (d : Int)] rfl rfl (fun t0 y0 h0 => by match t0, h0 with | 0, h0 => simp at h0; subst h0; simp [Addr.add]) (fun y0 h0 => by simp at h0; subst h0; rfl) (by unfold maxLen; omega) (by omega) (by first | omega | (simp; omega)) ?_)
        intro v4 w4 o4 g4 _
        have hg4 : w.grownBy w4 none := gb_trans (gb_alloc hg _) g4 (fun y e => Or.inl ((unhide HOWN).lt y e).1)
        clear g4
        go_wp2
        go_roundw
        case rel =>
          refine ⟨i + 1, 0, o ++ [d], by omega, by go_num, rfl, by rw [List.length_append, unhide HO]; rfl, by rw [List.map_append]; exact o4, unhide HST, ?_, by omega, hg4⟩
          intro z hz
          rcases List.mem_append.1 hz with hz | hz
          · exact unhide HLT z hz
          · rw [List.mem_singleton] at hz; omega
        case measure => simp [intOf]; omega
      · have q1 : ((x : Int) - (y : Int)) - (c : Int) < 0 := by omega
        obtain ⟨d, hd⟩ : ∃ d : Nat, (d : Int) = (x : Int) - (y : Int) - (c : Int) + 256 := ⟨(x + 256) - y - c, by omega⟩
        have q2 : IntKind.i64.wrap ((x : Int) - (y : Int) - (c : Int) + 256) = (d : Int) := by rw [IntKind.wrap_i64]; omega
        have q3 : (x : Int) - (y : Int) - (c : Int) + 256 = (d : Int) := hd.symm
        have hd2 : d < 256 := by omega
        have hstep := less_step o a b i c d 1 ho hval (by rw [← hx, ← hy]; omega)
        have HST := hide hstep
        have HOWN := hide hown
        have HO := hide ho
        have HLT := hide hlt
        clear hd hstep hown ho hval hlt hx hy
        go_wp2_with fail
        refine hda.mono ?_
        rintro e _ ⟨rfl, rfl⟩
        clear hda
        go_wp2_with fail
        refine hdb.mono ?_
        rintro e w3 ⟨rfl, rfl⟩
        clear hdb
        go_wp2_with (at_builtin; refine wpList_append_own _ rfl _ _ 151 rfl w.heap.size 3 i0 (.int .i64 0) 1 8 Tryd.underlying151 hi hz0 hz1 hz2 rfl (by decide) _ _ _ rfl ((unhide HOWN).alloc _) ⟨w3.heap.size, 0, none⟩ 1 1 [.int .i64 (d : Int)] rfl rfl (fun t0 y0 h0 => by match t0, h0 with | 0, h0 => simp at h0; subst h0; simp [Addr.add]) (fun y0 h0 => by simp at h0; subst h0; rfl) (by unfold maxLen; omega) (by omega) (by first | omega | (simp; omega)) ?_)
        intro v4 w4 o4 g4 _
        have hg4 : w.grownBy w4 none := gb_trans (gb_alloc hg _) g4 (fun y e => Or.inl ((unhide HOWN).lt y e).1)
        clear g4
        go_wp2
        go_roundw
        case rel =>
          refine ⟨i + 1, 1, o ++ [d], by omega, by go_num, rfl, by rw [List.length_append, unhide HO]; rfl, by rw [List.map_append]; exact o4, unhide HST, ?_, by omega, hg4⟩
          intro z hz
          rcases List.mem_append.1 hz with hz | hz
          · exact unhide HLT z hz
          · rw [List.mem_singleton] at hz; omega
        case measure => simp [intOf]; omega
    · have c1 : ¬ (i : Int) < (p : Int) := by omega
      obtain rfl : i = p := by omega
      rw [unhide HPA, unhide HPB] at hval
      have h1 := valN_lt o hlt
      rw [ho] at h1
      have hle := unhide HLE
      have hc0 : c = 0 := by
        rcases Nat.lt_or_ge 0 c with h | h
        · obtain rfl : c = 1 := by omega
          omega
        · omega
      subst hc0
      have hN : NumV w wr u5 (valN a - valN b) i := ⟨o, by rw [ho]; exact hown, by omega, hlt, by omega⟩
      have HN := hide hN
      clear hown hval hlt hdg hdh hN h1 hle
      go_wp2
      go_ret
      exact ⟨_, rfl, unhide HN, hg⟩

end Go.Proofs.YtjckdgapefaokaaDoor

/- What the document's answer for layer 5 reckons with digits: Times (package coffretref05). Of numbers of at most 100 digits. -/
namespace Go.Proofs.YtjckdgapefaokaaDoor
open Go.RowKit

attribute [local go_sem ↓] Go.wp_at_zero Go.wp_at_succ

theorem valN_set (o : List Nat) : ∀ (i x : Nat) (h : i < o.length), valN (o.set i (o[i] + x)) = valN o + 256 ^ i * x := by
  induction o with
  | nil => intro i x h; simp at h
  | cons d r ih =>
    intro i x h
    cases i with
    | zero => simp [valN]; omega
    | succ i =>
      have := ih i x (by simpa using h)
      simp only [List.set_cons_succ, List.getElem_cons_succ, valN]
      rw [this, Nat.pow_succ, Nat.mul_add, Nat.mul_comm (256 ^ i) 256, Nat.mul_assoc]
      omega

theorem made_iv (n : Nat) : madeCells (Value.int .i64 0).cells n = ((List.replicate n (0 : Nat)).map iv).toArray := by
  apply Array.ext
  · simp [size_madeCells]
  · intro i h1 h2
    simp [madeCells, Value.cells, iv, Nat.mod_one]

theorem make_ints (W : World) (n : Nat) (h : n ≤ 1000) : (Instr.makeSlice 151 (.int .i64 (n : Int)) (.int .i64 (n : Int))).run Tryd.prog W = .ok (.slice (some ⟨W.heap.size, 0, none⟩) n n) (W.alloc (.cells ((List.replicate n (0 : Nat)).map iv).toArray 3)) := by
  obtain ⟨i0, hi, hz0, hz1, hz2⟩ := info_parts info_int
  rw [run_make W 151 3 i0 (.int .i64 0) Tryd.underlying151 hi hz0 .i64 .i64 n n (by omega) (by omega) (by rw [hz2]; omega) (by omega), hz1]
  simp only [Int.toNat_natCast, Nat.mul_one]
  rw [made_iv]

theorem Blk.iset {w : World} {b : Nat} {t : TypeId} {o : List Nat} (h : Blk w b t (o.map iv)) (i x : Nat) : Blk (w.setCell ⟨b, i, none⟩ (.int .i64 (x : Int))) b t ((o.set i x).map iv) := by
  have := h.set i (iv x)
  rw [← List.map_set] at this
  exact this
theorem Blk.int {w : World} {b : Nat} {t : TypeId} {o : List Nat} (h : Blk w b t (o.map iv)) (i : Nat) (hi : i < o.length) : w.cell? ⟨b, i, none⟩ = some (.int .i64 ((o[i] : Nat) : Int)) := by
  rw [h.cell, List.getElem?_map, List.getElem?_eq_getElem hi]
  rfl
theorem Ints.blk {w : World} {b : Nat} {t : TypeId} {o : List Nat} (h : Blk w b t (o.map iv)) (hm : o.length ≤ maxLen) : Ints w (some ⟨b, 0, none⟩) o.length o := by
  refine ⟨(fun e => by cases e), Nat.le_refl _, hm, (fun ad e _ => by cases e; rfl), (fun ad e i hi => ?_)⟩
  cases e
  rw [show (⟨b, 0, none⟩ : Addr).off + i = i from Nat.zero_add i]
  exact h.int i hi

theorem mem_set_le {o : List Nat} {B C i x : Nat} (h : ∀ d ∈ o, d ≤ B) (hx : x ≤ C) (hBC : B ≤ C) : ∀ d ∈ o.set i x, d ≤ C := by
  intro d hd
  rcases List.mem_or_eq_of_mem_set hd with h1 | h1
  · have := h d h1; omega
  · omega

set_option maxRecDepth 100000 in
set_option maxHeartbeats 2000000 in
theorem times_any (w : World) (ao : Option Addr) (ca : Nat) (a : List Nat) (ha : Ints w ao ca a) (da : ∀ d ∈ a, d < 256) (bo : Option Addr) (cb : Nat) (b : List Nat) (hb : Ints w bo cb b) (db : ∀ d ∈ b, d < 256) (la : a.length ≤ 100) (lb : b.length ≤ 100) :
    Calls Tryd.prog 87 #[.slice ao a.length ca, .slice bo b.length cb] w fun e w' => ∃ v, e = .returned v ∧ NumV w w' v (valN a * valN b) (a.length + b.length) ∧ w.grownBy w' none := by
  obtain ⟨p, hp⟩ : ∃ p, p = a.length := ⟨_, rfl⟩
  obtain ⟨q, hq⟩ : ∃ q, q = b.length := ⟨_, rfl⟩
  obtain ⟨n, hn⟩ : ∃ n, n = p + q := ⟨_, rfl⟩
  have hPV : valN a * valN b < 256 ^ n := by
    rw [hn, hp, hq, Nat.pow_add]
    exact Nat.mul_lt_mul'' (valN_lt a da) (valN_lt b db)
  have HPV := hide hPV
  clear hPV
  have hmk := fun W => make_ints W n (by omega)
  obtain ⟨Z, hZ⟩ : ∃ Z : Array Value, Z = ((List.replicate n (0 : Nat)).map iv).toArray := ⟨_, rfl⟩
  rw [← hZ] at hmk
  have a1 : (p : Int) + (q : Int) = (n : Int) := by omega
  have a2 : IntKind.i64.wrap (n : Int) = (n : Int) := by rw [IntKind.wrap_i64]; omega
  obtain ⟨W1, hW1⟩ : ∃ W1, W1 = w.alloc (.cells Z 3) := ⟨_, rfl⟩
  have hB1 : Blk W1 w.heap.size 3 ((List.replicate n 0).map iv) := by rw [hW1, hZ]; exact Blk.new w 3 _
  have hg1 : w.grownBy W1 none := by rw [hW1]; exact gb_alloc (gb_refl _ _) _
  rw [← hp] at la
  rw [← hq] at lb
  rw [← hp, ← hq]
  have HA := hide ha
  have HB := hide hb
  have HDA := hide da
  have HDB := hide db
  have HP := hide hp
  have HQ := hide hq
  have HN := hide hn
  have HZ := hide hZ
  have HW1 := hide hW1
  have HB1 := hide hB1
  clear ha hb da db hp hq hn hZ hW1 hB1
  go_enter Tryd.func87, Tryd.ntmps87
  go_wp2
  rw [← unhide HW1]
  go_loopw [6] (fun iv' wr => ∃ (i : Nat) (o : List Nat), i ≤ p ∧ iv' = .int .i64 i ∧ o.length = n ∧ Blk wr w.heap.size 3 (o.map iv) ∧ valN o = valN (a.take i) * valN b ∧ (∀ d ∈ o, d ≤ i * q * 65025) ∧ w.grownBy wr none) (fun iv' _ => p - (intOf iv').toNat)
  case atStart =>
    refine ⟨0, List.replicate n 0, Nat.zero_le _, rfl, List.length_replicate, unhide HB1, by rw [valN_zeros]; simp [valN], ?_, hg1⟩
    intro d hd
    have := List.eq_of_mem_replicate hd
    omega
  case round =>
    clear HB1 hg1 HW1
    obtain ⟨i, o, him, rfl, ho, hB, hval, hbd, hg⟩ := hrel
    by_cases hgo : i < p
    · have c1 : (i : Int) < (p : Int) := by omega
      have hia : i < a.length := by rw [← unhide HP]; exact hgo
      obtain ⟨ad, rfl⟩ : ∃ ad, ao = some ad := by
        cases ao with
        | none => have := (unhide HA).zip rfl; omega
        | some ad => exact ⟨ad, rfl⟩
      have has := (unhide HA).shape ad rfl (by omega)
      obtain ⟨ab, af, asp⟩ := ad
      simp only at has
      subst has
      have hca := (unhide HA).cell _ rfl i hia
      simp only at hca
      unfold iv at hca
      obtain ⟨x, hx⟩ : ∃ x, x = a[i] := ⟨_, rfl⟩
      rw [← hx] at hca
      have hx2 : x < 256 := by rw [hx]; exact unhide HDA _ (List.getElem_mem hia)
      have hta : valN (a.take (i + 1)) = valN (a.take i) + 256 ^ i * x := by rw [take_getD, hx, show a.getD i 0 = a[i] by simp [List.getD, hia]]
      have HTA := hide hta
      have HO0 := hide ho
      have HBB := hide hB
      have HVAL := hide hval
      have HBD := hide hbd
      clear hta ho hB hval hbd hx
      go_wp2
      go_loopw [7] (fun kv wr => ∃ (k : Nat) (o : List Nat), k ≤ q ∧ kv = .int .i64 k ∧ o.length = n ∧ Blk wr w.heap.size 3 (o.map iv) ∧ valN o = valN (a.take i) * valN b + 256 ^ i * x * valN (b.take k) ∧ (∀ d ∈ o, d ≤ (i * q + k) * 65025) ∧ w.grownBy wr none) (fun kv _ => q - (intOf kv).toNat)
      case atStart => exact ⟨0, o, Nat.zero_le _, rfl, unhide HO0, unhide HBB, by rw [unhide HVAL]; simp [valN], by rw [Nat.add_zero]; exact unhide HBD, hg⟩
      case round =>
        clear HO0 HBB HVAL HBD hg o
        obtain ⟨k, o, hkm, rfl, ho, hB, hval, hbd, hg⟩ := hrel
        by_cases hgk : k < q
        · have c2 : (k : Int) < (q : Int) := by omega
          have hkb : k < b.length := by rw [← unhide HQ]; exact hgk
          obtain ⟨bd, rfl⟩ : ∃ bd, bo = some bd := by
            cases bo with
            | none => have := (unhide HB).zip rfl; omega
            | some bd => exact ⟨bd, rfl⟩
          have hbs := (unhide HB).shape bd rfl (by omega)
          obtain ⟨bb, bf, bsp⟩ := bd
          simp only at hbs
          subst hbs
          have hcb := (unhide HB).cell _ rfl k hkb
          simp only at hcb
          unfold iv at hcb
          obtain ⟨y, hy⟩ : ∃ y, y = b[k] := ⟨_, rfl⟩
          rw [← hy] at hcb
          have hy2 : y < 256 := by rw [hy]; exact unhide HDB _ (List.getElem_mem hkb)
          have htb : valN (b.take (k + 1)) = valN (b.take k) + 256 ^ k * y := by rw [take_getD, hy, show b.getD k 0 = b[k] by simp [List.getD, hkb]]
          obtain ⟨s, hs⟩ : ∃ s, s = i + k := ⟨_, rfl⟩
          have hso : s < o.length := by rw [ho]; have := unhide HN; omega
          obtain ⟨u, hu⟩ : ∃ u, u = o[s] := ⟨_, rfl⟩
          have hcu := hB.int s hso
          rw [← hu] at hcu
          have hub : u ≤ (i * q + k) * 65025 := by rw [hu]; exact hbd _ (List.getElem_mem hso)
          have hiq : i * q ≤ 100 * 100 := Nat.mul_le_mul (by omega) (by omega)
          obtain ⟨m, hm⟩ : ∃ m, m = x * y := ⟨_, rfl⟩
          have hm2 : m ≤ 255 * 255 := by rw [hm]; exact Nat.mul_le_mul (by omega) (by omega)
          obtain ⟨t, ht⟩ : ∃ t, t = u + m := ⟨_, rfl⟩
          have hnv : valN (o.set s t) = valN (a.take i) * valN b + 256 ^ i * x * valN (b.take (k + 1)) := by
            rw [ht, hu, valN_set o s m hso, hval, htb, hm, hs, Nat.mul_add, Nat.add_assoc, Nat.pow_add]
            congr 1
            congr 1
            rw [Nat.mul_assoc, Nat.mul_assoc, Nat.mul_left_comm x]
          have hnd : ∀ d ∈ o.set s t, d ≤ (i * q + (k + 1)) * 65025 := mem_set_le hbd (by rw [ht]; omega) (by omega)
          have n1 : (i : Int) + (k : Int) = (s : Int) := by omega
          have n2 : IntKind.i64.wrap (s : Int) = (s : Int) := by rw [IntKind.wrap_i64]; omega
          have n3 : (x : Int) * (y : Int) = (m : Int) := by rw [hm]; exact (Int.natCast_mul x y).symm
          have n4 : IntKind.i64.wrap (m : Int) = (m : Int) := by rw [IntKind.wrap_i64]; omega
          have n5 : (u : Int) + (m : Int) = (t : Int) := by omega
          have n6 : IntKind.i64.wrap (t : Int) = (t : Int) := by rw [IntKind.wrap_i64]; omega
          have q0 : (0 : Int) ≤ (i : Int) := by omega
          have q1 : (0 : Int) ≤ (k : Int) := by omega
          have q2 : (0 : Int) ≤ (s : Int) := by omega
          have q3 : (s : Int) < (n : Int) := by omega
          have hal := World.block_lt_of_cell? w _ hca
          have hbl := World.block_lt_of_cell? w _ hcb
          have cA : wr.drew.cell? ⟨ab, af + i, none⟩ = some (.int .i64 (x : Int)) := hg.cell hca (by simp)
          have cB : wr.drew.cell? ⟨bb, bf + k, none⟩ = some (.int .i64 (y : Int)) := hg.cell hcb (by simp)
          simp only at hal hbl
          have hS0 : wr.drew.cell? ⟨ab, af + i, none⟩ = some (.int .i64 (x : Int)) ∧ wr.drew.cell? ⟨bb, bf + k, none⟩ = some (.int .i64 (y : Int)) := ⟨cA, cB⟩
          have hS1 : (wr.setCell ⟨w.heap.size, s, none⟩ (.int .i64 (t : Int))).drew.cell? ⟨ab, af + i, none⟩ = some (.int .i64 (x : Int)) ∧ (wr.setCell ⟨w.heap.size, s, none⟩ (.int .i64 (t : Int))).drew.cell? ⟨bb, bf + k, none⟩ = some (.int .i64 (y : Int)) := by
            constructor
            · rw [World.cell?_drew, World.cell?_setCell_other _ _ _ _ (by intro e; injection e with e1; omega)]; exact cA
            · rw [World.cell?_drew, World.cell?_setCell_other _ _ _ _ (by intro e; injection e with e1; omega)]; exact cB
          have hcu2 : wr.drew.cell? ⟨w.heap.size, s, none⟩ = some (.int .i64 (u : Int)) := hcu
          have hfz : wr.drew.frozen? ⟨w.heap.size, s, none⟩ = false := hB.fz s
          have hB2 : Blk (wr.setCell ⟨w.heap.size, s, none⟩ (.int .i64 (t : Int))).drew w.heap.size 3 ((o.set s t).map iv) := (hB.iset s t).drew
          have hg2 : w.grownBy (wr.setCell ⟨w.heap.size, s, none⟩ (.int .i64 (t : Int))).drew none := gb_drew (gb_setCell hg _ _ (Or.inl (Nat.le_refl _)))
          have hol : (o.set s t).length = n := by rw [List.length_set, ho]
          have HNV := hide hnv
          have HND := hide hnd
          have HB2 := hide hB2
          have HG2 := hide hg2
          have HOL := hide hol
          clear hnv hnd hB2 hg2 hol ho hB hval hbd hs hu hm ht htb hy cA cB hcu hca hcb hso hub hiq
          go_wp2
          refine wp_region_noPanic ?_
          refine wp_region_held_drew (S := fun V => V.cell? ⟨ab, af + i, none⟩ = some (.int .i64 (x : Int)) ∧ V.cell? ⟨bb, bf + k, none⟩ = some (.int .i64 (y : Int))) (by kernel_rfl) hS0 (fun _ => ?_)
          refine wpAnyH_take (i := 0) (oi := { dst := some 26, op := Op.move (Operand.tmp 5), type := _, pos := _, after := _, guard := _ }) (v := .slice (some ⟨w.heap.size, 0, none⟩) n n) rfl (by kernel_rfl) (by kernel_rfl) (by kernel_rfl) (fun _ _ _ h => h) (Or.inl ⟨by rfl, fun V (hV : V.cell? ⟨ab, af + i, none⟩ = some (.int .i64 (x : Int)) ∧ V.cell? ⟨bb, bf + k, none⟩ = some (.int .i64 (y : Int))) => by go_simp⟩) hS0 ?_
          (try simp only [Act.put, List.setIfInBounds_toArray, List.set_cons_zero, List.set_cons_succ])
          refine wpAnyH_take (i := 1) (oi := { dst := some 27, op := Op.move (Operand.tmp 6), type := _, pos := _, after := _, guard := _ }) (v := .int .i64 (i : Int)) rfl (by kernel_rfl) (by kernel_rfl) (by kernel_rfl) (fun _ _ _ h => h) (Or.inl ⟨by rfl, fun V (hV : V.cell? ⟨ab, af + i, none⟩ = some (.int .i64 (x : Int)) ∧ V.cell? ⟨bb, bf + k, none⟩ = some (.int .i64 (y : Int))) => by go_simp⟩) hS0 ?_
          (try simp only [Act.put, List.setIfInBounds_toArray, List.set_cons_zero, List.set_cons_succ])
          refine wpAnyH_take (i := 2) (oi := { dst := some 28, op := Op.move (Operand.tmp 7), type := _, pos := _, after := _, guard := _ }) (v := .int .i64 (k : Int)) rfl (by kernel_rfl) (by kernel_rfl) (by kernel_rfl) (fun _ _ _ h => h) (Or.inl ⟨by rfl, fun V (hV : V.cell? ⟨ab, af + i, none⟩ = some (.int .i64 (x : Int)) ∧ V.cell? ⟨bb, bf + k, none⟩ = some (.int .i64 (y : Int))) => by go_simp⟩) hS0 ?_
          (try simp only [Act.put, List.setIfInBounds_toArray, List.set_cons_zero, List.set_cons_succ])
          refine wpAnyH_take (i := 3) (oi := { dst := some 29, op := Op.binOp BinOp.add 3 (Operand.tmp 27) (Operand.tmp 28) 3, type := _, pos := _, after := _, guard := _ }) (v := .int .i64 (s : Int)) rfl (by kernel_rfl) (by kernel_rfl) (by kernel_rfl) (fun _ _ _ h => h) (Or.inl ⟨by rfl, fun V (hV : V.cell? ⟨ab, af + i, none⟩ = some (.int .i64 (x : Int)) ∧ V.cell? ⟨bb, bf + k, none⟩ = some (.int .i64 (y : Int))) => by go_simp⟩) hS0 ?_
          (try simp only [Act.put, List.setIfInBounds_toArray, List.set_cons_zero, List.set_cons_succ])
          refine wpAnyH_take (i := 4) (oi := { dst := some 30, op := Op.move (Operand.tmp 5), type := _, pos := _, after := _, guard := _ }) (v := .slice (some ⟨w.heap.size, 0, none⟩) n n) rfl (by kernel_rfl) (by kernel_rfl) (by kernel_rfl) (fun _ _ _ h => h) (Or.inl ⟨by rfl, fun V (hV : V.cell? ⟨ab, af + i, none⟩ = some (.int .i64 (x : Int)) ∧ V.cell? ⟨bb, bf + k, none⟩ = some (.int .i64 (y : Int))) => by go_simp⟩) hS0 ?_
          (try simp only [Act.put, List.setIfInBounds_toArray, List.set_cons_zero, List.set_cons_succ])
          refine wpAnyH_take (i := 5) (oi := { dst := some 31, op := Op.move (Operand.tmp 6), type := _, pos := _, after := _, guard := _ }) (v := .int .i64 (i : Int)) rfl (by kernel_rfl) (by kernel_rfl) (by kernel_rfl) (fun _ _ _ h => h) (Or.inl ⟨by rfl, fun V (hV : V.cell? ⟨ab, af + i, none⟩ = some (.int .i64 (x : Int)) ∧ V.cell? ⟨bb, bf + k, none⟩ = some (.int .i64 (y : Int))) => by go_simp⟩) hS0 ?_
          (try simp only [Act.put, List.setIfInBounds_toArray, List.set_cons_zero, List.set_cons_succ])
          refine wpAnyH_take (i := 6) (oi := { dst := some 32, op := Op.move (Operand.tmp 7), type := _, pos := _, after := _, guard := _ }) (v := .int .i64 (k : Int)) rfl (by kernel_rfl) (by kernel_rfl) (by kernel_rfl) (fun _ _ _ h => h) (Or.inl ⟨by rfl, fun V (hV : V.cell? ⟨ab, af + i, none⟩ = some (.int .i64 (x : Int)) ∧ V.cell? ⟨bb, bf + k, none⟩ = some (.int .i64 (y : Int))) => by go_simp⟩) hS0 ?_
          (try simp only [Act.put, List.setIfInBounds_toArray, List.set_cons_zero, List.set_cons_succ])
          refine wpAnyH_take (i := 7) (oi := { dst := some 33, op := Op.binOp BinOp.add 3 (Operand.tmp 31) (Operand.tmp 32) 3, type := _, pos := _, after := _, guard := _ }) (v := .int .i64 (s : Int)) rfl (by kernel_rfl) (by kernel_rfl) (by kernel_rfl) (fun _ _ _ h => h) (Or.inl ⟨by rfl, fun V (hV : V.cell? ⟨ab, af + i, none⟩ = some (.int .i64 (x : Int)) ∧ V.cell? ⟨bb, bf + k, none⟩ = some (.int .i64 (y : Int))) => by go_simp⟩) hS0 ?_
          (try simp only [Act.put, List.setIfInBounds_toArray, List.set_cons_zero, List.set_cons_succ])
          refine wpAnyH_take (i := 8) (oi := { dst := some 34, op := Op.indexAddr 151 (Operand.tmp 30) (Operand.tmp 33), type := _, pos := _, after := _, guard := _ }) (v := .pointer (some ⟨w.heap.size, s, none⟩)) rfl (by kernel_rfl) (by kernel_rfl) (by kernel_rfl) (fun _ _ _ h => h) (Or.inl ⟨by rfl, fun V (hV : V.cell? ⟨ab, af + i, none⟩ = some (.int .i64 (x : Int)) ∧ V.cell? ⟨bb, bf + k, none⟩ = some (.int .i64 (y : Int))) => by go_simp⟩) hS0 ?_
          (try simp only [Act.put, List.setIfInBounds_toArray, List.set_cons_zero, List.set_cons_succ])
          refine wpAnyH_take (i := 10) (oi := { dst := some 36, op := Op.move (Operand.tmp 0), type := _, pos := _, after := _, guard := _ }) (v := .slice (some ⟨ab, af, none⟩) p ca) rfl (by kernel_rfl) (by kernel_rfl) (by kernel_rfl) (fun _ _ _ h => h) (Or.inl ⟨by rfl, fun V (hV : V.cell? ⟨ab, af + i, none⟩ = some (.int .i64 (x : Int)) ∧ V.cell? ⟨bb, bf + k, none⟩ = some (.int .i64 (y : Int))) => by go_simp⟩) hS0 ?_
          (try simp only [Act.put, List.setIfInBounds_toArray, List.set_cons_zero, List.set_cons_succ])
          refine wpAnyH_take (i := 11) (oi := { dst := some 37, op := Op.move (Operand.tmp 6), type := _, pos := _, after := _, guard := _ }) (v := .int .i64 (i : Int)) rfl (by kernel_rfl) (by kernel_rfl) (by kernel_rfl) (fun _ _ _ h => h) (Or.inl ⟨by rfl, fun V (hV : V.cell? ⟨ab, af + i, none⟩ = some (.int .i64 (x : Int)) ∧ V.cell? ⟨bb, bf + k, none⟩ = some (.int .i64 (y : Int))) => by go_simp⟩) hS0 ?_
          (try simp only [Act.put, List.setIfInBounds_toArray, List.set_cons_zero, List.set_cons_succ])
          refine wpAnyH_take (i := 12) (oi := { dst := some 38, op := Op.indexAddr 151 (Operand.tmp 36) (Operand.tmp 37), type := _, pos := _, after := _, guard := _ }) (v := .pointer (some ⟨ab, af + i, none⟩)) rfl (by kernel_rfl) (by kernel_rfl) (by kernel_rfl) (fun _ _ _ h => h) (Or.inl ⟨by rfl, fun V (hV : V.cell? ⟨ab, af + i, none⟩ = some (.int .i64 (x : Int)) ∧ V.cell? ⟨bb, bf + k, none⟩ = some (.int .i64 (y : Int))) => by go_simp⟩) hS0 ?_
          (try simp only [Act.put, List.setIfInBounds_toArray, List.set_cons_zero, List.set_cons_succ])
          refine wpAnyH_take (i := 13) (oi := { dst := some 39, op := Op.load 3 (Operand.tmp 38), type := _, pos := _, after := _, guard := _ }) (v := .int .i64 (x : Int)) rfl (by kernel_rfl) (by kernel_rfl) (by kernel_rfl) (fun _ _ _ h => h) (Or.inl ⟨by rfl, fun V (hV : V.cell? ⟨ab, af + i, none⟩ = some (.int .i64 (x : Int)) ∧ V.cell? ⟨bb, bf + k, none⟩ = some (.int .i64 (y : Int))) => by (have hv1 := hV.1; have hv2 := hV.2; go_simp)⟩) hS0 ?_
          (try simp only [Act.put, List.setIfInBounds_toArray, List.set_cons_zero, List.set_cons_succ])
          refine wpAnyH_take (i := 14) (oi := { dst := some 40, op := Op.move (Operand.tmp 1), type := _, pos := _, after := _, guard := _ }) (v := .slice (some ⟨bb, bf, none⟩) q cb) rfl (by kernel_rfl) (by kernel_rfl) (by kernel_rfl) (fun _ _ _ h => h) (Or.inl ⟨by rfl, fun V (hV : V.cell? ⟨ab, af + i, none⟩ = some (.int .i64 (x : Int)) ∧ V.cell? ⟨bb, bf + k, none⟩ = some (.int .i64 (y : Int))) => by go_simp⟩) hS0 ?_
          (try simp only [Act.put, List.setIfInBounds_toArray, List.set_cons_zero, List.set_cons_succ])
          refine wpAnyH_take (i := 15) (oi := { dst := some 41, op := Op.move (Operand.tmp 7), type := _, pos := _, after := _, guard := _ }) (v := .int .i64 (k : Int)) rfl (by kernel_rfl) (by kernel_rfl) (by kernel_rfl) (fun _ _ _ h => h) (Or.inl ⟨by rfl, fun V (hV : V.cell? ⟨ab, af + i, none⟩ = some (.int .i64 (x : Int)) ∧ V.cell? ⟨bb, bf + k, none⟩ = some (.int .i64 (y : Int))) => by go_simp⟩) hS0 ?_
          (try simp only [Act.put, List.setIfInBounds_toArray, List.set_cons_zero, List.set_cons_succ])
          refine wpAnyH_take (i := 16) (oi := { dst := some 42, op := Op.indexAddr 151 (Operand.tmp 40) (Operand.tmp 41), type := _, pos := _, after := _, guard := _ }) (v := .pointer (some ⟨bb, bf + k, none⟩)) rfl (by kernel_rfl) (by kernel_rfl) (by kernel_rfl) (fun _ _ _ h => h) (Or.inl ⟨by rfl, fun V (hV : V.cell? ⟨ab, af + i, none⟩ = some (.int .i64 (x : Int)) ∧ V.cell? ⟨bb, bf + k, none⟩ = some (.int .i64 (y : Int))) => by go_simp⟩) hS0 ?_
          (try simp only [Act.put, List.setIfInBounds_toArray, List.set_cons_zero, List.set_cons_succ])
          refine wpAnyH_take (i := 17) (oi := { dst := some 43, op := Op.load 3 (Operand.tmp 42), type := _, pos := _, after := _, guard := _ }) (v := .int .i64 (y : Int)) rfl (by kernel_rfl) (by kernel_rfl) (by kernel_rfl) (fun _ _ _ h => h) (Or.inl ⟨by rfl, fun V (hV : V.cell? ⟨ab, af + i, none⟩ = some (.int .i64 (x : Int)) ∧ V.cell? ⟨bb, bf + k, none⟩ = some (.int .i64 (y : Int))) => by (have hv1 := hV.1; have hv2 := hV.2; go_simp)⟩) hS0 ?_
          (try simp only [Act.put, List.setIfInBounds_toArray, List.set_cons_zero, List.set_cons_succ])
          refine wpAnyH_take (i := 18) (oi := { dst := some 44, op := Op.binOp BinOp.mul 3 (Operand.tmp 39) (Operand.tmp 43) 3, type := _, pos := _, after := _, guard := _ }) (v := .int .i64 (m : Int)) rfl (by kernel_rfl) (by kernel_rfl) (by kernel_rfl) (fun _ _ _ h => h) (Or.inl ⟨by rfl, fun V (hV : V.cell? ⟨ab, af + i, none⟩ = some (.int .i64 (x : Int)) ∧ V.cell? ⟨bb, bf + k, none⟩ = some (.int .i64 (y : Int))) => by go_simp⟩) hS0 ?_
          (try simp only [Act.put, List.setIfInBounds_toArray, List.set_cons_zero, List.set_cons_succ])
          refine wpAnyH_ready (rs := [9]) (by kernel_rfl) (by simp) ?_
          refine AllReadyH.cons (o := { dst := some 35, op := Op.load 3 (Operand.tmp 34), type := _, pos := _, after := _, guard := _ }) rfl (fun K9 hK9 => ?_) AllReadyH.nil
          go_simp
          refine hK9.out _ _ hS0 (fun _ => ?_)
          clear hK9 K9
          (try simp only [Act.put, List.setIfInBounds_toArray, List.set_cons_zero, List.set_cons_succ])
          refine wpAnyH_take (i := 19) (oi := { dst := some 45, op := Op.binOp BinOp.add 3 (Operand.tmp 35) (Operand.tmp 44) 3, type := _, pos := _, after := _, guard := _ }) (v := .int .i64 (t : Int)) rfl (by kernel_rfl) (by kernel_rfl) (by kernel_rfl) (fun _ _ _ h => h) (Or.inl ⟨by rfl, fun V (hV : V.cell? ⟨ab, af + i, none⟩ = some (.int .i64 (x : Int)) ∧ V.cell? ⟨bb, bf + k, none⟩ = some (.int .i64 (y : Int))) => by go_simp⟩) hS0 ?_
          (try simp only [Act.put, List.setIfInBounds_toArray, List.set_cons_zero, List.set_cons_succ])
          refine wpAnyH_take (i := 20) (oi := { dst := some 46, op := Op.indexAddr 151 (Operand.tmp 26) (Operand.tmp 29), type := _, pos := _, after := _, guard := _ }) (v := .pointer (some ⟨w.heap.size, s, none⟩)) rfl (by kernel_rfl) (by kernel_rfl) (by kernel_rfl) (fun _ _ _ h => h) (Or.inl ⟨by rfl, fun V (hV : V.cell? ⟨ab, af + i, none⟩ = some (.int .i64 (x : Int)) ∧ V.cell? ⟨bb, bf + k, none⟩ = some (.int .i64 (y : Int))) => by go_simp⟩) hS0 ?_
          (try simp only [Act.put, List.setIfInBounds_toArray, List.set_cons_zero, List.set_cons_succ])
          refine wpAnyH_ready (rs := [21]) (by kernel_rfl) (by simp) ?_
          refine AllReadyH.cons (o := { dst := none, op := Op.store 3 (Operand.tmp 46) (Operand.tmp 45), type := _, pos := _, after := _, guard := _ }) rfl (fun K9 hK9 => ?_) AllReadyH.nil
          go_simp
          refine hK9.out _ _ hS1 (fun _ => ?_)
          clear hK9 K9
          (try simp only [Act.put, List.setIfInBounds_toArray, List.set_cons_zero, List.set_cons_succ])
          refine wpAnyH_done (by kernel_rfl) ?_ _
          refine NoPanic.normal ?_
          go_wp2
          go_roundw
          case rel => exact ⟨k + 1, o.set s t, by omega, by go_num, unhide HOL, unhide HB2, unhide HNV, unhide HND, unhide HG2⟩
          case measure => simp [intOf]; omega
        · have c2 : ¬ (k : Int) < (q : Int) := by omega
          obtain rfl : k = q := by omega
          have hbt : b.take k = b := List.take_of_length_le (by rw [unhide HQ]; exact Nat.le_refl _)
          rw [hbt, ← Nat.add_mul, ← unhide HTA] at hval
          have hbd2 : ∀ d ∈ o, d ≤ (i + 1) * k * 65025 := fun d hd => by
            have := hbd d hd
            rw [Nat.add_mul, Nat.one_mul]
            exact this
          have HB2 := hide hB
          have HV2 := hide hval
          have HBD2 := hide hbd2
          have HOL := hide ho
          clear hB hval hbd hbd2 ho hbt
          go_wp2
          go_roundw
          case rel => exact ⟨i + 1, o, by omega, by go_num, unhide HOL, unhide HB2, unhide HV2, unhide HBD2, hg⟩
          case measure => simp [intOf]; omega
    · have c1 : ¬ (i : Int) < (p : Int) := by omega
      obtain rfl : i = p := by omega
      rw [List.take_of_length_le (by rw [unhide HP]; exact Nat.le_refl _)] at hval
      have hca := carried_any wr (some ⟨w.heap.size, 0, none⟩) o.length o (Ints.blk hB (by rw [ho]; unfold maxLen; omega)) (fun d hd => by
        have h1 := hbd d hd
        have h2 : i * q ≤ 100 * 100 := Nat.mul_le_mul (by omega) (by omega)
        omega) (by rw [ho]; omega) n (by omega) (by rw [hval]; exact unhide HPV)
      rw [hval, ho] at hca
      have hgs := hg.size
      have hnn := unhide HN
      have HNN := hide hnn
      clear hB hval hbd ho hnn
      go_wp2_with fail
      refine hca.mono ?_
      rintro e w2 ⟨v2, rfl, n2, g2⟩
      clear hca
      rw [unhide HNN] at n2
      go_wp2
      go_ret
      exact ⟨_, rfl, n2.mono hgs, gb_trans hg g2 (fun _ e => by cases e)⟩

end Go.Proofs.YtjckdgapefaokaaDoor

/- What the document's answer for layer 5 reckons with digits: Mod (package coffretref05): what is left by 2 to the 130 but for 5. Of a number of at most 60 digits below 2 to the 255. -/
namespace Go.Proofs.YtjckdgapefaokaaDoor
open Go.RowKit

theorem low_set (N : List Nat) (h : 16 < N.length) : (N.take 17).set 16 (N[16] % 4) = lowD N := by
  unfold lowD
  rw [if_pos h, List.take_succ_eq_append_getElem h, List.set_append_right _ _ (by simp; omega), show N.getD 16 0 = N[16] by simp [List.getD, h]]
  have : 16 - (N.take 16).length = 0 := by simp; omega
  rw [this]
  rfl

set_option maxRecDepth 100000 in
set_option maxHeartbeats 4000000 in
theorem mod_any (w : World) (ao : Option Addr) (c : Nat) (n : List Nat) (hn : Ints w ao c n) (dn : ∀ d ∈ n, d < 256) (ln : n.length ≤ 60) (hv : valN n < 57896044618658097711785492504343953926634992332820282019728792003956564819968) :
    Calls Tryd.prog 86 #[.slice ao n.length c] w fun e w' => ∃ v, e = .returned v ∧ (∃ ao c out, v = .slice ao (out : List Nat).length c ∧ Ints w' ao c out ∧ valN out = valN n % pN ∧ (∀ d ∈ out, d < 256) ∧ out.length ≤ 18) ∧ w.grownBy w' none := by
  obtain ⟨i0, hi, hz0, hz1, hz2⟩ := info_parts info_int
  obtain ⟨v0, hv0⟩ : ∃ v, v = valN n := ⟨_, rfl⟩
  rw [← hv0] at hv ⊢
  have HV := hide hv
  clear hv
  go_enter Tryd.func86, Tryd.ntmps86
  go_wp2
  go_loopw [0, 3] (fun nv kv wr => ∃ (kk : Nat) (ao : Option Addr) (c : Nat) (N : List Nat), kk ≤ 8 ∧ nv = .slice ao N.length c ∧ kv = .int .i64 kk ∧ Ints wr ao c N ∧ (∀ d ∈ N, d < 256) ∧ valN N = modI kk v0 ∧ (N.length + 14 * kk ≤ 60 ∨ N.length ≤ 18) ∧ w.grownBy wr none) (fun _ kv _ => 8 - (intOf kv).toNat)
  case atStart => exact ⟨0, ao, c, n, Nat.zero_le _, rfl, rfl, hn, dn, hv0.symm, Or.inl (by omega), gb_refl _ _⟩
  case round =>
    clear hn dn ln hv0 ao c n
    obtain ⟨kk, ao, c, N, hkm, rfl, rfl, hIN, dN, vN, lN, hgU⟩ := hrel
    by_cases hk8 : kk < 8
    · have c8 : (kk : Int) < 8 := by omega
      obtain ⟨U, hU⟩ : ∃ U, U = wr := ⟨_, rfl⟩
      rw [← hU] at hIN hgU ⊢
      clear hU
      obtain ⟨L, hL⟩ : ∃ L, L = N.length := ⟨_, rfl⟩
      rw [← hL] at lN ⊢
      have HIN := hide hIN
      have HDN := hide dN
      have HVN := hide vN
      have HLL := hide lN
      have HL := hide hL.symm
      clear hIN dN vN hL
      go_wp2
      go_loopw [4, 6] (fun lv iv' wr => ∃ i : Nat, i ≤ min 17 L ∧ iv' = .int .i64 i ∧ wr.ownsRow U.heap.size 3 1 lv i ((N.take i).map iv) ∧ U.grownBy wr none) (fun _ iv' _ => 17 - (intOf iv').toNat)
      case atStart => exact ⟨0, Nat.zero_le _, rfl, World.ownsRow_nil _ _ _ _, gb_refl _ _⟩
      case round =>
        obtain ⟨i, him, rfl, hown, hg⟩ := hrel
        have hgs := hg.size
        by_cases hgo : i < min 17 L
        · have c1 : (i : Int) < 17 := by omega
          have c2 : (i : Int) < (L : Int) := by omega
          have q0 : (0 : Int) ≤ (i : Int) := by omega
          have hiN : i < N.length := by rw [unhide HL]; omega
          obtain ⟨ad, rfl⟩ : ∃ ad, ao = some ad := by
            cases ao with
            | none => have := (unhide HIN).zip rfl; omega
            | some ad => exact ⟨ad, rfl⟩
          have hs := (unhide HIN).shape ad rfl (by omega)
          obtain ⟨nb9, nf, nsp⟩ := ad
          simp only at hs
          subst hs
          have hc := ((unhide HIN).kept hg).cell _ rfl i hiN
          simp only at hc
          unfold iv at hc
          obtain ⟨d, hd⟩ : ∃ d, d = N[i] := ⟨_, rfl⟩
          rw [← hd] at hc
          have hnx : N.take (i + 1) = N.take i ++ [d] := by rw [List.take_succ_eq_append_getElem hiN, hd]
          have HNX := hide hnx
          have HOWN := hide hown
          clear hd hnx hown hiN
          go_wp2_with (at_builtin; refine wpList_append_own _ rfl _ _ 151 rfl U.heap.size 3 i0 (.int .i64 0) 1 8 Tryd.underlying151 hi hz0 hz1 hz2 rfl (by decide) _ _ _ rfl ((unhide HOWN).alloc _) ⟨wr.heap.size, 0, none⟩ 1 1 [.int .i64 (d : Int)] rfl rfl (fun t0 y0 h0 => by match t0, h0 with | 0, h0 => simp at h0; subst h0; simp [Addr.add]) (fun y0 h0 => by simp at h0; subst h0; rfl) (by unfold maxLen; omega) (by omega) (by first | omega | (simp; omega)) ?_)
          intro v4 w4 o4 g4 _
          have hg4 : U.grownBy w4 none := gb_trans (gb_alloc hg _) g4 (fun y e => Or.inl ((unhide HOWN).lt y e).1)
          clear g4
          go_wp2
          go_roundw
          case rel =>
            refine ⟨i + 1, by omega, by go_num, ?_, hg4⟩
            rw [unhide HNX, List.map_append, List.map_take]
            exact o4
          case measure => simp [intOf]; omega
        · obtain ⟨X1, hX1⟩ : ∃ X, X = wr := ⟨_, rfl⟩
          rw [← hX1] at hown hg ⊢
          clear hX1
          by_cases h16 : 16 < L
          · obtain rfl : i = 17 := by omega
            rw [show ((17 : Nat) : Int) = 17 from rfl]
            have hN16 : 16 < N.length := by rw [unhide HL]; exact h16
            obtain ⟨g5, cap5, hv5⟩ : ∃ g5 cap5, u4 = .slice (some ⟨g5, 0, none⟩) 17 cap5 := by
              rcases hown.2 with ⟨_, h0⟩ | ⟨g5, cap5, cur5, hv5, _⟩
              · omega
              · exact ⟨g5, cap5, hv5⟩
            subst hv5
            have hce := hown.cellAt 16 (by omega)
            have hfz := hown.frozenAt 16
            have hbs := (hown.lt g5 rfl).1
            rw [List.getElem?_map, List.getElem?_take_of_lt (by omega), List.getElem?_eq_getElem hN16] at hce
            obtain ⟨d, hd⟩ : ∃ d, d = N[16] := ⟨_, rfl⟩
            obtain ⟨d4, hd4⟩ : ∃ d4, d4 = d % 4 := ⟨_, rfl⟩
            have hcd : X1.cell? ⟨g5, 16, none⟩ = some (.int .i64 (d : Int)) := by rw [hce, hd]; rfl
            have hls := low_set N hN16
            obtain ⟨LW, hLW⟩ : ∃ LW, LW = lowD N := ⟨_, rfl⟩
            obtain ⟨X, hX⟩ : ∃ X, X = X1.setCell ⟨g5, 16, none⟩ (.int .i64 (d4 : Int)) := ⟨_, rfl⟩
            have hst : X.ownsRow U.heap.size 3 1 (.slice (some ⟨g5, 0, none⟩) 17 cap5) 17 (LW.map iv) := by
              have := (hown.stored 16 (iv d4)).1
              rw [← List.map_set, show (N.take 17).set 16 d4 = LW by rw [hd4, hd, hls, hLW]] at this
              rw [hX]; exact this
            have gX : U.grownBy X none := by rw [hX]; exact gb_setCell hg _ _ (Or.inl hbs)
            have hl17 : LW.length = 17 := by have := hst.1; simpa using this
            have hIL : Ints X (some ⟨g5, 0, none⟩) cap5 LW := by
              have h1 : X.ownsRow U.heap.size 3 1 (.slice (some ⟨g5, 0, none⟩) 17 cap5) LW.length (LW.map iv) := by rw [hl17]; exact hst
              obtain ⟨ao9, c9, e9, h9⟩ := Ints.own h1
              injection e9 with e1 e2 e3
              subst e1 e3
              exact h9
            have n1 : Int.tmod (d : Int) 4 = (d4 : Int) := by rw [Int.tmod_eq_emod_of_nonneg (by omega)]; omega
            have n2 : (d : Int) % 4 = (d4 : Int) := by omega
            have HX := hide hX
            have HLW := hide hLW
            have HL17 := hide hl17
            clear hown hst hX hLW hls hce hd hd4 hN16 hbs hg him hgo hl17
            go_wp2
            rw [← unhide HX]
            clear n1 n2 hcd hfz
            have hsX := gX.size
            have hIN := (unhide HIN).kept gX
            have dLW : ∀ d ∈ LW, d < 256 := by rw [unhide HLW]; exact lowD_lt N (unhide HDN)
            have lLW : LW.length ≤ 17 := by
              rw [unhide HLW]; unfold lowD
              have := unhide HL
              split
              · simp; omega
              · omega
            have hdig := fun V (g : X.grownBy V none) i => digit_any V ao c N (hIN.kept g) i
            rw [unhide HL] at hdig
            obtain ⟨HW, hHW⟩ : ∃ H, H = highD N := ⟨_, rfl⟩
            have lHW : HW.length = L - 16 := by rw [hHW, highD, shiftD_length, List.length_drop, unhide HL]
            have dHW : ∀ d ∈ HW, d < 256 := by rw [hHW]; exact shiftD_lt _ (fun d hd => unhide HDN d (List.mem_of_mem_drop hd))
            have gHW : ∀ j, HW.getD j 0 = N.getD (16 + j) 0 / 4 + N.getD (16 + j + 1) 0 % 4 * 64 := fun j => by
              rw [hHW, highD, shiftD_get]
              simp [List.getD, Nat.add_assoc]
            have hsp := split130 N (unhide HDN)
            rw [← hHW, ← unhide HLW] at hsp
            have HIL := hide hIL
            have HSP := hide hsp
            have HDL := hide dLW
            have HDH := hide dHW
            have HGH := hide gHW
            have HLH := hide lHW
            have HINX := hide hIN
            clear hIL hsp dLW dHW gHW lHW hHW hIN
            go_loopw [5, 7] (fun hv iv' wr => ∃ j : Nat, j ≤ L - 16 ∧ iv' = .int .i64 ((16 + j : Nat) : Int) ∧ wr.ownsRow X.heap.size 3 1 hv j ((HW.take j).map iv) ∧ X.grownBy wr none) (fun _ iv' _ => L + 16 - (intOf iv').toNat)
            case atStart => exact ⟨0, Nat.zero_le _, rfl, World.ownsRow_nil _ _ _ _, gb_refl _ _⟩
            case round =>
              obtain ⟨j, hjm, rfl, hown, hg⟩ := hrel
              have hgs := hg.size
              obtain ⟨i, hij⟩ : ∃ i : Nat, i = 16 + j := ⟨_, rfl⟩
              rw [← hij]
              by_cases hgo : j < L - 16
              · have c1 : (i : Int) < (L : Int) := by omega
                have hda := hdig wr hg i
                have hdb := hdig wr hg (i + 1)
                have hgh := unhide HGH j
                rw [← hij] at hgh
                have l1 := getD_lt (unhide HDN) i
                have l2 := getD_lt (unhide HDN) (i + 1)
                obtain ⟨x, hx⟩ : ∃ x, x = N.getD i 0 := ⟨_, rfl⟩
                obtain ⟨y, hy⟩ : ∃ y, y = N.getD (i + 1) 0 := ⟨_, rfl⟩
                rw [← hx] at hda hgh l1
                rw [← hy] at hdb hgh l2
                obtain ⟨i1, hi1⟩ : ∃ i1 : Nat, i1 = i + 1 := ⟨_, rfl⟩
                rw [← hi1] at hdb
                obtain ⟨x4, hx4⟩ : ∃ z : Nat, z = x / 4 := ⟨_, rfl⟩
                obtain ⟨y4, hy4⟩ : ∃ z : Nat, z = y % 4 := ⟨_, rfl⟩
                obtain ⟨y6, hy6⟩ : ∃ z : Nat, z = y4 * 64 := ⟨_, rfl⟩
                obtain ⟨z, hz⟩ : ∃ z : Nat, z = x4 + y6 := ⟨_, rfl⟩
                have hjH : j < HW.length := by rw [unhide HLH]; exact hgo
                have hnx : HW.take (j + 1) = HW.take j ++ [z] := by
                  have e : HW[j] = HW.getD j 0 := by simp [List.getD, hjH]
                  rw [List.take_succ_eq_append_getElem hjH, e, hgh, hz, hy6, hx4, hy4]
                have n1 : Int.tdiv (x : Int) 4 = (x4 : Int) := by rw [Int.tdiv_eq_ediv_of_nonneg (by omega)]; omega
                have n2 : (x : Int) / 4 = (x4 : Int) := by omega
                have n3 : IntKind.i64.wrap (x4 : Int) = (x4 : Int) := by rw [IntKind.wrap_i64]; omega
                have n4 : IntKind.i64.wrap ((i : Int) + 1) = (i1 : Int) := by rw [IntKind.wrap_i64]; omega
                have n5 : (i : Int) + 1 = (i1 : Int) := by omega
                have n6 : Int.tmod (y : Int) 4 = (y4 : Int) := by rw [Int.tmod_eq_emod_of_nonneg (by omega)]; omega
                have n7 : (y : Int) % 4 = (y4 : Int) := by omega
                have n8 : (y4 : Int) * 64 = (y6 : Int) := by omega
                have n9 : IntKind.i64.wrap (y6 : Int) = (y6 : Int) := by rw [IntKind.wrap_i64]; omega
                have n10 : (x4 : Int) + (y6 : Int) = (z : Int) := by omega
                have n11 : IntKind.i64.wrap (z : Int) = (z : Int) := by rw [IntKind.wrap_i64]; omega
                have n12 : IntKind.i64.wrap (i1 : Int) = (i1 : Int) := by rw [IntKind.wrap_i64]; omega
                have HNX := hide hnx
                have HOWN := hide hown
                have HI1 := hide hi1
                have HIJ := hide hij
                clear hx hy hgh hnx hown hi1 hx4 hy4 hy6 hz hjH hij
                go_wp2_with fail
                refine hda.mono ?_
                rintro e _ ⟨rfl, rfl⟩
                clear hda
                go_wp2_with fail
                refine hdb.mono ?_
                rintro e w3 ⟨rfl, rfl⟩
                clear hdb
                go_wp2_with (at_builtin; refine wpList_append_own _ rfl _ _ 151 rfl X.heap.size 3 i0 (.int .i64 0) 1 8 Tryd.underlying151 hi hz0 hz1 hz2 rfl (by decide) _ _ _ rfl ((unhide HOWN).alloc _) ⟨w3.heap.size, 0, none⟩ 1 1 [.int .i64 (z : Int)] rfl rfl (fun t0 y0 h0 => by match t0, h0 with | 0, h0 => simp at h0; subst h0; simp [Addr.add]) (fun y0 h0 => by simp at h0; subst h0; rfl) (by unfold maxLen; omega) (by omega) (by first | omega | (simp; omega)) ?_)
                intro v4 w4 o4 g4 _
                have hg4 : X.grownBy w4 none := gb_trans (gb_alloc hg _) g4 (fun y e => Or.inl ((unhide HOWN).lt y e).1)
                clear g4
                go_wp2
                go_roundw
                case rel =>
                  refine ⟨j + 1, by omega, ?_, ?_, hg4⟩
                  · have h1 := unhide HI1
                    have h2 := unhide HIJ
                    rw [h1, h2, Nat.add_assoc]
                  · rw [unhide HNX, List.map_append, List.map_take]
                    exact o4
                case measure =>
                  have h1 := unhide HI1
                  simp [intOf]
                  omega
              · have c1 : ¬ (i : Int) < (L : Int) := by omega
                obtain rfl : j = L - 16 := by omega
                rw [List.take_of_length_le (by rw [unhide HLH]; exact Nat.le_refl _)] at hown
                have hlh := unhide HLH
                rw [← hlh] at hown
                obtain ⟨ho, hc, rfl, hIH⟩ := Ints.own hown
                have gv5 : wr.grownBy (wr.alloc (.cells #[.int .i64 5] 3)) none := gb_alloc (gb_refl _ _) _
                have hI5 : Ints (wr.alloc (.cells #[.int .i64 5] 3)) (some ⟨wr.heap.size, 0, none⟩) 1 [5] := Ints.blk (t := 3) (o := [5]) (Blk.new wr 3 [.int .i64 5]) (by unfold maxLen; decide)
                have htm := times_any (wr.alloc (.cells #[.int .i64 5] 3)) ho hc HW (hIH.kept gv5) (unhide HDH) (some ⟨wr.heap.size, 0, none⟩) 1 [5] hI5 (by decide) (by omega) (by decide)
                rw [show [5].length = 1 from rfl, show valN [5] = 5 from rfl, hlh] at htm
                rw [hlh]
                clear hown hij hlh
                go_wp2_with fail
                refine htm.mono ?_
                rintro e w5 ⟨v5, rfl, n5, g6⟩
                clear htm
                obtain ⟨to, tc, tl, rfl, hIT, vT, dT, lT⟩ := n5.open
                have hgX5 := gb_trans (gb_trans hg gv5 (fun _ e => by cases e)) g6 (fun _ e => by cases e)
                have had := add_any w5 (some ⟨g5, 0, none⟩) cap5 LW ((unhide HIL).kept hgX5) (unhide HDL) to tc tl hIT dT (by omega) (by omega)
                rw [vT, unhide HL17] at had
                clear hIT dT vT hIH hI5 n5
                go_wp2_with fail
                refine had.mono ?_
                rintro e w6 ⟨v6, rfl, n6, g7⟩
                clear had
                obtain ⟨no, nc, nl, rfl, hI6, v6, d6, l6⟩ := n6.open
                have hg6 : w.grownBy w6 none := gb_trans (gb_trans (gb_trans hgU gX (fun _ e => by cases e)) hgX5 (fun _ e => by cases e)) g7 (fun _ e => by cases e)
                have hval : valN nl = modI (kk + 1) v0 := by
                  have h1 := unhide HSP
                  rw [v6, modI, ← unhide HVN, modS, h1.1, h1.2, Nat.mul_comm]
                have hlen : nl.length + 14 * (kk + 1) ≤ 60 ∨ nl.length ≤ 18 := by
                  have := unhide HLL
                  omega
                have HI6 := hide hI6
                have HV6 := hide hval
                have HD6 := hide d6
                have HL6 := hide hlen
                clear hI6 hval d6 hlen v6 l6 n6 lT
                go_wp2
                go_roundw
                case rel => exact ⟨kk + 1, no, nc, nl, by omega, rfl, by go_num, unhide HI6, unhide HD6, unhide HV6, unhide HL6, hg6⟩
                case measure => simp [intOf]; omega
          · obtain rfl : L = i := by omega
            have hNt : N.take L = N := List.take_of_length_le (by rw [unhide HL]; exact Nat.le_refl _)
            obtain ⟨LW, hLW⟩ : ∃ LW, LW = lowD N := ⟨_, rfl⟩
            have hLN : LW = N := by rw [hLW]; unfold lowD; rw [if_neg (by rw [unhide HL]; exact h16)]
            rw [hNt, ← hLN] at hown
            have hl17 : LW.length = L := by rw [hLN]; exact unhide HL
            rw [← hl17] at hown
            obtain ⟨lo, lc, rfl, hIL⟩ := Ints.own hown
            obtain ⟨X, hX⟩ : ∃ X, X = X1 := ⟨_, rfl⟩
            rw [← hX] at hIL hg ⊢
            have gX := hg
            have c17 : ((L : Int) == 17) = false := by simp; omega
            have c18 : (L : Int) < 17 := by omega
            rw [hl17]
            have HLW := hide hLW
            have HL17 := hide hl17
            clear hown hX hLW hLN hNt hg him hgo hl17
            go_wp2
            have hsX := gX.size
            have hIN := (unhide HIN).kept gX
            have dLW : ∀ d ∈ LW, d < 256 := by rw [unhide HLW]; exact lowD_lt N (unhide HDN)
            have lLW : LW.length ≤ 17 := by
              rw [unhide HLW]; unfold lowD
              have := unhide HL
              split
              · simp; omega
              · omega
            have hdig := fun V (g : X.grownBy V none) i => digit_any V ao c N (hIN.kept g) i
            rw [unhide HL] at hdig
            obtain ⟨HW, hHW⟩ : ∃ H, H = highD N := ⟨_, rfl⟩
            have lHW : HW.length = L - 16 := by rw [hHW, highD, shiftD_length, List.length_drop, unhide HL]
            have dHW : ∀ d ∈ HW, d < 256 := by rw [hHW]; exact shiftD_lt _ (fun d hd => unhide HDN d (List.mem_of_mem_drop hd))
            have gHW : ∀ j, HW.getD j 0 = N.getD (16 + j) 0 / 4 + N.getD (16 + j + 1) 0 % 4 * 64 := fun j => by
              rw [hHW, highD, shiftD_get]
              simp [List.getD, Nat.add_assoc]
            have hsp := split130 N (unhide HDN)
            rw [← hHW, ← unhide HLW] at hsp
            have HIL := hide hIL
            have HSP := hide hsp
            have HDL := hide dLW
            have HDH := hide dHW
            have HGH := hide gHW
            have HLH := hide lHW
            have HINX := hide hIN
            clear hIL hsp dLW dHW gHW lHW hHW hIN
            go_loopw [5, 7] (fun hv iv' wr => ∃ j : Nat, j ≤ L - 16 ∧ iv' = .int .i64 ((16 + j : Nat) : Int) ∧ wr.ownsRow X.heap.size 3 1 hv j ((HW.take j).map iv) ∧ X.grownBy wr none) (fun _ iv' _ => L + 16 - (intOf iv').toNat)
            case atStart => exact ⟨0, Nat.zero_le _, rfl, World.ownsRow_nil _ _ _ _, gb_refl _ _⟩
            case round =>
              obtain ⟨j, hjm, rfl, hown, hg⟩ := hrel
              have hgs := hg.size
              obtain ⟨i, hij⟩ : ∃ i : Nat, i = 16 + j := ⟨_, rfl⟩
              rw [← hij]
              by_cases hgo : j < L - 16
              · exact absurd hgo (by omega)
              · have c1 : ¬ (i : Int) < (L : Int) := by omega
                obtain rfl : j = L - 16 := by omega
                rw [List.take_of_length_le (by rw [unhide HLH]; exact Nat.le_refl _)] at hown
                have hlh := unhide HLH
                rw [← hlh] at hown
                obtain ⟨ho, hc, rfl, hIH⟩ := Ints.own hown
                have gv5 : wr.grownBy (wr.alloc (.cells #[.int .i64 5] 3)) none := gb_alloc (gb_refl _ _) _
                have hI5 : Ints (wr.alloc (.cells #[.int .i64 5] 3)) (some ⟨wr.heap.size, 0, none⟩) 1 [5] := Ints.blk (t := 3) (o := [5]) (Blk.new wr 3 [.int .i64 5]) (by unfold maxLen; decide)
                have htm := times_any (wr.alloc (.cells #[.int .i64 5] 3)) ho hc HW (hIH.kept gv5) (unhide HDH) (some ⟨wr.heap.size, 0, none⟩) 1 [5] hI5 (by decide) (by omega) (by decide)
                rw [show [5].length = 1 from rfl, show valN [5] = 5 from rfl, hlh] at htm
                rw [hlh]
                clear hown hij hlh
                go_wp2_with fail
                refine htm.mono ?_
                rintro e w5 ⟨v5, rfl, n5, g6⟩
                clear htm
                obtain ⟨to, tc, tl, rfl, hIT, vT, dT, lT⟩ := n5.open
                have hgX5 := gb_trans (gb_trans hg gv5 (fun _ e => by cases e)) g6 (fun _ e => by cases e)
                have had := add_any w5 lo lc LW ((unhide HIL).kept hgX5) (unhide HDL) to tc tl hIT dT (by omega) (by omega)
                rw [vT, unhide HL17] at had
                clear hIT dT vT hIH hI5 n5
                go_wp2_with fail
                refine had.mono ?_
                rintro e w6 ⟨v6, rfl, n6, g7⟩
                clear had
                obtain ⟨no, nc, nl, rfl, hI6, v6, d6, l6⟩ := n6.open
                have hg6 : w.grownBy w6 none := gb_trans (gb_trans (gb_trans hgU gX (fun _ e => by cases e)) hgX5 (fun _ e => by cases e)) g7 (fun _ e => by cases e)
                have hval : valN nl = modI (kk + 1) v0 := by
                  have h1 := unhide HSP
                  rw [v6, modI, ← unhide HVN, modS, h1.1, h1.2, Nat.mul_comm]
                have hlen : nl.length + 14 * (kk + 1) ≤ 60 ∨ nl.length ≤ 18 := by
                  have := unhide HLL
                  omega
                have HI6 := hide hI6
                have HV6 := hide hval
                have HD6 := hide d6
                have HL6 := hide hlen
                clear hI6 hval d6 hlen v6 l6 n6 lT
                go_wp2
                go_roundw
                case rel => exact ⟨kk + 1, no, nc, nl, by omega, rfl, by go_num, unhide HI6, unhide HD6, unhide HV6, unhide HL6, hg6⟩
                case measure => simp [intOf]; omega
    · obtain rfl : kk = 8 := by omega
      rw [show ((8 : Nat) : Int) = 8 from rfl]
      have HVN := hide vN
      have hend := mod_end v0 (unhide HV)
      have hlow := modI_lt v0 (unhide HV) 6
      rw [show 6 + 2 = 8 from rfl] at hlow
      obtain ⟨v8, hv8⟩ : ∃ v8, v8 = modI 8 v0 := ⟨_, rfl⟩
      rw [← hv8] at hend hlow vN
      have hpe := pN_eq
      have HEND := hide hend
      have HLOW := hide hlow
      have HPE := hide hpe
      clear hend hlow HVN hv8 hpe HV
      go_wp2
      go_loopw [0, 8] (fun nv kv wr => ∃ (kk : Nat) (ao : Option Addr) (c : Nat) (N : List Nat), kk ≤ 1 ∧ nv = .slice ao N.length c ∧ kv = .int .i64 kk ∧ Ints wr ao c N ∧ (∀ d ∈ N, d < 256) ∧ ((kk = 0 ∧ valN N = v8) ∨ (kk = 1 ∧ valN N = v8 - pN ∧ pN ≤ v8)) ∧ N.length ≤ 18 ∧ w.grownBy wr none) (fun _ kv _ => 2 - (intOf kv).toNat)
      case atStart => exact ⟨0, ao, c, N, by omega, rfl, rfl, hIN, dN, Or.inl ⟨rfl, vN⟩, by omega, hgU⟩
      case round =>
        clear hIN dN vN lN hgU hkm hk8
        obtain ⟨kk, ao, c, N, hkm, rfl, rfl, hIN, dN, vN, lN, hgU⟩ := hrel
        have c2 : (kk : Int) < 2 := by omega
        have hpr := prime_any wr
        obtain ⟨L, hL⟩ : ∃ L, L = N.length := ⟨_, rfl⟩
        have HIN := hide hIN
        have HDN := hide dN
        have HVN := hide vN
        have HLL := hide lN
        have HL := hide hL.symm
        rw [← hL]
        clear hIN dN vN lN hL
        go_wp2_with fail
        refine hpr.mono ?_
        rintro e w2 ⟨v2, rfl, n2, g2⟩
        clear hpr
        obtain ⟨po, pc, pl, rfl, hIP, vP, dP, lP⟩ := n2.open
        have hbe := below_any w2 ao c N ((unhide HIN).kept g2) (unhide HDN) po pc pl hIP dP (by have := unhide HLL; omega) (by omega)
        rw [vP, unhide HL] at hbe
        have hg2 := gb_trans hgU g2 (fun _ e => by cases e)
        by_cases hfin : valN N < pN
        · rw [decide_eq_true hfin] at hbe
          have hres : valN N = v0 % pN := by
            have hv := unhide HVN
            have he := unhide HEND
            rcases hv with ⟨_, hv⟩ | ⟨_, hv, hv2⟩
            · rw [if_pos (by rw [← hv]; exact hfin)] at he
              rw [hv, he]
            · rw [if_neg (by omega)] at he
              rw [hv, he]
          have HRES := hide hres
          clear hIP vP dP lP n2 hres hfin
          go_wp2_with fail
          refine hbe.mono ?_
          rintro e w3 ⟨rfl, rfl⟩
          clear hbe
          go_wp2
          go_ret
          exact ⟨_, rfl, ⟨ao, c, N, by rw [unhide HL]; rfl, (unhide HIN).kept g2, unhide HRES, unhide HDN, unhide HLL⟩, hg2⟩
        · rw [decide_eq_false hfin] at hbe
          have hk0 : kk = 0 ∧ valN N = v8 := by
            have hl := unhide HLOW
            have hp := unhide HPE
            rcases unhide HVN with h | ⟨_, h2, h3⟩
            · exact h
            · omega
          obtain ⟨rfl, hv8⟩ := hk0
          have hN17 : 17 ≤ L := by
            rw [← unhide HL]
            rcases Nat.lt_or_ge N.length 17 with h | h
            · have h1 := valN_lt N (unhide HDN)
              have h2 : 256 ^ N.length ≤ (256 : Nat) ^ 16 := Nat.pow_le_pow_right (by omega) (by omega)
              have h3 : (256 : Nat) ^ 16 = 340282366920938463463374607431768211456 := by decide
              have hp := unhide HPE
              omega
            · exact h
          have HFIN := hide hfin
          have HV8 := hide hv8
          clear hIP vP dP lP n2 hfin hv8
          go_wp2_with fail
          refine hbe.mono ?_
          rintro e w3 ⟨rfl, rfl⟩
          clear hbe
          have hpr := prime_any w3
          go_wp2_with fail
          refine hpr.mono ?_
          rintro e w4 ⟨v4, rfl, n4, g4⟩
          clear hpr
          obtain ⟨po2, pc2, pl2, rfl, hIP, vP, dP, lP⟩ := n4.open
          have hfin := unhide HFIN
          have hle := less_any w4 ao c N (((unhide HIN).kept g2).kept g4) (unhide HDN) po2 pc2 pl2 hIP dP (by have := unhide HLL; omega) (by rw [vP]; omega) (by rw [unhide HL]; omega)
          rw [vP, unhide HL] at hle
          clear hIP vP dP lP n4 hfin
          go_wp2_with fail
          refine hle.mono ?_
          rintro e w5 ⟨v5, rfl, n5, g5⟩
          clear hle
          obtain ⟨no, nc, nl, rfl, hI6, v6, d6, l6⟩ := n5.open
          have hg5 := gb_trans (gb_trans hg2 g4 (fun _ e => by cases e)) g5 (fun _ e => by cases e)
          have hval : valN nl = v8 - pN ∧ pN ≤ v8 := by
            have h1 := unhide HFIN
            have h2 := unhide HV8
            rw [v6, h2]
            exact ⟨rfl, by omega⟩
          have hlen : nl.length ≤ 18 := by have := unhide HLL; have := unhide HL; omega
          have HI6 := hide hI6
          have HV6 := hide hval
          have HD6 := hide d6
          have HL6 := hide hlen
          clear hI6 hval d6 hlen v6 l6 n5
          go_wp2
          go_roundw
          case rel => exact ⟨1, no, nc, nl, by omega, rfl, by go_num, unhide HI6, unhide HD6, Or.inr ⟨rfl, (unhide HV6).1, (unhide HV6).2⟩, unhide HL6, hg5⟩
          case measure => simp [intOf]

end Go.Proofs.YtjckdgapefaokaaDoor
