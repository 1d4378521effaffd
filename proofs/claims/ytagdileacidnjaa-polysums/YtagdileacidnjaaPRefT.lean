/- What the document's answer for layer 5 reckons with digits: Times (package coffretref05). Of numbers of at most 100 digits. -/
import Derived.Test.YtagdileacidnjaaPRefC
import Derived.Deep.DrawnRows
namespace Go.Proofs.Ytagdileacidnjaa
open Go.RowKit

attribute [local go_sem ↓] Go.wp_at_zero Go.wp_at_succ

theorem valN_set (o : List Nat) : ∀ (i x : Nat) (h : i < o.length), valN (o.set i (o[i] + x)) = valN o + 256 ^ i * x := by
  induction o with
  | nil => intro i x h; simp at h
  | cons d r ih =>
    intro i x h
    cases i with
    | zero => simp [valN]; omega
    | succ i =>
      have := ih i x (by simpa using h)
      simp only [List.set_cons_succ, List.getElem_cons_succ, valN]
      rw [this, Nat.pow_succ, Nat.mul_add, Nat.mul_comm (256 ^ i) 256, Nat.mul_assoc]
      omega

theorem made_iv (n : Nat) : madeCells (Value.int .i64 0).cells n = ((List.replicate n (0 : Nat)).map iv).toArray := by
  apply Array.ext
  · simp [size_madeCells]
  · intro i h1 h2
    simp [madeCells, Value.cells, iv, Nat.mod_one]

theorem make_ints (W : World) (n : Nat) (h : n ≤ 1000) : (Instr.makeSlice 44 (.int .i64 (n : Int)) (.int .i64 (n : Int))).run Try.prog W = .ok (.slice (some ⟨W.heap.size, 0, none⟩) n n) (W.alloc (.cells ((List.replicate n (0 : Nat)).map iv).toArray 3)) := by
  obtain ⟨i0, hi, hz0, hz1, hz2⟩ := info_parts info_int
  rw [run_make W 44 3 i0 (.int .i64 0) Try.underlying44 hi hz0 .i64 .i64 n n (by omega) (by omega) (by rw [hz2]; omega) (by omega), hz1]
  simp only [Int.toNat_natCast, Nat.mul_one]
  rw [made_iv]

theorem Blk.iset {w : World} {b : Nat} {t : TypeId} {o : List Nat} (h : Blk w b t (o.map iv)) (i x : Nat) : Blk (w.setCell ⟨b, i, none⟩ (.int .i64 (x : Int))) b t ((o.set i x).map iv) := by
  have := h.set i (iv x)
  rw [← List.map_set] at this
  exact this
theorem Blk.int {w : World} {b : Nat} {t : TypeId} {o : List Nat} (h : Blk w b t (o.map iv)) (i : Nat) (hi : i < o.length) : w.cell? ⟨b, i, none⟩ = some (.int .i64 ((o[i] : Nat) : Int)) := by
  rw [h.cell, List.getElem?_map, List.getElem?_eq_getElem hi]
  rfl
theorem Ints.blk {w : World} {b : Nat} {t : TypeId} {o : List Nat} (h : Blk w b t (o.map iv)) (hm : o.length ≤ maxLen) : Ints w (some ⟨b, 0, none⟩) o.length o := by
  refine ⟨(fun e => by cases e), Nat.le_refl _, hm, (fun ad e _ => by cases e; rfl), (fun ad e i hi => ?_)⟩
  cases e
  rw [show (⟨b, 0, none⟩ : Addr).off + i = i from Nat.zero_add i]
  exact h.int i hi

theorem mem_set_le {o : List Nat} {B C i x : Nat} (h : ∀ d ∈ o, d ≤ B) (hx : x ≤ C) (hBC : B ≤ C) : ∀ d ∈ o.set i x, d ≤ C := by
  intro d hd
  rcases List.mem_or_eq_of_mem_set hd with h1 | h1
  · have := h d h1; omega
  · omega

set_option maxRecDepth 100000 in
set_option maxHeartbeats 2000000 in
theorem times_any (w : World) (ao : Option Addr) (ca : Nat) (a : List Nat) (ha : Ints w ao ca a) (da : ∀ d ∈ a, d < 256) (bo : Option Addr) (cb : Nat) (b : List Nat) (hb : Ints w bo cb b) (db : ∀ d ∈ b, d < 256) (la : a.length ≤ 100) (lb : b.length ≤ 100) :
    Calls Try.prog 20 #[.slice ao a.length ca, .slice bo b.length cb] w fun e w' => ∃ v, e = .returned v ∧ NumV w w' v (valN a * valN b) (a.length + b.length) ∧ w.grownBy w' none := by
  obtain ⟨p, hp⟩ : ∃ p, p = a.length := ⟨_, rfl⟩
  obtain ⟨q, hq⟩ : ∃ q, q = b.length := ⟨_, rfl⟩
  obtain ⟨n, hn⟩ : ∃ n, n = p + q := ⟨_, rfl⟩
  have hPV : valN a * valN b < 256 ^ n := by
    rw [hn, hp, hq, Nat.pow_add]
    exact Nat.mul_lt_mul'' (valN_lt a da) (valN_lt b db)
  have HPV := hide hPV
  clear hPV
  have hmk := fun W => make_ints W n (by omega)
  obtain ⟨Z, hZ⟩ : ∃ Z : Array Value, Z = ((List.replicate n (0 : Nat)).map iv).toArray := ⟨_, rfl⟩
  rw [← hZ] at hmk
  have a1 : (p : Int) + (q : Int) = (n : Int) := by omega
  have a2 : IntKind.i64.wrap (n : Int) = (n : Int) := by rw [IntKind.wrap_i64]; omega
  obtain ⟨W1, hW1⟩ : ∃ W1, W1 = w.alloc (.cells Z 3) := ⟨_, rfl⟩
  have hB1 : Blk W1 w.heap.size 3 ((List.replicate n 0).map iv) := by rw [hW1, hZ]; exact Blk.new w 3 _
  have hg1 : w.grownBy W1 none := by rw [hW1]; exact gb_alloc (gb_refl _ _) _
  rw [← hp] at la
  rw [← hq] at lb
  rw [← hp, ← hq]
  have HA := hide ha
  have HB := hide hb
  have HDA := hide da
  have HDB := hide db
  have HP := hide hp
  have HQ := hide hq
  have HN := hide hn
  have HZ := hide hZ
  have HW1 := hide hW1
  have HB1 := hide hB1
  clear ha hb da db hp hq hn hZ hW1 hB1
  go_enter Try.func20, Try.ntmps20
  go_wp2
  rw [← unhide HW1]
  go_loopw [6] (fun iv' wr => ∃ (i : Nat) (o : List Nat), i ≤ p ∧ iv' = .int .i64 i ∧ o.length = n ∧ Blk wr w.heap.size 3 (o.map iv) ∧ valN o = valN (a.take i) * valN b ∧ (∀ d ∈ o, d ≤ i * q * 65025) ∧ w.grownBy wr none) (fun iv' _ => p - (intOf iv').toNat)
  case atStart =>
    refine ⟨0, List.replicate n 0, Nat.zero_le _, rfl, List.length_replicate, unhide HB1, by rw [valN_zeros]; simp [valN], ?_, hg1⟩
    intro d hd
    have := List.eq_of_mem_replicate hd
    omega
  case round =>
    clear HB1 hg1 HW1
    obtain ⟨i, o, him, rfl, ho, hB, hval, hbd, hg⟩ := hrel
    by_cases hgo : i < p
    · have c1 : (i : Int) < (p : Int) := by omega
      have hia : i < a.length := by rw [← unhide HP]; exact hgo
      obtain ⟨ad, rfl⟩ : ∃ ad, ao = some ad := by
        cases ao with
        | none => have := (unhide HA).zip rfl; omega
        | some ad => exact ⟨ad, rfl⟩
      have has := (unhide HA).shape ad rfl (by omega)
      obtain ⟨ab, af, asp⟩ := ad
      simp only at has
      subst has
      have hca := (unhide HA).cell _ rfl i hia
      simp only at hca
      unfold iv at hca
      obtain ⟨x, hx⟩ : ∃ x, x = a[i] := ⟨_, rfl⟩
      rw [← hx] at hca
      have hx2 : x < 256 := by rw [hx]; exact unhide HDA _ (List.getElem_mem hia)
      have hta : valN (a.take (i + 1)) = valN (a.take i) + 256 ^ i * x := by rw [take_getD, hx, show a.getD i 0 = a[i] by simp [List.getD, hia]]
      have HTA := hide hta
      have HO0 := hide ho
      have HBB := hide hB
      have HVAL := hide hval
      have HBD := hide hbd
      clear hta ho hB hval hbd hx
      go_wp2
      go_loopw [7] (fun kv wr => ∃ (k : Nat) (o : List Nat), k ≤ q ∧ kv = .int .i64 k ∧ o.length = n ∧ Blk wr w.heap.size 3 (o.map iv) ∧ valN o = valN (a.take i) * valN b + 256 ^ i * x * valN (b.take k) ∧ (∀ d ∈ o, d ≤ (i * q + k) * 65025) ∧ w.grownBy wr none) (fun kv _ => q - (intOf kv).toNat)
      case atStart => exact ⟨0, o, Nat.zero_le _, rfl, unhide HO0, unhide HBB, by rw [unhide HVAL]; simp [valN], by rw [Nat.add_zero]; exact unhide HBD, hg⟩
      case round =>
        clear HO0 HBB HVAL HBD hg o
        obtain ⟨k, o, hkm, rfl, ho, hB, hval, hbd, hg⟩ := hrel
        by_cases hgk : k < q
        · have c2 : (k : Int) < (q : Int) := by omega
          have hkb : k < b.length := by rw [← unhide HQ]; exact hgk
          obtain ⟨bd, rfl⟩ : ∃ bd, bo = some bd := by
            cases bo with
            | none => have := (unhide HB).zip rfl; omega
            | some bd => exact ⟨bd, rfl⟩
          have hbs := (unhide HB).shape bd rfl (by omega)
          obtain ⟨bb, bf, bsp⟩ := bd
          simp only at hbs
          subst hbs
          have hcb := (unhide HB).cell _ rfl k hkb
          simp only at hcb
          unfold iv at hcb
          obtain ⟨y, hy⟩ : ∃ y, y = b[k] := ⟨_, rfl⟩
          rw [← hy] at hcb
          have hy2 : y < 256 := by rw [hy]; exact unhide HDB _ (List.getElem_mem hkb)
          have htb : valN (b.take (k + 1)) = valN (b.take k) + 256 ^ k * y := by rw [take_getD, hy, show b.getD k 0 = b[k] by simp [List.getD, hkb]]
          obtain ⟨s, hs⟩ : ∃ s, s = i + k := ⟨_, rfl⟩
          have hso : s < o.length := by rw [ho]; have := unhide HN; omega
          obtain ⟨u, hu⟩ : ∃ u, u = o[s] := ⟨_, rfl⟩
          have hcu := hB.int s hso
          rw [← hu] at hcu
          have hub : u ≤ (i * q + k) * 65025 := by rw [hu]; exact hbd _ (List.getElem_mem hso)
          have hiq : i * q ≤ 100 * 100 := Nat.mul_le_mul (by omega) (by omega)
          obtain ⟨m, hm⟩ : ∃ m, m = x * y := ⟨_, rfl⟩
          have hm2 : m ≤ 255 * 255 := by rw [hm]; exact Nat.mul_le_mul (by omega) (by omega)
          obtain ⟨t, ht⟩ : ∃ t, t = u + m := ⟨_, rfl⟩
          have hnv : valN (o.set s t) = valN (a.take i) * valN b + 256 ^ i * x * valN (b.take (k + 1)) := by
            rw [ht, hu, valN_set o s m hso, hval, htb, hm, hs, Nat.mul_add, Nat.add_assoc, Nat.pow_add]
            congr 1
            congr 1
            rw [Nat.mul_assoc, Nat.mul_assoc, Nat.mul_left_comm x]
          have hnd : ∀ d ∈ o.set s t, d ≤ (i * q + (k + 1)) * 65025 := mem_set_le hbd (by rw [ht]; omega) (by omega)
          have n1 : (i : Int) + (k : Int) = (s : Int) := by omega
          have n2 : IntKind.i64.wrap (s : Int) = (s : Int) := by rw [IntKind.wrap_i64]; omega
          have n3 : (x : Int) * (y : Int) = (m : Int) := by rw [hm]; exact (Int.natCast_mul x y).symm
          have n4 : IntKind.i64.wrap (m : Int) = (m : Int) := by rw [IntKind.wrap_i64]; omega
          have n5 : (u : Int) + (m : Int) = (t : Int) := by omega
          have n6 : IntKind.i64.wrap (t : Int) = (t : Int) := by rw [IntKind.wrap_i64]; omega
          have q0 : (0 : Int) ≤ (i : Int) := by omega
          have q1 : (0 : Int) ≤ (k : Int) := by omega
          have q2 : (0 : Int) ≤ (s : Int) := by omega
          have q3 : (s : Int) < (n : Int) := by omega
          have hal := World.block_lt_of_cell? w _ hca
          have hbl := World.block_lt_of_cell? w _ hcb
          have cA : wr.drew.cell? ⟨ab, af + i, none⟩ = some (.int .i64 (x : Int)) := hg.cell hca (by simp)
          have cB : wr.drew.cell? ⟨bb, bf + k, none⟩ = some (.int .i64 (y : Int)) := hg.cell hcb (by simp)
          simp only at hal hbl
          have hS0 : wr.drew.cell? ⟨ab, af + i, none⟩ = some (.int .i64 (x : Int)) ∧ wr.drew.cell? ⟨bb, bf + k, none⟩ = some (.int .i64 (y : Int)) := ⟨cA, cB⟩
          have hS1 : (wr.setCell ⟨w.heap.size, s, none⟩ (.int .i64 (t : Int))).drew.cell? ⟨ab, af + i, none⟩ = some (.int .i64 (x : Int)) ∧ (wr.setCell ⟨w.heap.size, s, none⟩ (.int .i64 (t : Int))).drew.cell? ⟨bb, bf + k, none⟩ = some (.int .i64 (y : Int)) := by
            constructor
            · rw [World.cell?_drew, World.cell?_setCell_other _ _ _ _ (by intro e; injection e with e1; omega)]; exact cA
            · rw [World.cell?_drew, World.cell?_setCell_other _ _ _ _ (by intro e; injection e with e1; omega)]; exact cB
          have hcu2 : wr.drew.cell? ⟨w.heap.size, s, none⟩ = some (.int .i64 (u : Int)) := hcu
          have hfz : wr.drew.frozen? ⟨w.heap.size, s, none⟩ = false := hB.fz s
          have hB2 : Blk (wr.setCell ⟨w.heap.size, s, none⟩ (.int .i64 (t : Int))).drew w.heap.size 3 ((o.set s t).map iv) := (hB.iset s t).drew
          have hg2 : w.grownBy (wr.setCell ⟨w.heap.size, s, none⟩ (.int .i64 (t : Int))).drew none := gb_drew (gb_setCell hg _ _ (Or.inl (Nat.le_refl _)))
          have hol : (o.set s t).length = n := by rw [List.length_set, ho]
          have HNV := hide hnv
          have HND := hide hnd
          have HB2 := hide hB2
          have HG2 := hide hg2
          have HOL := hide hol
          clear hnv hnd hB2 hg2 hol ho hB hval hbd hs hu hm ht htb hy cA cB hcu hca hcb hso hub hiq
          go_wp2
          refine wp_region_noPanic ?_
          refine wp_region_held_drew (S := fun V => V.cell? ⟨ab, af + i, none⟩ = some (.int .i64 (x : Int)) ∧ V.cell? ⟨bb, bf + k, none⟩ = some (.int .i64 (y : Int))) (by kernel_rfl) hS0 (fun _ => ?_)
          refine wpAnyH_take (i := 0) (oi := { dst := some 26, op := Op.move (Operand.tmp 5), type := _, pos := _, after := _, guard := _ }) (v := .slice (some ⟨w.heap.size, 0, none⟩) n n) rfl (by kernel_rfl) (by kernel_rfl) (by kernel_rfl) (fun _ _ _ h => h) (Or.inl ⟨by rfl, fun V (hV : V.cell? ⟨ab, af + i, none⟩ = some (.int .i64 (x : Int)) ∧ V.cell? ⟨bb, bf + k, none⟩ = some (.int .i64 (y : Int))) => by go_simp⟩) hS0 ?_
          (try simp only [Act.put, List.setIfInBounds_toArray, List.set_cons_zero, List.set_cons_succ])
          refine wpAnyH_take (i := 1) (oi := { dst := some 27, op := Op.move (Operand.tmp 6), type := _, pos := _, after := _, guard := _ }) (v := .int .i64 (i : Int)) rfl (by kernel_rfl) (by kernel_rfl) (by kernel_rfl) (fun _ _ _ h => h) (Or.inl ⟨by rfl, fun V (hV : V.cell? ⟨ab, af + i, none⟩ = some (.int .i64 (x : Int)) ∧ V.cell? ⟨bb, bf + k, none⟩ = some (.int .i64 (y : Int))) => by go_simp⟩) hS0 ?_
          (try simp only [Act.put, List.setIfInBounds_toArray, List.set_cons_zero, List.set_cons_succ])
          refine wpAnyH_take (i := 2) (oi := { dst := some 28, op := Op.move (Operand.tmp 7), type := _, pos := _, after := _, guard := _ }) (v := .int .i64 (k : Int)) rfl (by kernel_rfl) (by kernel_rfl) (by kernel_rfl) (fun _ _ _ h => h) (Or.inl ⟨by rfl, fun V (hV : V.cell? ⟨ab, af + i, none⟩ = some (.int .i64 (x : Int)) ∧ V.cell? ⟨bb, bf + k, none⟩ = some (.int .i64 (y : Int))) => by go_simp⟩) hS0 ?_
          (try simp only [Act.put, List.setIfInBounds_toArray, List.set_cons_zero, List.set_cons_succ])
          refine wpAnyH_take (i := 3) (oi := { dst := some 29, op := Op.binOp BinOp.add 3 (Operand.tmp 27) (Operand.tmp 28) 3, type := _, pos := _, after := _, guard := _ }) (v := .int .i64 (s : Int)) rfl (by kernel_rfl) (by kernel_rfl) (by kernel_rfl) (fun _ _ _ h => h) (Or.inl ⟨by rfl, fun V (hV : V.cell? ⟨ab, af + i, none⟩ = some (.int .i64 (x : Int)) ∧ V.cell? ⟨bb, bf + k, none⟩ = some (.int .i64 (y : Int))) => by go_simp⟩) hS0 ?_
          (try simp only [Act.put, List.setIfInBounds_toArray, List.set_cons_zero, List.set_cons_succ])
          refine wpAnyH_take (i := 4) (oi := { dst := some 30, op := Op.move (Operand.tmp 5), type := _, pos := _, after := _, guard := _ }) (v := .slice (some ⟨w.heap.size, 0, none⟩) n n) rfl (by kernel_rfl) (by kernel_rfl) (by kernel_rfl) (fun _ _ _ h => h) (Or.inl ⟨by rfl, fun V (hV : V.cell? ⟨ab, af + i, none⟩ = some (.int .i64 (x : Int)) ∧ V.cell? ⟨bb, bf + k, none⟩ = some (.int .i64 (y : Int))) => by go_simp⟩) hS0 ?_
          (try simp only [Act.put, List.setIfInBounds_toArray, List.set_cons_zero, List.set_cons_succ])
          refine wpAnyH_take (i := 5) (oi := { dst := some 31, op := Op.move (Operand.tmp 6), type := _, pos := _, after := _, guard := _ }) (v := .int .i64 (i : Int)) rfl (by kernel_rfl) (by kernel_rfl) (by kernel_rfl) (fun _ _ _ h => h) (Or.inl ⟨by rfl, fun V (hV : V.cell? ⟨ab, af + i, none⟩ = some (.int .i64 (x : Int)) ∧ V.cell? ⟨bb, bf + k, none⟩ = some (.int .i64 (y : Int))) => by go_simp⟩) hS0 ?_
          (try simp only [Act.put, List.setIfInBounds_toArray, List.set_cons_zero, List.set_cons_succ])
          refine wpAnyH_take (i := 6) (oi := { dst := some 32, op := Op.move (Operand.tmp 7), type := _, pos := _, after := _, guard := _ }) (v := .int .i64 (k : Int)) rfl (by kernel_rfl) (by kernel_rfl) (by kernel_rfl) (fun _ _ _ h => h) (Or.inl ⟨by rfl, fun V (hV : V.cell? ⟨ab, af + i, none⟩ = some (.int .i64 (x : Int)) ∧ V.cell? ⟨bb, bf + k, none⟩ = some (.int .i64 (y : Int))) => by go_simp⟩) hS0 ?_
          (try simp only [Act.put, List.setIfInBounds_toArray, List.set_cons_zero, List.set_cons_succ])
          refine wpAnyH_take (i := 7) (oi := { dst := some 33, op := Op.binOp BinOp.add 3 (Operand.tmp 31) (Operand.tmp 32) 3, type := _, pos := _, after := _, guard := _ }) (v := .int .i64 (s : Int)) rfl (by kernel_rfl) (by kernel_rfl) (by kernel_rfl) (fun _ _ _ h => h) (Or.inl ⟨by rfl, fun V (hV : V.cell? ⟨ab, af + i, none⟩ = some (.int .i64 (x : Int)) ∧ V.cell? ⟨bb, bf + k, none⟩ = some (.int .i64 (y : Int))) => by go_simp⟩) hS0 ?_
          (try simp only [Act.put, List.setIfInBounds_toArray, List.set_cons_zero, List.set_cons_succ])
          refine wpAnyH_take (i := 8) (oi := { dst := some 34, op := Op.indexAddr 44 (Operand.tmp 30) (Operand.tmp 33), type := _, pos := _, after := _, guard := _ }) (v := .pointer (some ⟨w.heap.size, s, none⟩)) rfl (by kernel_rfl) (by kernel_rfl) (by kernel_rfl) (fun _ _ _ h => h) (Or.inl ⟨by rfl, fun V (hV : V.cell? ⟨ab, af + i, none⟩ = some (.int .i64 (x : Int)) ∧ V.cell? ⟨bb, bf + k, none⟩ = some (.int .i64 (y : Int))) => by go_simp⟩) hS0 ?_
          (try simp only [Act.put, List.setIfInBounds_toArray, List.set_cons_zero, List.set_cons_succ])
          refine wpAnyH_take (i := 10) (oi := { dst := some 36, op := Op.move (Operand.tmp 0), type := _, pos := _, after := _, guard := _ }) (v := .slice (some ⟨ab, af, none⟩) p ca) rfl (by kernel_rfl) (by kernel_rfl) (by kernel_rfl) (fun _ _ _ h => h) (Or.inl ⟨by rfl, fun V (hV : V.cell? ⟨ab, af + i, none⟩ = some (.int .i64 (x : Int)) ∧ V.cell? ⟨bb, bf + k, none⟩ = some (.int .i64 (y : Int))) => by go_simp⟩) hS0 ?_
          (try simp only [Act.put, List.setIfInBounds_toArray, List.set_cons_zero, List.set_cons_succ])
          refine wpAnyH_take (i := 11) (oi := { dst := some 37, op := Op.move (Operand.tmp 6), type := _, pos := _, after := _, guard := _ }) (v := .int .i64 (i : Int)) rfl (by kernel_rfl) (by kernel_rfl) (by kernel_rfl) (fun _ _ _ h => h) (Or.inl ⟨by rfl, fun V (hV : V.cell? ⟨ab, af + i, none⟩ = some (.int .i64 (x : Int)) ∧ V.cell? ⟨bb, bf + k, none⟩ = some (.int .i64 (y : Int))) => by go_simp⟩) hS0 ?_
          (try simp only [Act.put, List.setIfInBounds_toArray, List.set_cons_zero, List.set_cons_succ])
          refine wpAnyH_take (i := 12) (oi := { dst := some 38, op := Op.indexAddr 44 (Operand.tmp 36) (Operand.tmp 37), type := _, pos := _, after := _, guard := _ }) (v := .pointer (some ⟨ab, af + i, none⟩)) rfl (by kernel_rfl) (by kernel_rfl) (by kernel_rfl) (fun _ _ _ h => h) (Or.inl ⟨by rfl, fun V (hV : V.cell? ⟨ab, af + i, none⟩ = some (.int .i64 (x : Int)) ∧ V.cell? ⟨bb, bf + k, none⟩ = some (.int .i64 (y : Int))) => by go_simp⟩) hS0 ?_
          (try simp only [Act.put, List.setIfInBounds_toArray, List.set_cons_zero, List.set_cons_succ])
          refine wpAnyH_take (i := 13) (oi := { dst := some 39, op := Op.load 3 (Operand.tmp 38), type := _, pos := _, after := _, guard := _ }) (v := .int .i64 (x : Int)) rfl (by kernel_rfl) (by kernel_rfl) (by kernel_rfl) (fun _ _ _ h => h) (Or.inl ⟨by rfl, fun V (hV : V.cell? ⟨ab, af + i, none⟩ = some (.int .i64 (x : Int)) ∧ V.cell? ⟨bb, bf + k, none⟩ = some (.int .i64 (y : Int))) => by (have hv1 := hV.1; have hv2 := hV.2; go_simp)⟩) hS0 ?_
          (try simp only [Act.put, List.setIfInBounds_toArray, List.set_cons_zero, List.set_cons_succ])
          refine wpAnyH_take (i := 14) (oi := { dst := some 40, op := Op.move (Operand.tmp 1), type := _, pos := _, after := _, guard := _ }) (v := .slice (some ⟨bb, bf, none⟩) q cb) rfl (by kernel_rfl) (by kernel_rfl) (by kernel_rfl) (fun _ _ _ h => h) (Or.inl ⟨by rfl, fun V (hV : V.cell? ⟨ab, af + i, none⟩ = some (.int .i64 (x : Int)) ∧ V.cell? ⟨bb, bf + k, none⟩ = some (.int .i64 (y : Int))) => by go_simp⟩) hS0 ?_
          (try simp only [Act.put, List.setIfInBounds_toArray, List.set_cons_zero, List.set_cons_succ])
          refine wpAnyH_take (i := 15) (oi := { dst := some 41, op := Op.move (Operand.tmp 7), type := _, pos := _, after := _, guard := _ }) (v := .int .i64 (k : Int)) rfl (by kernel_rfl) (by kernel_rfl) (by kernel_rfl) (fun _ _ _ h => h) (Or.inl ⟨by rfl, fun V (hV : V.cell? ⟨ab, af + i, none⟩ = some (.int .i64 (x : Int)) ∧ V.cell? ⟨bb, bf + k, none⟩ = some (.int .i64 (y : Int))) => by go_simp⟩) hS0 ?_
          (try simp only [Act.put, List.setIfInBounds_toArray, List.set_cons_zero, List.set_cons_succ])
          refine wpAnyH_take (i := 16) (oi := { dst := some 42, op := Op.indexAddr 44 (Operand.tmp 40) (Operand.tmp 41), type := _, pos := _, after := _, guard := _ }) (v := .pointer (some ⟨bb, bf + k, none⟩)) rfl (by kernel_rfl) (by kernel_rfl) (by kernel_rfl) (fun _ _ _ h => h) (Or.inl ⟨by rfl, fun V (hV : V.cell? ⟨ab, af + i, none⟩ = some (.int .i64 (x : Int)) ∧ V.cell? ⟨bb, bf + k, none⟩ = some (.int .i64 (y : Int))) => by go_simp⟩) hS0 ?_
          (try simp only [Act.put, List.setIfInBounds_toArray, List.set_cons_zero, List.set_cons_succ])
          refine wpAnyH_take (i := 17) (oi := { dst := some 43, op := Op.load 3 (Operand.tmp 42), type := _, pos := _, after := _, guard := _ }) (v := .int .i64 (y : Int)) rfl (by kernel_rfl) (by kernel_rfl) (by kernel_rfl) (fun _ _ _ h => h) (Or.inl ⟨by rfl, fun V (hV : V.cell? ⟨ab, af + i, none⟩ = some (.int .i64 (x : Int)) ∧ V.cell? ⟨bb, bf + k, none⟩ = some (.int .i64 (y : Int))) => by (have hv1 := hV.1; have hv2 := hV.2; go_simp)⟩) hS0 ?_
          (try simp only [Act.put, List.setIfInBounds_toArray, List.set_cons_zero, List.set_cons_succ])
          refine wpAnyH_take (i := 18) (oi := { dst := some 44, op := Op.binOp BinOp.mul 3 (Operand.tmp 39) (Operand.tmp 43) 3, type := _, pos := _, after := _, guard := _ }) (v := .int .i64 (m : Int)) rfl (by kernel_rfl) (by kernel_rfl) (by kernel_rfl) (fun _ _ _ h => h) (Or.inl ⟨by rfl, fun V (hV : V.cell? ⟨ab, af + i, none⟩ = some (.int .i64 (x : Int)) ∧ V.cell? ⟨bb, bf + k, none⟩ = some (.int .i64 (y : Int))) => by go_simp⟩) hS0 ?_
          (try simp only [Act.put, List.setIfInBounds_toArray, List.set_cons_zero, List.set_cons_succ])
          refine wpAnyH_ready (rs := [9]) (by kernel_rfl) (by simp) ?_
          refine AllReadyH.cons (o := { dst := some 35, op := Op.load 3 (Operand.tmp 34), type := _, pos := _, after := _, guard := _ }) rfl (fun K9 hK9 => ?_) AllReadyH.nil
          go_simp
          refine hK9.out _ _ hS0 (fun _ => ?_)
          clear hK9 K9
          (try simp only [Act.put, List.setIfInBounds_toArray, List.set_cons_zero, List.set_cons_succ])
          refine wpAnyH_take (i := 19) (oi := { dst := some 45, op := Op.binOp BinOp.add 3 (Operand.tmp 35) (Operand.tmp 44) 3, type := _, pos := _, after := _, guard := _ }) (v := .int .i64 (t : Int)) rfl (by kernel_rfl) (by kernel_rfl) (by kernel_rfl) (fun _ _ _ h => h) (Or.inl ⟨by rfl, fun V (hV : V.cell? ⟨ab, af + i, none⟩ = some (.int .i64 (x : Int)) ∧ V.cell? ⟨bb, bf + k, none⟩ = some (.int .i64 (y : Int))) => by go_simp⟩) hS0 ?_
          (try simp only [Act.put, List.setIfInBounds_toArray, List.set_cons_zero, List.set_cons_succ])
          refine wpAnyH_take (i := 20) (oi := { dst := some 46, op := Op.indexAddr 44 (Operand.tmp 26) (Operand.tmp 29), type := _, pos := _, after := _, guard := _ }) (v := .pointer (some ⟨w.heap.size, s, none⟩)) rfl (by kernel_rfl) (by kernel_rfl) (by kernel_rfl) (fun _ _ _ h => h) (Or.inl ⟨by rfl, fun V (hV : V.cell? ⟨ab, af + i, none⟩ = some (.int .i64 (x : Int)) ∧ V.cell? ⟨bb, bf + k, none⟩ = some (.int .i64 (y : Int))) => by go_simp⟩) hS0 ?_
          (try simp only [Act.put, List.setIfInBounds_toArray, List.set_cons_zero, List.set_cons_succ])
          refine wpAnyH_ready (rs := [21]) (by kernel_rfl) (by simp) ?_
          refine AllReadyH.cons (o := { dst := none, op := Op.store 3 (Operand.tmp 46) (Operand.tmp 45), type := _, pos := _, after := _, guard := _ }) rfl (fun K9 hK9 => ?_) AllReadyH.nil
          go_simp
          refine hK9.out _ _ hS1 (fun _ => ?_)
          clear hK9 K9
          (try simp only [Act.put, List.setIfInBounds_toArray, List.set_cons_zero, List.set_cons_succ])
          refine wpAnyH_done (by kernel_rfl) ?_ _
          refine NoPanic.normal ?_
          go_wp2
          go_roundw
          case rel => exact ⟨k + 1, o.set s t, by omega, by go_num, unhide HOL, unhide HB2, unhide HNV, unhide HND, unhide HG2⟩
          case measure => simp [intOf]; omega
        · have c2 : ¬ (k : Int) < (q : Int) := by omega
          obtain rfl : k = q := by omega
          have hbt : b.take k = b := List.take_of_length_le (by rw [unhide HQ]; exact Nat.le_refl _)
          rw [hbt, ← Nat.add_mul, ← unhide HTA] at hval
          have hbd2 : ∀ d ∈ o, d ≤ (i + 1) * k * 65025 := fun d hd => by
            have := hbd d hd
            rw [Nat.add_mul, Nat.one_mul]
            exact this
          have HB2 := hide hB
          have HV2 := hide hval
          have HBD2 := hide hbd2
          have HOL := hide ho
          clear hB hval hbd hbd2 ho hbt
          go_wp2
          go_roundw
          case rel => exact ⟨i + 1, o, by omega, by go_num, unhide HOL, unhide HB2, unhide HV2, unhide HBD2, hg⟩
          case measure => simp [intOf]; omega
    · have c1 : ¬ (i : Int) < (p : Int) := by omega
      obtain rfl : i = p := by omega
      rw [List.take_of_length_le (by rw [unhide HP]; exact Nat.le_refl _)] at hval
      have hca := carried_any wr (some ⟨w.heap.size, 0, none⟩) o.length o (Ints.blk hB (by rw [ho]; unfold maxLen; omega)) (fun d hd => by
        have h1 := hbd d hd
        have h2 : i * q ≤ 100 * 100 := Nat.mul_le_mul (by omega) (by omega)
        omega) (by rw [ho]; omega) n (by omega) (by rw [hval]; exact unhide HPV)
      rw [hval, ho] at hca
      have hgs := hg.size
      have hnn := unhide HN
      have HNN := hide hnn
      clear hB hval hbd ho hnn
      go_wp2_with fail
      refine hca.mono ?_
      rintro e w2 ⟨v2, rfl, n2, g2⟩
      clear hca
      rw [unhide HNN] at n2
      go_wp2
      go_ret
      exact ⟨_, rfl, n2.mono hgs, gb_trans hg g2 (fun _ e => by cases e)⟩

end Go.Proofs.Ytagdileacidnjaa
