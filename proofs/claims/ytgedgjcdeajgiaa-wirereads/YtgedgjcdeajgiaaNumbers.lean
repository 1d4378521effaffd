/- WireNumbers answers true of any number, length and bytes, and nothing that was in memory has changed. -/
import Derived.Test.YtgedgjcdeajgiaaOne
import Derived.Laws.BitsAllLaws
namespace Go.Proofs.Ytgedgjcdeajgiaa
open Go.RowKit

/-- 'append(own, x...)', own a row of bytes of the call's own, x bytes wherever they lie, or none. -/
theorem wpList_append_bts {w : World} {ops : Array Oper} {rest : List Oper} {o : Oper} {a : Act} {Q : Exit → Act → World → Prop} (hgd : o.guard = none) (s x : Operand)
    (ho : o.op = .call { callee := .builtin .append, args := #[s, x], argTypes := #[22, 22] })
    (base : Nat) (v : Value) (n : Nat) (xs : List Value) (hs : a.eval s = v) (hown : w.ownsRow base 5 1 v n xs)
    (ao : Option Addr) (c : Nat) (l : List UInt8) (hb : Bts w ao c l) (hx : a.eval x = .slice ao l.length c) (hn : n + l.length ≤ 140737488355328) (hbase : base ≤ w.heap.size)
    (h : ∀ v' w', w'.ownsRow base 5 1 v' (n + l.length) (xs ++ l.map bv) → w.grownBy w' v.ownBlock → wpList Try.prog ops Q rest (a.put o.dst v') w') : wpList Try.prog ops Q (o :: rest) a w := by
  obtain ⟨i0, hi, hz0, hz1, hz2⟩ := info_parts info_byte
  cases ao with
  | none =>
    have hz := hb.zip rfl
    have hx0 : l = [] := List.eq_nil_of_length_eq_zero hz.1
    have hc0 := hz.2
    subst hx0 hc0
    exact wpList_append_own_none hgd s x 22 ho base 5 i0 1 Try.underlying22 hi v n xs hs hown hx (h v w (by simpa using hown) (gb_refl _ _))
  | some ad =>
    exact wpList_append_own w hgd s x 22 ho base 5 i0 (.int .u8 0) 1 1 Try.underlying22 hi hz0 hz1 hz2 rfl (by decide) v n xs hs hown ad l.length c (l.map bv) hx (by simp) (hb.news ad rfl) (bv_one l) (by unfold maxLen; omega) (by omega) hbase (fun v' w' q1 q2 _ => h v' w' q1 q2)

theorem be_app (x : List UInt8) (a : Nat) : x.foldl (fun a y => a * 256 + y.toNat) a = a * 256 ^ x.length + be x := by
  induction x generalizing a with
  | nil => simp [be]
  | cons y x ih =>
    unfold be
    rw [List.foldl_cons, List.foldl_cons, ih, ih (0 * 256 + y.toNat), List.length_cons, Nat.pow_succ]
    rw [Nat.add_mul, Nat.mul_assoc, Nat.mul_comm 256, Nat.zero_mul, Nat.zero_add, Nat.add_assoc]

theorem lb_succ (v n : Nat) : lb v (n + 1) = lb (v / 256) n ++ [UInt8.ofNat v] := by
  unfold lb
  rw [List.range_succ, List.map_append]
  congr 1
  · apply List.map_congr_left
    intro i hi
    have hi := List.mem_range.1 hi
    rw [show n + 1 - 1 - i = (n - 1 - i) + 1 from by omega, Nat.pow_succ, Nat.mul_comm, Nat.div_div_eq_div_mul]
  · simp

theorem be_lb (n : Nat) : ∀ v, be (lb v n) = v % 256 ^ n := by
  induction n with
  | zero => intro v; simp [lb, be, Nat.mod_one]
  | succ n ih =>
    intro v
    rw [lb_succ, be_snoc, ih, UInt8.toNat_ofNat', show (256 : Nat) ^ (n + 1) = 256 * 256 ^ n from by rw [Nat.pow_succ, Nat.mul_comm], Nat.mod_mul]
    omega

theorem and7 (a : Int) : ∃ j : Nat, j ≤ 7 ∧ bits .and .i64 a 7 = (j : Int) := by
  have h : bits .and .i64 a 7 = a % 8 := by
    have h7 : (BitVec.ofInt 64 7).toNat = 2 ^ 3 - 1 := by decide
    have key : (BitVec.ofInt 64 a &&& BitVec.ofInt 64 7).toNat = (a % ((2 ^ 64 : Nat) : Int)).toNat % 2 ^ 3 := by
      rw [BitVec.toNat_and, BitVec.toNat_ofInt, h7, Nat.and_two_pow_sub_one_eq_mod]
    show IntKind.i64.wrap ((BitVec.ofInt 64 a &&& BitVec.ofInt 64 7).toNat : Nat) = a % 8
    rw [key, IntKind.wrap_i64]
    omega
  exact ⟨(a % 8).toNat, by omega, by rw [h]; omega⟩

set_option maxRecDepth 100000 in
set_option maxHeartbeats 1000000 in
theorem numbers_any (w : World) (v : Nat) (n : Int) (ao : Option Addr) (c : Nat) (more : List UInt8) (hv : v < 18446744073709551616) (hb : Bts w ao c more) :
    Calls Try.prog 7 #[.int .u64 v, .int .i64 n, .slice ao more.length c] w fun e w' => e = .returned (.bool true) ∧ w.grownBy w' none := by
  obtain ⟨j, hj, hand⟩ := and7 n
  have hmost := hb.most
  have hfit := hb.fits
  unfold maxLen at hmost
  by_cases hbig : 1000 < more.length
  · go_enter Try.func7, Try.ntmps7
    go_wp2
    go_ret
    exact ⟨rfl, gb_refl _ _⟩
  have hnb : nb (1 + (j : Int)) = j + 1 := by unfold nb; omega
  have hput := put_any w none 0 [] v (1 + (j : Int)) (Bts.nil w) (by simp)
  rw [hnb, List.nil_append] at hput
  have hbe := be_lb (j + 1) v
  have hlen := lb_len v (j + 1)
  generalize lb v (j + 1) = xs at *
  have HN := hide hnb
  have HB := hide hbe
  have HL := hide hlen
  have hne : ((xs.length : Int) != 1 + (j : Int)) = false := by rw [bne_eq_false_iff_eq]; omega
  have hx9 : xs.length ≤ 8 := by omega
  have hx1 : 1 ≤ xs.length := by omega
  clear hnb hbe hlen
  by_cases hj7 : j < 7
  · obtain ⟨M, hM⟩ : ∃ M, M = 256 ^ (j + 1) := ⟨_, rfl⟩
    have hM0 : 1 ≤ M := by rw [hM]; exact Nat.pow_pos (by omega)
    have hM7 : M ≤ 72057594037927936 := by rw [hM]; exact Nat.le_trans (Nat.pow_le_pow_right (by omega) (show j + 1 ≤ 7 by omega)) (by decide)
    have hwr : IntKind.u64.wrap (2 ^ (8 * (1 + j))) = (M : Int) := by
      have e2 : ((2 : Int) ^ (8 * (1 + j))) = (M : Int) := by
        rw [hM, Nat.add_comm 1 j, show (256 : Nat) = 2 ^ 8 from rfl, ← Nat.pow_mul]
        push_cast
        rfl
      rw [e2, IntKind.wrap_u64]
      omega
    have heq : (((be xs : Nat) : Int) == (v : Int) % (M : Int)) = true := by
      rw [beq_iff_eq, unhide HB, hM]
      push_cast
      rfl
    clear hM
    go_enter Try.func7, Try.ntmps7
    go_wp2_with fail
    refine hput.mono ?_
    rintro e w1 ⟨v1, rfl, ⟨bo, d, rfl, hb1, ht1⟩, g1⟩
    clear hput
    have ga1 := World.grownBy_alloc w1 (.cells #[] 5) none
    have hb1a : Bts (w1.alloc (.cells #[] 5)) bo d xs := hb1.kept ga1 (fun _ e => by cases e)
    have o1 : (w1.alloc (.cells #[] 5)).ownsRow w1.heap.size 5 1 (.slice (some ⟨w1.heap.size, 0, none⟩) 0 0) 0 [] := World.ownsRow_made w1 #[] 0 (Nat.le_refl _) (by unfold maxLen; omega) rfl
    go_wp2_with (at_builtin; refine wpList_append_bts rfl _ _ rfl w1.heap.size _ 0 [] rfl o1 bo d xs hb1a rfl ?n1 ?s1 ?_)
    case n1 => omega
    case s1 => simp
    intro v2 w2 o2 q2
    have G2 : w.grownBy w2 none := gb_trans (gb_alloc g1 _) q2 (fun x e => by have := o1.lt x e; have := g1.size; exact Or.inl (by omega))
    have hb2 := hb.kept G2 (fun _ e => by cases e)
    have hb1b : Bts w2 bo d xs := hb1a.kept q2 (fun x e ad e2 e3 => by
      have h5 := (ht1 ad e2).2.lt
      simp only [Value.ownBlock, Option.some.injEq] at e
      omega)
    have hs12 : w1.heap.size ≤ w2.heap.size := Nat.le_trans (by simp) q2.size
    clear o1 q2 hb1a ga1
    go_wp2_with (at_builtin; refine wpList_append_bts rfl _ _ rfl w1.heap.size _ _ _ rfl o2 ao c more hb2 rfl ?n2 ?s2 ?_)
    case n2 => omega
    case s2 => exact hs12
    intro v3 w3 o3 q3
    have G3 : w.grownBy w3 none := gb_trans G2 q3 (fun x e => by have := o2.lt x e; have := g1.size; exact Or.inl (by omega))
    have hb3 : Bts w3 bo d xs := hb1b.kept q3 (fun x e ad e2 e3 => by
      have h5 := (ht1 ad e2).2.lt
      have h6 := (o2.lt x e).1
      omega)
    have hs23 := q3.size
    rw [← List.map_append, ← List.length_append] at o3
    obtain ⟨co, f, rfl, hb4, _⟩ := NewB.own o3
    have hnew := new_any w3 co f (xs ++ more) hb4 (by simp; omega)
    rw [List.length_append] at hnew
    clear o2 q3 hb1b hb2 o3 hb4
    go_wp2_with fail
    refine hnew.mono ?_
    rintro e w4 ⟨rb, rfl, hrb, r4, g4⟩
    have G4 : w.grownBy w4 none := gb_trans G3 g4 (fun x e => by cases e)
    have hb5 := hb3.kept g4 (fun _ e => by cases e)
    have hnum := num_at w4 rb (xs ++ more) 0 (1 + (j : Int)) r4
    have hns : numS (xs ++ more) 0 (1 + (j : Int)) = (be xs, more, 0) := by
      unfold numS
      rw [unhide HN, if_pos rfl, if_neg (by simp; have := unhide HL; omega)]
      have := unhide HL
      rw [List.take_append_of_le_length (by omega), List.take_of_length_le (by omega), List.drop_append_of_le_length (by omega), List.drop_of_length_le (by omega)]
      rfl
    rw [hns] at hnum
    simp only at hnum
    have hs3 := G3.size
    clear hnew hns hb3 G3 g4
    go_wp2_with fail
    refine hnum.mono ?_
    rintro e w5 ⟨rfl, r5, g5⟩
    have hlt5 := r4.lt
    have G5 : w.grownBy w5 none := gb_trans G4 g5 (fun x e => by cases e; exact Or.inl (by omega))
    clear hnum r4 G4
    have hb6 : Bts w5 bo d xs := hb5.kept g5 (fun x e ad e2 e3 => by
      cases e
      have h5 := (ht1 ad e2).2.lt
      omega)
    have hfd := hb6.fits
    have hnew2 := new_any w5 bo d (xs.take (xs.length - 1)) (hb6.take _ (by omega)) (by simp; omega)
    rw [List.length_take, Nat.min_eq_left (by omega)] at hnew2
    clear hb5 hb6 g5
    go_wp2_with fail
    refine hnew2.mono ?_
    rintro e w6 ⟨rb2, rfl, hrb2, r6, g6⟩
    have G6 : w.grownBy w6 none := gb_trans G5 g6 (fun x e => by cases e)
    have r5' := r5.kept g6 (Or.inl rfl)
    obtain ⟨lo, lc, l1, _, _⟩ := r5'
    have hnum2 := num_at w6 rb2 _ 0 (1 + (j : Int)) r6
    have hns2 : numS (xs.take (xs.length - 1)) 0 (1 + (j : Int)) = (0, [], 10) := by
      unfold numS
      rw [unhide HN, if_pos rfl, if_pos (by simp; have := unhide HL; omega)]
    rw [hns2] at hnum2
    simp only at hnum2
    have hs5 := G5.size
    clear hnew2 hns2 r6 G5 g6 r5
    go_wp2_with fail
    refine (left_at _ _ _ _ _ l1.c0).mono ?_
    rintro e w7 ⟨rfl, rfl⟩
    clear l1
    go_wp2_with fail
    refine hnum2.mono ?_
    rintro e w8 ⟨rfl, r8, g8⟩
    have G8 : w.grownBy w8 none := gb_trans G6 g8 (fun x e => by cases e; exact Or.inl (by omega))
    obtain ⟨ko, kc, m1, _, _⟩ := r8
    clear hnum2 G6 g8
    go_wp2_with fail
    refine (wrong_at _ _ _ m1.c1).mono ?_
    rintro e w9 ⟨rfl, rfl⟩
    clear m1
    go_wp2_with fail
    refine (one_any _).mono ?_
    rintro e w10 ⟨rfl, g10⟩
    have G10 : w.grownBy w10 none := gb_trans G8 g10 (fun x e => by cases e)
    clear G8 g10
    go_wp2
    go_ret
    exact ⟨rfl, G10⟩
  · have hj8 : j = 7 := by omega
    have heq : (((be xs : Nat) : Int) == (v : Int)) = true := by
      rw [beq_iff_eq, unhide HB, hj8, Nat.mod_eq_of_lt (by omega)]
    have hj7' : 7 ≤ j := by omega
    clear hj8 hj7
    go_enter Try.func7, Try.ntmps7
    go_wp2_with fail
    refine hput.mono ?_
    rintro e w1 ⟨v1, rfl, ⟨bo, d, rfl, hb1, ht1⟩, g1⟩
    clear hput
    have ga1 := World.grownBy_alloc w1 (.cells #[] 5) none
    have hb1a : Bts (w1.alloc (.cells #[] 5)) bo d xs := hb1.kept ga1 (fun _ e => by cases e)
    have o1 : (w1.alloc (.cells #[] 5)).ownsRow w1.heap.size 5 1 (.slice (some ⟨w1.heap.size, 0, none⟩) 0 0) 0 [] := World.ownsRow_made w1 #[] 0 (Nat.le_refl _) (by unfold maxLen; omega) rfl
    go_wp2_with (at_builtin; refine wpList_append_bts rfl _ _ rfl w1.heap.size _ 0 [] rfl o1 bo d xs hb1a rfl ?n1 ?s1 ?_)
    case n1 => omega
    case s1 => simp
    intro v2 w2 o2 q2
    have G2 : w.grownBy w2 none := gb_trans (gb_alloc g1 _) q2 (fun x e => by have := o1.lt x e; have := g1.size; exact Or.inl (by omega))
    have hb2 := hb.kept G2 (fun _ e => by cases e)
    have hb1b : Bts w2 bo d xs := hb1a.kept q2 (fun x e ad e2 e3 => by
      have h5 := (ht1 ad e2).2.lt
      simp only [Value.ownBlock, Option.some.injEq] at e
      omega)
    have hs12 : w1.heap.size ≤ w2.heap.size := Nat.le_trans (by simp) q2.size
    clear o1 q2 hb1a ga1
    go_wp2_with (at_builtin; refine wpList_append_bts rfl _ _ rfl w1.heap.size _ _ _ rfl o2 ao c more hb2 rfl ?n2 ?s2 ?_)
    case n2 => omega
    case s2 => exact hs12
    intro v3 w3 o3 q3
    have G3 : w.grownBy w3 none := gb_trans G2 q3 (fun x e => by have := o2.lt x e; have := g1.size; exact Or.inl (by omega))
    have hb3 : Bts w3 bo d xs := hb1b.kept q3 (fun x e ad e2 e3 => by
      have h5 := (ht1 ad e2).2.lt
      have h6 := (o2.lt x e).1
      omega)
    have hs23 := q3.size
    rw [← List.map_append, ← List.length_append] at o3
    obtain ⟨co, f, rfl, hb4, _⟩ := NewB.own o3
    have hnew := new_any w3 co f (xs ++ more) hb4 (by simp; omega)
    rw [List.length_append] at hnew
    clear o2 q3 hb1b hb2 o3 hb4
    go_wp2_with fail
    refine hnew.mono ?_
    rintro e w4 ⟨rb, rfl, hrb, r4, g4⟩
    have G4 : w.grownBy w4 none := gb_trans G3 g4 (fun x e => by cases e)
    have hb5 := hb3.kept g4 (fun _ e => by cases e)
    have hnum := num_at w4 rb (xs ++ more) 0 (1 + (j : Int)) r4
    have hns : numS (xs ++ more) 0 (1 + (j : Int)) = (be xs, more, 0) := by
      unfold numS
      rw [unhide HN, if_pos rfl, if_neg (by simp; have := unhide HL; omega)]
      have := unhide HL
      rw [List.take_append_of_le_length (by omega), List.take_of_length_le (by omega), List.drop_append_of_le_length (by omega), List.drop_of_length_le (by omega)]
      rfl
    rw [hns] at hnum
    simp only at hnum
    have hs3 := G3.size
    clear hnew hns hb3 G3 g4
    go_wp2_with fail
    refine hnum.mono ?_
    rintro e w5 ⟨rfl, r5, g5⟩
    have hlt5 := r4.lt
    have G5 : w.grownBy w5 none := gb_trans G4 g5 (fun x e => by cases e; exact Or.inl (by omega))
    clear hnum r4 G4
    have hb6 : Bts w5 bo d xs := hb5.kept g5 (fun x e ad e2 e3 => by
      cases e
      have h5 := (ht1 ad e2).2.lt
      omega)
    have hfd := hb6.fits
    have hnew2 := new_any w5 bo d (xs.take (xs.length - 1)) (hb6.take _ (by omega)) (by simp; omega)
    rw [List.length_take, Nat.min_eq_left (by omega)] at hnew2
    clear hb5 hb6 g5
    go_wp2_with fail
    refine hnew2.mono ?_
    rintro e w6 ⟨rb2, rfl, hrb2, r6, g6⟩
    have G6 : w.grownBy w6 none := gb_trans G5 g6 (fun x e => by cases e)
    have r5' := r5.kept g6 (Or.inl rfl)
    obtain ⟨lo, lc, l1, _, _⟩ := r5'
    have hnum2 := num_at w6 rb2 _ 0 (1 + (j : Int)) r6
    have hns2 : numS (xs.take (xs.length - 1)) 0 (1 + (j : Int)) = (0, [], 10) := by
      unfold numS
      rw [unhide HN, if_pos rfl, if_pos (by simp; have := unhide HL; omega)]
    rw [hns2] at hnum2
    simp only at hnum2
    have hs5 := G5.size
    clear hnew2 hns2 r6 G5 g6 r5
    go_wp2_with fail
    refine (left_at _ _ _ _ _ l1.c0).mono ?_
    rintro e w7 ⟨rfl, rfl⟩
    clear l1
    go_wp2_with fail
    refine hnum2.mono ?_
    rintro e w8 ⟨rfl, r8, g8⟩
    have G8 : w.grownBy w8 none := gb_trans G6 g8 (fun x e => by cases e; exact Or.inl (by omega))
    obtain ⟨ko, kc, m1, _, _⟩ := r8
    clear hnum2 G6 g8
    go_wp2_with fail
    refine (wrong_at _ _ _ m1.c1).mono ?_
    rintro e w9 ⟨rfl, rfl⟩
    clear m1
    go_wp2_with fail
    refine (one_any _).mono ?_
    rintro e w10 ⟨rfl, g10⟩
    have G10 : w.grownBy w10 none := gb_trans G8 g10 (fun x e => by cases e)
    clear G8 g10
    go_wp2
    go_ret
    exact ⟨rfl, G10⟩

end Go.Proofs.Ytgedgjcdeajgiaa
