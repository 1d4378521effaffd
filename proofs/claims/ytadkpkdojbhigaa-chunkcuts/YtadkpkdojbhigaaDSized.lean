/- What wire's Sized lays: a text with its length ahead, in new memory; and the document's Sized (package coffretref01). Where all together are fewer than 2 to the 46. -/
import Derived.Test.YtadkpkdojbhigaaDFrs
import Derived.Test.YtadkpkdojbhigaaSzM
import Derived.Test.YtadkpkdojbhigaaMStr
import Derived.Laws.AppendOwnNone
namespace Go.Proofs.Ytadkpkdojbhigaa
open Go.RowKit

/-- The lowest n bytes of v, the highest first. -/
def lb (v n : Nat) : List UInt8 := (List.range n).map fun i => UInt8.ofNat (v / 256 ^ (n - 1 - i))

theorem lb_len (v n : Nat) : (lb v n).length = n := by simp [lb]

theorem lb_at (v n k : Nat) (h : k < (lb v n).length) : Value.int .u8 ((v : Int) / 2 ^ (8 * (n - 1 - k)) % 256) = bv (lb v n)[k] := by
  have e : (lb v n)[k] = UInt8.ofNat (v / 256 ^ (n - 1 - k)) := by simp [lb]
  unfold bv
  rw [e, UInt8.toNat_ofNat']
  congr 1
  rw [show (256 : Nat) = 2 ^ 8 from rfl, ← Nat.pow_mul]
  rfl

set_option maxRecDepth 100000 in
set_option maxHeartbeats 400000 in
theorem lay_any (w : World) (base : Nat) (own : Value) (xs : List UInt8) (v n : Nat) (hn : n ≤ 8) (hown : w.ownsRow base 5 1 own xs.length (xs.map bv)) (hbase : base ≤ w.heap.size) (hlen : xs.length + 8 ≤ 70368744177664) :
    Calls Try.prog 36 #[own, .int .u64 v, .int .i64 n] w fun e w' => ∃ v', e = .returned v' ∧ w'.ownsRow base 5 1 v' (xs ++ lb v n).length ((xs ++ lb v n).map bv) ∧ Below base w w' := by
  obtain ⟨i0, hi, hz0, hz1, hz2⟩ := info_parts info_byte
  go_enter Try.func36, Try.ntmps36
  go_wp2
  go_loopw [0, 9] (fun o i wr => ∃ k : Nat, k ≤ n ∧ i = .int .i64 k ∧ wr.ownsRow base 5 1 o (xs ++ (lb v n).take k).length ((xs ++ (lb v n).take k).map bv) ∧ Below base w wr) (fun _ i _ => n - (intOf i).toNat)
  case atStart => exact ⟨0, Nat.zero_le _, rfl, by simpa using hown, Below.refl _ _⟩
  case round =>
    obtain ⟨k, hk, rfl, ho, hb⟩ := hrel
    by_cases hlt : k < n
    · have hsz := hb.size
      have hll : (xs ++ (lb v n).take k).length = xs.length + k := by simp [lb_len]; omega
      obtain ⟨ys, hys⟩ : ∃ ys, ys = xs ++ (lb v n).take k := ⟨_, rfl⟩
      rw [← hys] at ho hll
      have HL := hide hll
      have HY := hide hys
      clear hll hown hys
      go_wp2_with (at_builtin; refine wpList_append_own _ rfl _ _ 22 rfl base 5 i0 (.int .u8 0) 1 1 Try.underlying22 hi hz0 hz1 hz2 rfl (by decide) _ _ _ rfl (ho.alloc _) ⟨wr.heap.size, 0, none⟩ 1 1 [.int .u8 ((v : Int) / 2 ^ (8 * (n - 1 - k)) % 256)] rfl rfl ?c1 ?c2 ?c3 ?c4 ?c5 ?_)
      case c1 =>
        intro t x ht
        match t, ht with
        | 0, ht => simp at ht; subst ht; simp [Addr.add]
      case c2 => intro x hx; simp at hx; subst hx; rfl
      case c3 => have := unhide HL; unfold maxLen; omega
      case c4 => have := unhide HL; omega
      case c5 => simp; omega
      intro v' w3 hown3 hg3 _
      have hb3 : Below base w w3 := ((hb.alloc (by omega) _).grown hg3 (by simp; omega) (fun x e => (ho.lt x e).1))
      have hk2 : k < (lb v n).length := by rw [lb_len]; exact hlt
      have hy2 : xs ++ (lb v n).take (k + 1) = ys ++ [(lb v n)[k]] := by rw [unhide HY, take_snoc hk2]; simp
      rw [lb_at v n k hk2] at hown3
      have hown4 : w3.ownsRow base 5 1 v' (xs ++ (lb v n).take (k + 1)).length ((xs ++ (lb v n).take (k + 1)).map bv) := by
        rw [hy2, List.map_append, List.length_append]
        exact hown3
      clear hown3
      clear hb ho hg3 hy2
      go_wp2
      go_roundw
      case rel => exact ⟨k + 1, by omega, by go_num, hown4, hb3⟩
      case measure => simp [intOf]; omega
    · go_wp2
      go_ret
      have hkn : (lb v n).take k = lb v n := List.take_of_length_le (by rw [lb_len]; omega)
      rw [hkn] at ho
      exact ⟨_, rfl, ho, hb⟩

set_option maxRecDepth 100000 in
set_option maxHeartbeats 400000 in
theorem layText_any (w : World) (base : Nat) (own : Value) (xs : List UInt8) (ao : Option Addr) (c : Nat) (x : List UInt8) (hown : w.ownsRow base 5 1 own xs.length (xs.map bv)) (hbase : base ≤ w.heap.size)
    (hx : ∀ a, Below base w a → Bts a ao c x) (hlen : xs.length + 8 + x.length ≤ 70368744177664) :
    Calls Try.prog 29 #[own, .slice ao x.length c] w fun e w' => ∃ v', e = .returned v' ∧ w'.ownsRow base 5 1 v' (xs ++ lb x.length 4 ++ x).length ((xs ++ lb x.length 4 ++ x).map bv) ∧ Below base w w' := by
  obtain ⟨i0, hi, hz0, hz1, hz2⟩ := info_parts info_byte
  have h1 := lay_any w base own xs x.length 4 (by omega) hown hbase (by omega)
  obtain ⟨ys, hys⟩ : ∃ ys, ys = xs ++ lb x.length 4 := ⟨_, rfl⟩
  rw [← hys] at h1 ⊢
  have hyl : ys.length = xs.length + 4 := by rw [hys]; simp [lb_len]
  have HL := hide hyl
  clear hyl hys
  go_enter Try.func29, Try.ntmps29
  go_wp2_with fail
  refine h1.mono ?_
  rintro e w1 ⟨v1, rfl, ho1, hb1⟩
  clear h1 hown
  have hx1 := hx w1 hb1
  have hsz := hb1.size
  cases ao with
  | none =>
    have hz := hx1.zip rfl
    have hx0 : x = [] := List.eq_nil_of_length_eq_zero hz.1
    have hc0 := hz.2
    subst hx0 hc0
    clear hz
    go_wp2_with (at_builtin; refine wpList_append_own_none rfl _ _ 22 rfl base 5 i0 1 Try.underlying22 hi _ _ _ rfl ho1 rfl ?_)
    go_ret
    exact ⟨_, rfl, by simpa using ho1, hb1⟩
  | some ad =>
    go_wp2_with (at_builtin; refine wpList_append_own _ rfl _ _ 22 rfl base 5 i0 (.int .u8 0) 1 1 Try.underlying22 hi hz0 hz1 hz2 rfl (by decide) _ _ _ rfl ho1 ad x.length c (x.map bv) rfl ?c0 (hx1.news ad rfl) (bv_one x) ?c3 ?c4 ?c5 ?_)
    case c0 => simp
    case c3 => have := unhide HL; unfold maxLen; omega
    case c4 => have := unhide HL; omega
    case c5 => omega
    intro v2 w2 ho2 hg2 _
    have hb2 : Below base w w2 := hb1.grown hg2 (by omega) (fun x e => (ho1.lt x e).1)
    rw [← List.map_append, ← List.length_append] at ho2
    clear hx hx1 ho1 hg2 hb1
    go_wp2
    go_ret
    exact ⟨_, rfl, ho2, hb2⟩

/-- A text as it is laid, its length ahead. -/
def layS (x : List UInt8) : List UInt8 := lb x.length 4 ++ x
theorem layS_length (x : List UInt8) : (layS x).length = 4 + x.length := by simp [layS, lb_len]

set_option maxRecDepth 100000 in
set_option maxHeartbeats 400000 in
theorem sizedl_any (w : World) (ao bo : Option Addr) (c d : Nat) (l x : List UInt8) (hb : Bts w ao c l) (hx : Bts w bo d x) (hl : l.length + 16 + x.length ≤ 70368744177664) :
    Calls Try.prog 19 #[.slice ao l.length c, .slice bo x.length d] w fun e w' => ∃ v', e = .returned v' ∧ NewB w w' v' (l ++ layS x) ∧ w.grownBy w' none := by
  go_enter Try.func19, Try.ntmps19
  go_wp2_with fail
  rw [show (4 : Int) + (x.length : Int) = ((4 + x.length : Nat) : Int) from by omega]
  refine (fresh_any _ _ _ _ (4 + x.length) hb (by omega)).mono ?_
  rintro e w1 ⟨rfl, h1, h2⟩
  have hsz := h2.size
  have hx1 : ∀ a, Below w.heap.size w1 a → Bts a bo d x := fun a ha => hx.below ((gb_below h2).trans ha)
  clear hb hx
  go_wp2_with fail
  refine (layText_any _ _ _ l bo d x h1 hsz hx1 (by omega)).mono ?_
  rintro e w2 ⟨v2, rfl, h3, h4⟩
  clear h1 hx1
  go_wp2
  go_ret
  exact ⟨_, rfl, NewB.own (by unfold layS; rw [← List.append_assoc]; exact h3), below_gb ((gb_below h2).trans h4)⟩


theorem lb_cons (v k : Nat) : lb v (k + 1) = UInt8.ofNat (v / 256 ^ k) :: lb v k := by
  unfold lb
  rw [List.range_succ_eq_map, List.map_cons, List.map_map]
  congr 1
  apply List.map_congr_left
  intro i _
  show UInt8.ofNat (v / 256 ^ (k + 1 - 1 - (i + 1))) = UInt8.ofNat (v / 256 ^ (k - 1 - i))
  rw [show k + 1 - 1 - (i + 1) = k - 1 - i from by omega]

set_option maxRecDepth 100000 in
set_option maxHeartbeats 400000 in
theorem rput_go (w : World) (b : List UInt8) (v k : Nat) (hk : 1 ≤ k) (hk8 : k ≤ 8) (n : Int) (hn : n = (k : Int) ∨ (8 < n ∧ k = 8)) (hv : v < 18446744073709551616) (hb : b.length ≤ 70368744177664) :
    Calls Try.prog 31 #[.string (str b), .int .u64 v, .int .i64 n] w fun e w' => e = .returned (.string (str (b ++ lb v k))) ∧ w.grownBy w' none := by
  have hsz := str_size b
  rcases hn with rfl | ⟨hn8, hk8⟩
  · skip
    go_enter Try.func31, Try.ntmps31
    go_wp2
    go_loopw [1, 7, 8] (fun x o i wr => ∃ j : Nat, j ≤ k ∧ i = .int .i64 j ∧ x = .int .u64 ((v / 256 ^ j : Nat) : Int) ∧ o = .string (str (lb v j)) ∧ w.grownBy wr none) (fun _ _ i _ => k - (intOf i).toNat)
    case atStart => exact ⟨0, Nat.zero_le _, rfl, by simp, rfl, gb_refl _ _⟩
    case round =>
      obtain ⟨j, hj, rfl, rfl, rfl, hg⟩ := hrel
      by_cases hlt : j < k
      · obtain ⟨y, hy⟩ : ∃ y, y = v / 256 ^ j := ⟨_, rfl⟩
        rw [← hy]
        have cv : (convert 22 9 (.slice (some ⟨wr.heap.size, 0, none⟩) 1 1)).run Try.prog (wr.alloc (.cells #[.int .u8 ((y : Int) % 256)] 5)) = .ok (.string (str [UInt8.ofNat y])) (wr.alloc (.cells #[.int .u8 ((y : Int) % 256)] 5)) := conv_str (bts_one wr y)
        have hs1 : (str [UInt8.ofNat y]).size = 1 := str_size [UInt8.ofNat y]
        have hs2 := str_size (lb v j)
        rw [lb_len] at hs2
        have hy64 : y < 18446744073709551616 := by rw [hy]; exact Nat.lt_of_le_of_lt (Nat.div_le_self _ _) hv
        have HY := hide hy
        clear hy
        go_wp2
        go_roundw
        case rel =>
          refine ⟨j + 1, by omega, by go_num, ?_, ?_, gb_alloc hg _⟩
          · rw [Nat.pow_succ, ← Nat.div_div_eq_div_mul, ← unhide HY]
            go_num
          · rw [str_app, lb_cons, ← unhide HY]
            rfl
        case measure => simp [intOf]; omega
      · have hjk : j = k := by omega
        have hs2 := str_size (lb v j)
        rw [lb_len] at hs2
        have HF : Hid (str (b ++ lb v k) = str b ++ str (lb v j)) := by rw [hjk, str_app]; exact rfl
        clear hjk
        go_wp2
        go_ret
        exact ⟨(by rw [unhide HF]; rfl), hg⟩
  · subst hk8
    go_enter Try.func31, Try.ntmps31
    go_wp2
    go_loopw [1, 7, 8] (fun x o i wr => ∃ j : Nat, j ≤ 8 ∧ i = .int .i64 j ∧ x = .int .u64 ((v / 256 ^ j : Nat) : Int) ∧ o = .string (str (lb v j)) ∧ w.grownBy wr none) (fun _ _ i _ => 8 - (intOf i).toNat)
    case atStart => exact ⟨0, Nat.zero_le _, rfl, by simp, rfl, gb_refl _ _⟩
    case round =>
      obtain ⟨j, hj, rfl, rfl, rfl, hg⟩ := hrel
      by_cases hlt : j < 8
      · obtain ⟨y, hy⟩ : ∃ y, y = v / 256 ^ j := ⟨_, rfl⟩
        rw [← hy]
        have cv : (convert 22 9 (.slice (some ⟨wr.heap.size, 0, none⟩) 1 1)).run Try.prog (wr.alloc (.cells #[.int .u8 ((y : Int) % 256)] 5)) = .ok (.string (str [UInt8.ofNat y])) (wr.alloc (.cells #[.int .u8 ((y : Int) % 256)] 5)) := conv_str (bts_one wr y)
        have hs1 : (str [UInt8.ofNat y]).size = 1 := str_size [UInt8.ofNat y]
        have hs2 := str_size (lb v j)
        rw [lb_len] at hs2
        have hy64 : y < 18446744073709551616 := by rw [hy]; exact Nat.lt_of_le_of_lt (Nat.div_le_self _ _) hv
        have HY := hide hy
        clear hy
        go_wp2
        go_roundw
        case rel =>
          refine ⟨j + 1, by omega, by go_num, ?_, ?_, gb_alloc hg _⟩
          · rw [Nat.pow_succ, ← Nat.div_div_eq_div_mul, ← unhide HY]
            go_num
          · rw [str_app, lb_cons, ← unhide HY]
            rfl
        case measure => simp [intOf]; omega
      · have hjk : j = 8 := by omega
        have hs2 := str_size (lb v j)
        rw [lb_len] at hs2
        have HF : Hid (str (b ++ lb v 8) = str b ++ str (lb v j)) := by rw [hjk, str_app]; exact rfl
        clear hjk
        go_wp2
        go_ret
        exact ⟨(by rw [unhide HF]; rfl), hg⟩

theorem rput_any (w : World) (b : List UInt8) (v : Nat) (n : Int) (hv : v < 18446744073709551616) (hb : b.length ≤ 70368744177664) :
    Calls Try.prog 31 #[.string (str b), .int .u64 v, .int .i64 n] w fun e w' => e = .returned (.string (str (b ++ lb v (nb n)))) ∧ w.grownBy w' none := by
  by_cases hn : n < 1
  · have h0 : nb n = 0 := by unfold nb; omega
    rw [h0, show lb v 0 = [] from rfl, List.append_nil]
    clear h0
    go_enter Try.func31, Try.ntmps31
    go_wp2
    go_ret
    exact ⟨rfl, gb_refl _ _⟩
  · exact rput_go w b v (nb n) (by unfold nb; omega) (by unfold nb; omega) n (by unfold nb; omega) hv hb

set_option maxRecDepth 100000 in
theorem rsized_any (w : World) (b x : List UInt8) (hb : b.length + 16 + x.length ≤ 70368744177664) :
    Calls Try.prog 20 #[.string (str b), .string (str x)] w fun e w' => e = .returned (.string (str (b ++ layS x))) ∧ w.grownBy w' none := by
  have hs1 := str_size x
  have hs2 := str_size (b ++ lb x.length 4)
  rw [List.length_append, lb_len] at hs2
  have h1 := rput_any w b x.length 4 (by omega) (by omega)
  rw [show nb 4 = 4 from by decide] at h1
  have HF : Hid (str (b ++ layS x) = str (b ++ lb x.length 4) ++ str x) := by unfold layS; rw [str_app, List.append_assoc]; exact rfl
  go_enter Try.func20, Try.ntmps20
  go_wp2_with fail
  refine h1.mono ?_
  rintro e w1 ⟨rfl, g1⟩
  clear h1
  go_wp2
  go_ret
  exact ⟨(by rw [unhide HF]; rfl), g1⟩

end Go.Proofs.Ytadkpkdojbhigaa
