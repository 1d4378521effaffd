/- What the reader's Num answers and leaves in memory. -/
import Derived.Test.YtadkpkdojbhigaaLay
import Derived.Test.YtadkpkdojbhigaaSzM
namespace Go.Proofs.Ytadkpkdojbhigaa
open Go.RowKit

theorem or8 (a x : Nat) (ha : a < 72057594037927936) (hx : x < 256) : bits .or .u64 (IntKind.u64.wrap ((a : Int) * 256)) (x : Int) = ((a * 256 + x : Nat) : Int) := by
  have h1 : IntKind.u64.wrap ((a : Int) * 256) = ((a * 256 : Nat) : Int) := by
    unfold IntKind.wrap
    simp [IntKind.bits, IntKind.signed]
    omega
  rw [h1, u64_or_nat _ _ (by omega) (by omega)]
  have h2 := Nat.shiftLeft_add_eq_or_of_lt (b := x) (i := 8) (by omega) a
  rw [Nat.shiftLeft_eq, show (2 : Nat) ^ 8 = 256 from rfl] at h2
  rw [← h2]

set_option maxHeartbeats 400000 in
theorem num1_any (w : World) (ao : Option Addr) (c : Nat) (l : List UInt8) (vb : Nat) (hb : Bts w ao c l) (hl : l.length ≤ 8) (ho : Off ao vb) (hv : w.cell? ⟨vb, 0, none⟩ = some (.int .u64 0)) (hf : w.frozen? ⟨vb, 0, none⟩ = false) :
    Calls Try.prog 39 #[.slice ao l.length c, .pointer (some ⟨vb, 0, none⟩)] w fun e w' => e = .returned (.tuple #[]) ∧
      w'.cell? ⟨vb, 0, none⟩ = some (.int .u64 (be l : Int)) ∧ w.grownBy w' (some vb) := by
  go_enter Try.func39, Try.ntmps39
  go_wp2
  go_loopw [7] (fun i wr => ∃ k : Nat, k ≤ l.length ∧ i = .int .i64 k ∧ wr.cell? ⟨vb, 0, none⟩ = some (.int .u64 (be (l.take k) : Int)) ∧ wr.frozen? ⟨vb, 0, none⟩ = false ∧ w.grownBy wr (some vb)) (fun i _ => l.length - (intOf i).toNat)
  case atStart => exact ⟨0, Nat.zero_le _, rfl, hv, hf, gb_refl _ _⟩
  case round =>
    obtain ⟨k, hk, rfl, hvr, hfr, hg⟩ := hrel
    by_cases hlt : k < l.length
    · obtain ⟨ad, rfl⟩ : ∃ ad, ao = some ad := by
        cases ao with
        | none => have := hb.zip rfl; omega
        | some ad => exact ⟨ad, rfl⟩
      have hc := (hb.kept hg (fun x e => by cases e; exact ho)).cell ad rfl k hlt
      have hs := hb.shape ad rfl (by omega)
      obtain ⟨b, o, s⟩ := ad
      simp only at hs hc
      subst hs
      have hx := (l[k]).toNat_lt
      go_wp2
      go_roundw
      case rel =>
        refine ⟨k + 1, by omega, by go_num, ?_, ?_, ?_⟩
        · rw [take_snoc hlt, be_snoc, ← or8 _ _ (be_take_lt l k (by omega)) hx]
          exact World.cell?_setCell_same _ _ _ hvr
        · simp [hfr]
        · exact gb_setCell hg _ _ (Or.inr rfl)
      case measure => simp [intOf]; omega
    · go_wp2
      go_end0
      have hkl : k = l.length := by omega
      subst hkl
      rw [List.take_length] at hvr
      exact ⟨rfl, hvr, hg⟩

theorem next_nil (w : World) (k : Int) (fv : Value) : Calls Try.prog 37 #[.pointer none, .int .i64 k, fv] w fun e w' => e = .returned (.tuple #[]) ∧ w' = w := by
  go_enter Try.func37, Try.ntmps37
  go_wp2
  refine bodyPost_ret (results_none rfl _ _ _) rfl ?_
  exact ⟨rfl, rfl⟩

theorem next_bad (w : World) (rb : Nat) (e k : Int) (fv : Value) (he : (e == 0) = false) (h : w.cell? ⟨rb, 1, none⟩ = some (.int .i64 e)) :
    Calls Try.prog 37 #[.pointer (some ⟨rb, 0, none⟩), .int .i64 k, fv] w fun e w' => e = .returned (.tuple #[]) ∧ w' = w := by
  go_enter Try.func37, Try.ntmps37
  go_wp2_with fail
  refine (came_no _ _ _ he h).mono ?_
  rintro e w' ⟨rfl, rfl⟩
  go_wp2
  refine bodyPost_ret (results_none rfl _ _ _) rfl ?_
  exact ⟨rfl, rfl⟩

theorem next_end (w : World) (rb : Nat) (ao : Option Addr) (n c : Nat) (k : Int) (fv : Value) (hk : (n : Int) < k) (h0 : w.cell? ⟨rb, 0, none⟩ = some (.slice ao n c)) (h1 : w.cell? ⟨rb, 1, none⟩ = some (.int .i64 0))
    (f0 : w.frozen? ⟨rb, 0, none⟩ = false) (f1 : w.frozen? ⟨rb, 1, none⟩ = false) :
    Calls Try.prog 37 #[.pointer (some ⟨rb, 0, none⟩), .int .i64 k, fv] w fun e w' => e = .returned (.tuple #[]) ∧
      w' = (w.setCell ⟨rb, 1, none⟩ (.int .i64 10)).setCell ⟨rb, 0, none⟩ (.slice none 0 0) := by
  go_enter Try.func37, Try.ntmps37
  go_wp2_with fail
  refine (came_yes _ _ h1).mono ?_
  rintro e w' ⟨rfl, rfl⟩
  go_wp2_with fail
  refine (fail_yes _ _ _ _ h1 h0 f0 f1).mono ?_
  rintro e w' ⟨rfl, rfl⟩
  go_wp2
  refine bodyPost_ret (results_none rfl _ _ _) rfl ?_
  exact ⟨rfl, rfl⟩

set_option maxHeartbeats 400000 in
theorem next_yes_num (w : World) (rb : Nat) (ao : Option Addr) (c n k vb : Nat) (R : World → Prop) (hk : k ≤ n) (hn : n ≤ c) (h0 : w.cell? ⟨rb, 0, none⟩ = some (.slice ao n c)) (h1 : w.cell? ⟨rb, 1, none⟩ = some (.int .i64 0))
    (hf : Calls Try.prog 39 #[.slice ao k c, .pointer (some ⟨vb, 0, none⟩)] w fun e w' => e = .returned (.tuple #[]) ∧ w'.cell? ⟨rb, 0, none⟩ = some (.slice ao n c) ∧ w'.frozen? ⟨rb, 0, none⟩ = false ∧ R w') :
    Calls Try.prog 37 #[.pointer (some ⟨rb, 0, none⟩), .int .i64 k, .func (.func 39) #[] #[.pointer (some ⟨vb, 0, none⟩)]] w fun e w' => e = .returned (.tuple #[]) ∧
      ∃ w1, R w1 ∧ w' = w1.setCell ⟨rb, 0, none⟩ (.slice (cutA ao c k) (n - k) (c - k)) := by
  have s1 := fun W => slice_to (P := Try.prog) W 22 5 Try.underlying22 size_byte ao n c k (by omega)
  have s2 := fun W => slice_from (P := Try.prog) W 22 5 Try.underlying22 size_byte ao n c k (by omega)
  have H := hf

  go_enter Try.func37, Try.ntmps37
  go_wp2_with fail
  refine (came_yes _ _ h1).mono ?_
  rintro e w' ⟨rfl, rfl⟩
  go_wp2_with fail
  refine H.mono ?_
  rintro e w1 ⟨rfl, hc1, hf1, hR⟩
  clear h0 h1
  go_wp2
  go_end0
  exact ⟨rfl, w1, hR, rfl⟩

theorem num_nil (w : World) (n : Int) : Calls Try.prog 33 #[.pointer none, .int .i64 n] w fun e w' => e = .returned (.int .u64 0) ∧ w.grownBy w' none := by
  go_enter Try.func33, Try.ntmps33
  go_wp2_with fail
  refine (numBytes _ _).mono ?_
  rintro e w' ⟨rfl, rfl⟩
  go_wp2_with fail
  refine (next_nil _ _ _).mono ?_
  rintro e w' ⟨rfl, rfl⟩
  go_wp2
  go_ret
  exact ⟨rfl, gb_alloc (gb_refl _ _) _⟩

theorem num_bad (w : World) (rb : Nat) (l : List UInt8) (k n : Int) (hk : (k == 0) = false) (h : Rd w rb l k) :
    Calls Try.prog 33 #[.pointer (some ⟨rb, 0, none⟩), .int .i64 n] w fun e w' => e = .returned (.int .u64 0) ∧ Rd w' rb l k ∧ w.grownBy w' none := by
  have hR := h.kept (World.grownBy_alloc w (.cells #[.int .u64 0] 47) none) (Or.inl rfl)
  obtain ⟨ao, c, h1, h2, h3⟩ := h
  go_enter Try.func33, Try.ntmps33
  go_wp2_with fail
  refine (numBytes _ _).mono ?_
  rintro e w' ⟨rfl, rfl⟩
  go_wp2_with fail
  refine (next_bad _ _ _ _ _ hk (h1.alloc _).c1).mono ?_
  rintro e w' ⟨rfl, rfl⟩
  go_wp2
  go_ret
  exact ⟨rfl, hR, gb_alloc (gb_refl _ _) _⟩

theorem num_end (w : World) (rb : Nat) (l : List UInt8) (n : Int) (hn : (l.length : Int) < min (max n 0) 8) (h : Rd w rb l 0) :
    Calls Try.prog 33 #[.pointer (some ⟨rb, 0, none⟩), .int .i64 n] w fun e w' => e = .returned (.int .u64 0) ∧ Rd w' rb [] 10 ∧ w.grownBy w' (some rb) := by
  obtain ⟨ao, c, h1, h2, h3⟩ := h
  have hlt := h1.lt
  have hR := (Rd.failed h1 10).kept (World.grownBy_alloc _ (.cells #[.int .u64 0] 47) none) (Or.inl rfl)
  have hG := gb_alloc (gb_failed w rb 10) (.cells #[.int .u64 0] 47)
  go_enter Try.func33, Try.ntmps33
  go_wp2_with fail
  refine (numBytes _ _).mono ?_
  rintro e w' ⟨rfl, rfl⟩
  go_wp2_with fail
  refine (next_end _ _ _ _ _ _ _ hn (h1.alloc _).c0 (h1.alloc _).c1 ((h1.alloc _).fz _) ((h1.alloc _).fz _)).mono ?_
  rintro e w' ⟨rfl, rfl⟩
  go_wp2
  go_ret
  exact ⟨rfl, hR, hG⟩

theorem num_post {w w1 : World} {rb : Nat} {ao : Option Addr} {c k : Nat} {l : List UInt8} {x : Int} (h1 : RdAt w rb (.slice ao l.length c) 0) (h2 : Bts w ao c l) (h3 : Inb w ao rb) (hk : k ≤ l.length)
    (q1 : w1.cell? ⟨w.heap.size, 0, none⟩ = some (.int .u64 x)) (q2 : (w.alloc (.cells #[.int .u64 0] 47)).grownBy w1 (some w.heap.size)) :
    (w1.setCell ⟨rb, 0, none⟩ (.slice (cutA ao c k) (l.length - k) (c - k))).cell? ⟨w.heap.size, 0, none⟩ = some (.int .u64 x) ∧
    Rd (w1.setCell ⟨rb, 0, none⟩ (.slice (cutA ao c k) (l.length - k) (c - k))) rb (l.drop k) 0 ∧
    w.grownBy (w1.setCell ⟨rb, 0, none⟩ (.slice (cutA ao c k) (l.length - k) (c - k))) (some rb) := by
  have hlt := h1.lt
  have g1 : w.grownBy w1 none := gb_trans (World.grownBy_alloc w _ none) q2 (fun x e => by cases e; exact Or.inl (Nat.le_refl _))
  have g2 := gb_set w1 rb 0 (.slice (cutA ao c k) (l.length - k) (c - k))
  refine ⟨?_, Rd.read (h1.kept g1 (by simp)) (h2.kept g1 (fun _ e => by cases e)) (h3.kept g1 (fun _ e => by cases e)) hk, gb_trans (gb_none _ g1) g2 (fun x e => Or.inr e)⟩
  exact g2.cell q1 (by simp; omega)

set_option maxHeartbeats 400000 in
theorem num_yes (w : World) (rb : Nat) (l : List UInt8) (n : Int) (k : Nat) (hk : min (max n 0) 8 = (k : Int)) (hkl : k ≤ l.length) (h : Rd w rb l 0) :
    Calls Try.prog 33 #[.pointer (some ⟨rb, 0, none⟩), .int .i64 n] w fun e w' => e = .returned (.int .u64 (be (l.take k) : Int)) ∧ Rd w' rb (l.drop k) 0 ∧ w.grownBy w' (some rb) := by
  obtain ⟨ao, c, h1, h2, h3⟩ := h
  have hlt := h1.lt
  have H : Hid (min (max n 0) 8 = (k : Int)) := hk
  have h1a := h1.alloc (.cells #[.int .u64 0] 47)
  have h2a : Bts (w.alloc (.cells #[.int .u64 0] 47)) ao c (l.take k) := (h2.take k hkl).kept (World.grownBy_alloc w _ none) (fun _ e => by cases e)
  have hc1 := num1_any _ ao c (l.take k) w.heap.size h2a (by simp; omega) (h3.off_new (Nat.le_refl _)) (by simp) (by simp)
  rw [List.length_take, Nat.min_eq_left hkl] at hc1
  have hnx := next_yes_num (w.alloc (.cells #[.int .u64 0] 47)) rb ao c l.length k w.heap.size (fun w1 => w1.cell? ⟨w.heap.size, 0, none⟩ = some (.int .u64 (be (l.take k) : Int)) ∧ (w.alloc (.cells #[.int .u64 0] 47)).grownBy w1 (some w.heap.size)) hkl h2.fits h1a.c0 h1a.c1 (by
    refine hc1.mono ?_
    rintro e w1 ⟨rfl, q1, q2⟩
    have h1b := h1a.kept q2 (by simp; omega)
    exact ⟨rfl, h1b.c0, h1b.fz _, q1, q2⟩)
  clear hk hc1 h2a h1a
  go_enter Try.func33, Try.ntmps33
  go_wp2_with fail
  refine (numBytes _ _).mono ?_
  rintro e w' ⟨rfl, rfl⟩
  rw [H.out]
  go_wp2_with fail
  refine hnx.mono ?_
  rintro e w2 ⟨rfl, w1, ⟨q1, q2⟩, rfl⟩
  obtain ⟨p1, p2, p3⟩ := num_post h1 h2 h3 hkl q1 q2
  clear hnx h1 h2 h3 q1 q2
  go_wp2
  go_ret
  exact ⟨rfl, p2, p3⟩

end Go.Proofs.Ytadkpkdojbhigaa
