/- What slices.Clone answers of numbers and of sectors. -/
import Derived.Test.YtfaipdifkmjdeaaDkR
import Derived.Test.YtfaipdifkmjdeaaCtA
namespace Go.Proofs.Ytfaipdifkmjdeaa
open Go.RowKit

theorem ints_nil (W : World) : (binOp .eql 34 (.slice none 0 0) (.slice none 0 0)).run Try.prog W = .ok (.bool true) W := by kernel_rfl
theorem ints_ne (ad : Addr) (n c : Nat) (W : World) : (binOp .eql 34 (.slice (some ad) n c) (.slice none 0 0)).run Try.prog W = .ok (.bool false) W := by kernel_rfl
theorem info_intc : (Try.prog.info? 3).map (fun i => (i.zero, i.size, i.bytes)) = some (some (.int .i64 0), 1, 8) := by kernel_rfl
theorem secs_nil (W : World) : (binOp .eql 58 (.slice none 0 0) (.slice none 0 0)).run Try.prog W = .ok (.bool true) W := by kernel_rfl
theorem secs_ne (ad : Addr) (n c : Nat) (W : World) : (binOp .eql 58 (.slice (some ad) n c) (.slice none 0 0)).run Try.prog W = .ok (.bool false) W := by kernel_rfl

set_option maxRecDepth 100000 in
theorem iclone_any (w : World) (base : Nat) (v0 : Value) (n : Nat) (L : List Value) (h : w.ownsRow base 3 1 v0 n L) (h1 : ∀ u ∈ L, u.oneCell' = true) (hl : n ≤ 1000000) :
    Calls Try.prog 38 #[v0] w fun e w' => ∃ v, e = .returned v ∧ w'.ownsRow w.heap.size 3 1 v n L ∧ w.grownBy w' none := by
  have hn : n = L.length := by have := h.1; omega
  subst hn
  obtain ⟨ao, c, rfl, hC, _⟩ := Cel.own h h1
  have h0 := hC.zero
  clear hC h
  obtain ⟨n, hn⟩ : ∃ n, n = L.length := ⟨_, rfl⟩
  cases ao with
  | none =>
    obtain ⟨h1, h2⟩ := h0.zip rfl
    have h3 : L = [] := List.eq_nil_of_length_eq_zero h1
    subst h3 h2
    have hq := ints_nil
    clear hn
    go_enter Try.func38, Try.ntmps38
    go_wp2
    go_ret
    exact ⟨_, rfl, ⟨rfl, Or.inl ⟨rfl, rfl⟩⟩, gb_refl _ _⟩
  | some ad =>
    rw [← hn] at hl ⊢
    have hq := ints_ne ad n c
    obtain ⟨W1, hW1, ho1, g1⟩ : ∃ Wb, Wb = w.alloc (.cells #[] 3) ∧ Wb.ownsRow w.heap.size 3 1 (.slice (some ⟨w.heap.size, 0, none⟩) 0 0) 0 [] ∧ w.grownBy Wb none :=
      ⟨_, rfl, World.ownsRow_made w #[] 0 (Nat.le_refl _) (by unfold maxLen; omega) rfl, gb_alloc (gb_refl _ _) _⟩
    have hb1 := h0.kept g1
    have HN := hide hn
    have HW1 := hide hW1
    clear hn hW1 h0 h1
    go_enter Try.func38, Try.ntmps38
    go_wp2_with (rw [← unhide HW1]; refine wpList_append_cel rfl _ _ _ _ _ _ Try.underlying34 info_intc rfl rfl w.heap.size _ 0 [] rfl ho1 _ _ L hb1 n (unhide HN) rfl (by omega) (by unfold maxLen; omega) g1.size ?_; intro v5 w5 ho5 g5; have G5 := hide (gb_trans g1 g5 (fun x e => Or.inl (ho1.lt x e).1)); have HO5 := hide ho5; clear g5 ho5 ho1 hb1)
    go_ret
    exact ⟨_, rfl, by simpa using unhide HO5, unhide G5⟩

set_option maxRecDepth 100000 in
theorem sclone_secs (w : World) (ao : Option Addr) (c : Nat) (L : List (List UInt8)) (h : Rws w 256 secC ao c L) (h1 : ∀ s ∈ L, s.length = 256) (hl : L.length ≤ 1000000) :
    Calls Try.prog 40 #[.slice ao L.length c] w fun e w' => ∃ v, e = .returned v ∧ w'.ownsRow w.heap.size 70 256 v L.length (L.flatMap secC) ∧ w.grownBy w' none := by
  obtain ⟨n, hn⟩ : ∃ n, n = L.length := ⟨_, rfl⟩
  cases ao with
  | none =>
    obtain ⟨h1, h2⟩ := h.zip rfl
    have h3 : L = [] := List.eq_nil_of_length_eq_zero h1
    subst h3 h2
    have hq := secs_nil
    clear hn
    go_enter Try.func40, Try.ntmps40
    go_wp2
    go_ret
    exact ⟨_, rfl, ⟨rfl, Or.inl ⟨rfl, rfl⟩⟩, gb_refl _ _⟩
  | some ad =>
    rw [← hn] at hl ⊢
    have hq := secs_ne ad n c
    obtain ⟨W1, hW1, ho1, g1⟩ : ∃ Wb, Wb = w.alloc (.cells #[] 70) ∧ Wb.ownsRow w.heap.size 70 256 (.slice (some ⟨w.heap.size, 0, none⟩) 0 0) 0 [] ∧ w.grownBy Wb none :=
      ⟨_, rfl, World.ownsRow_made w #[] 0 (Nat.le_refl _) (by unfold maxLen; omega) rfl, gb_alloc (gb_refl _ _) _⟩
    have hb1 := h.kept g1
    obtain ⟨i0, hi, hz0, hz1, hz2⟩ := info_parts info_sec
    have HN := hide hn
    have HW1 := hide hW1
    have HI := hide hi
    have HZ := hide hz0
    clear hn hW1 h hi hz0
    go_enter Try.func40, Try.ntmps40
    go_wp2_with (rw [← unhide HW1]; refine wpList_plain rfl fun K9 hK9 => ?_; refine wp_append_rws _ _ 58 70 rfl i0 _ 256 256 Try.underlying58 (unhide HI) (unhide HZ) hz1 hz2 (by rw [show Value.cells (.agg (secC zsec).toArray) = (secC zsec).toArray from rfl, List.size_toArray, secC_len, zsec_len]) (by decide) secC secC_one w.heap.size _ [] L (fun x hx => by rw [secC_len]; exact h1 x hx) rfl ho1 _ n c rfl (unhide HN) hb1 (by rw [← unhide HN, List.length_nil]; omega) (by rw [← unhide HN, List.length_nil]; omega) g1.size ?_; intro v5 w5 ho5 g5; refine hK9 _ _ ?_; clear hK9 K9; have G5 := hide (gb_trans g1 g5 (fun x e => Or.inl (ho1.lt x e).1)); have HO5 := hide ho5; clear g5 ho5 ho1 hb1)
    go_ret
    exact ⟨_, rfl, by rw [unhide HN]; simpa using unhide HO5, unhide G5⟩

end Go.Proofs.Ytfaipdifkmjdeaa
