/- AeadBack's walk: whatever the key, the nonce and the two texts, the call returns true and nothing that was in memory has changed; where the table holds what it is laid with, and by what layer 6's functions answer. -/
import Derived.Test.YtceiehkbhebnpaaDoorAOne
import Derived.Test.YtceiehkbhebnpaaDoorMByte
import Derived.Test.YtceiehkbhebnpaaDoorMApp
import Derived.Test.YtceiehkbhebnpaaDoorMGrd
import Derived.Deep.DrawnRows
import Derived.Deep.MidRow
import Derived.Deep.DeepCutAuto
import Derived.Deep.CutBlock
namespace Go.Proofs.YtceiehkbhebnpaaDoor
open Go.RowKit
attribute [local go_sem ↓] Go.wp_at_zero Go.wp_at_succ

theorem and7b (a : Int) : ∃ j : Nat, j ≤ 7 ∧ bits .and .i64 a 7 = (j : Int) := by
  refine ⟨(BitVec.ofInt 64 a &&& BitVec.ofInt 64 7).toNat, ?_, ?_⟩
  · rw [BitVec.toNat_and, show (BitVec.ofInt 64 7).toNat = 7 from by decide]
    exact Nat.and_le_right
  · show IntKind.i64.wrap (((BitVec.ofInt 64 a &&& BitVec.ofInt 64 7).toNat : Nat) : Int) = _
    have h : (BitVec.ofInt 64 a &&& BitVec.ofInt 64 7).toNat ≤ 7 := by
      rw [BitVec.toNat_and, show (BitVec.ofInt 64 7).toNat = 7 from by decide]
      exact Nat.and_le_right
    rw [IntKind.wrap_i64]
    omega
/-- Bytes of the call's own, opened. -/
theorem own_open {V : World} {base : Nat} {v : Value} {l : List UInt8} (h : V.ownsRow base 5 1 v l.length (l.map bv)) (hl : 0 < l.length) :
    ∃ g cap, v = .slice (some ⟨g, 0, none⟩) l.length cap ∧ base ≤ g ∧ Bts V (some ⟨g, 0, none⟩) cap l ∧ (∀ i, V.frozen? ⟨g, i, none⟩ = false) ∧ Typ V g := by
  have h' := h
  rcases h.2 with ⟨_, h2⟩ | ⟨g, cap, cur, rfl, hg, hh, _⟩
  · omega
  · obtain ⟨_, h3, h4⟩ := Bts.own h'
    exact ⟨g, cap, rfl, hg, h4, fun i => by simp [World.frozen?, hh], ⟨cur, _, hh⟩⟩
/-- One byte is another one. -/
theorem Bts.put {w : World} {g c : Nat} {l : List UInt8} (h : Bts w (some ⟨g, 0, none⟩) c l) (i : Nat) (x : UInt8) (hi : i < l.length) : Bts (w.setCell ⟨g, i, none⟩ (bv x)) (some ⟨g, 0, none⟩) c (l.set i x) := by
  refine ⟨(fun e => by cases e), by rw [List.length_set]; exact h.fits, h.most, (fun ad e _ => by cases e; rfl), (fun ad e j hj => ?_)⟩
  cases e
  have hj' : j < l.length := by simpa using hj
  show (w.setCell ⟨g, i, none⟩ (bv x)).cell? ⟨g, 0 + j, none⟩ = _
  have hc := h.cell ⟨g, 0, none⟩ rfl j hj'
  have hci := h.cell ⟨g, 0, none⟩ rfl i hi
  simp only [Nat.zero_add] at hc hci ⊢
  by_cases e : i = j
  · subst e
    rw [World.cell?_setCell_same _ _ _ hci]
    simp [bv]
  · rw [World.cell?_setCell_other _ _ _ _ (by intro e2; injection e2 with _ e3; exact e e3), hc]
    simp [e]
theorem xor_other (x y : UInt8) (hy : y ≠ 0) : x ^^^ y ≠ x := by
  intro e
  apply hy
  have h1 : x ^^^ (x ^^^ y) = y := by rw [← UInt8.xor_assoc, UInt8.xor_self, UInt8.zero_xor]
  rw [e, UInt8.xor_self] at h1
  exact h1.symm

theorem app_open {wr w5 : World} {v5 : Value} {y : List UInt8} {N : Nat} (hN : N = y.length) (h0 : 0 < N) (hO : w5.ownsRow wr.heap.size 5 1 v5 (0 + N) ([] ++ y.map bv)) (hg : (wr.alloc (.cells #[] 5)).grownBy w5 (Value.slice (some ⟨wr.heap.size, 0, none⟩) 0 0).ownBlock) :
    ∃ g cap, v5 = .slice (some ⟨g, 0, none⟩) N cap ∧ wr.heap.size ≤ g ∧ Bts w5 (some ⟨g, 0, none⟩) cap y ∧ (∀ i, w5.frozen? ⟨g, i, none⟩ = false) ∧ Typ w5 g ∧ wr.grownBy w5 none := by
  have hO6 : w5.ownsRow wr.heap.size 5 1 v5 y.length (y.map bv) := by rw [hN] at hO; simpa using hO
  obtain ⟨g, cap, h1, h2, h3, h4, h5⟩ := own_open hO6 (by omega)
  refine ⟨g, cap, by rw [h1, hN], h2, h3, h4, h5, ?_⟩
  exact gb_trans (World.grownBy_alloc wr (.cells #[] 5) none) hg (fun x e => Or.inl (by simp [Value.ownBlock] at e; omega))
theorem cell_at {w5 : World} {g cap xn : Nat} {y : List UInt8} (h : Bts w5 (some ⟨g, 0, none⟩) cap y) (q : Nat) (hq : q < y.length) (hx : y[q].toNat = xn) : w5.cell? ⟨g, q, none⟩ = some (.int .u8 (xn : Int)) := by
  have := h.cell ⟨g, 0, none⟩ rfl q hq
  simp only [Nat.zero_add] at this
  rw [this, hx]

theorem put_open {wr w5 : World} {g cap x2n : Nat} {y : List UInt8} (h : Bts w5 (some ⟨g, 0, none⟩) cap y) (q : Nat) (x2 : UInt8) (hx : x2n = x2.toNat) (hq : q < y.length) (G : wr.grownBy w5 none) (hg : wr.heap.size ≤ g) :
    ∃ w6, w6 = w5.setCell ⟨g, q, none⟩ (.int .u8 (x2n : Int)) ∧ Bts w6 (some ⟨g, 0, none⟩) cap (y.set q x2) ∧ wr.grownBy w6 none := by
  refine ⟨_, rfl, ?_, gb_setCell G _ _ (Or.inl hg)⟩
  have := h.put q x2 hq
  rw [hx]; exact this

set_option maxRecDepth 100000 in
set_option maxHeartbeats 4000000 in
theorem aeadBack_any (A : AeadC) (w : World) (k : List UInt8) (hk : k.length = 32) (n : List UInt8) (hn : n.length = 12) (a0 a1 : Option Addr) (c0 c1 : Nat) (l0 l1 : List UInt8) (hb0 : Bts w a0 c0 l0) (hb1 : Bts w a1 c1 l1) (hT : CTab w) :
    Calls Tryd.prog 4 #[.agg (k.map bv).toArray, .agg (n.map bv).toArray, .agg #[.slice a0 l0.length c0, .slice a1 l1.length c1]] w fun e w' => e = .returned (.bool true) ∧ w.grownBy w' none := by
  have tr : ∀ {x y z : World}, x.grownBy y none → y.grownBy z none → x.grownBy z none := fun h k => gb_trans h k (fun _ e => by cases e)
  have hi32 : (Tryd.prog.info? 23).map (·.size) = some 32 := by kernel_rfl
  have hi12 : (Tryd.prog.info? 27).map (·.size) = some 12 := by kernel_rfl
  obtain ⟨KA, hKA⟩ : ∃ A : Array Value, A = (k.map bv).toArray := ⟨_, rfl⟩
  obtain ⟨NA, hNA⟩ : ∃ A : Array Value, A = (n.map bv).toArray := ⟨_, rfl⟩
  have hsK : KA.size = 32 := by rw [hKA]; simp [hk]
  have hsN : NA.size = 12 := by rw [hNA]; simp [hn]
  have hiK : (Tryd.prog.info? 23).map (·.size) = some (k.map bv).length := by rw [List.length_map, hk]; exact hi32
  have hiN : (Tryd.prog.info? 27).map (·.size) = some (n.map bv).length := by rw [List.length_map, hn]; exact hi12
  obtain ⟨be, hbe⟩ : ∃ t, t = l0.take 500 := ⟨_, rfl⟩
  obtain ⟨t, ht⟩ : ∃ t, t = l1.take 1000 := ⟨_, rfl⟩
  have hbb : Bts w a0 c0 be := by rw [hbe]; exact hb0.short 500
  have hbt : Bts w a1 c1 t := by rw [ht]; exact hb1.short 1000
  obtain ⟨L, hL⟩ : ∃ L, L = t.length := ⟨_, rfl⟩
  obtain ⟨E, hE⟩ : ∃ L, L = be.length := ⟨_, rfl⟩
  have hL6 : L ≤ 1000 := by rw [hL, ht]; simp; omega
  have hE2 : E ≤ 500 := by rw [hE, hbe]; simp; omega
  obtain ⟨M0, hM0⟩ : ∃ m, m = l0.length := ⟨_, rfl⟩
  obtain ⟨M1, hM1⟩ : ∃ m, m = l1.length := ⟨_, rfl⟩
  have cs0 : ∀ V, w.grownBy V none → Calls Tryd.prog 6 #[.slice a0 M0 c0, .int .i64 500] V fun e w' => e = .returned (.slice a0 E c0) ∧ w' = V := fun V gV => by
    have h := short6_any V a0 c0 l0 (hb0.kept gV (fun _ e => by cases e)) 500
    rw [← hM0, ← hbe, ← hE] at h
    exact h
  have cs1 : ∀ V, w.grownBy V none → Calls Tryd.prog 6 #[.slice a1 M1 c1, .int .i64 1000] V fun e w' => e = .returned (.slice a1 L c1) ∧ w' = V := fun V gV => by
    have h := short6_any V a1 c1 l1 (hb1.kept gV (fun _ e => by cases e)) 1000
    rw [← hM1, ← ht, ← hL] at h
    exact h
  obtain ⟨W1, hW1⟩ : ∃ W1, W1 = ((w.alloc (.cells KA 23)).alloc (.cells NA 27)).alloc (.cells #[.slice a0 M0 c0, .slice a1 M1 c1] 38) := ⟨_, rfl⟩
  have hg1 : w.grownBy W1 none := by rw [hW1]; exact gb_alloc (gb_alloc (gb_alloc (gb_refl _ _) _) _) _
  have hK1 : Blk W1 w.heap.size 23 (k.map bv) := by rw [hW1, hKA]; exact ((Blk.new w 23 _).alloc _).alloc _
  have hN1 : Blk W1 (w.heap.size + 1) 27 (n.map bv) := by
    have := (Blk.new (w.alloc (.cells KA 23)) 27 (n.map bv)).alloc (.cells #[.slice a0 M0 c0, .slice a1 M1 c1] 38)
    rw [World.size_alloc] at this
    rw [hW1, hNA]; exact this
  have hL1 : Blk W1 (w.heap.size + 2) 38 [.slice a0 M0 c0, .slice a1 M1 c1] := by
    have := Blk.new ((w.alloc (.cells KA 23)).alloc (.cells NA 27)) 38 [.slice a0 M0 c0, .slice a1 M1 c1]
    rw [World.size_alloc, World.size_alloc] at this
    rw [hW1]; exact this
  have hc0 : W1.cell? ⟨w.heap.size + 2, 0, none⟩ = some (.slice a0 M0 c0) := by rw [hL1.cell]; rfl
  have hc1 : W1.cell? ⟨w.heap.size + 2, 1, none⟩ = some (.slice a1 M1 c1) := by rw [hL1.cell]; rfl
  obtain ⟨y, hy⟩ : ∃ y, y = sealL k n be t := ⟨_, rfl⟩
  have hyl : y.length = L + 16 := by rw [hy, sealL_length, hL]
  have cSe : ∀ V, w.grownBy V none → Calls Tryd.prog 7 #[.agg (k.map bv).toArray, .agg (n.map bv).toArray, .slice a0 E c0, .slice a1 L c1] V fun e w' => ∃ so cs, e = .returned (.slice so (L + 16) cs) ∧ Bts w' so cs y ∧ V.grownBy w' none := fun V gV => by
    have h := A.sealed V k n be t a0 a1 c0 c1 hk hn (hbb.kept gV (fun _ e => by cases e)) (hbt.kept gV (fun _ e => by cases e)) (by omega) (by omega) (hT.kept0 gV)
    rw [← hE, ← hL, ← hy] at h
    exact h.mono fun e w' ⟨v, he, ⟨so, cs, hv, hB, _⟩, hg⟩ => ⟨so, cs, by rw [he, hv, hyl], hB, hg⟩
  have cOy : ∀ V so cs, w.grownBy V none → Bts V so cs y → Calls Tryd.prog 9 #[.agg (k.map bv).toArray, .agg (n.map bv).toArray, .slice a0 E c0, .slice so (L + 16) cs] V fun e w' => ∃ bo cb, e = .returned (.tuple #[.slice bo L cb, .bool true]) ∧ Bts w' bo cb t ∧ V.grownBy w' none := fun V so cs gV hB => by
    have h := A.opened V k n be y a0 so c0 cs hk hn (hbb.kept gV (fun _ e => by cases e)) hB (by omega) (by omega) (hT.kept0 gV)
    rw [← hE, hyl] at h
    refine h.mono fun e w' ⟨v, he, ⟨bo, cb, hv, hB2, _⟩, hg⟩ => ?_
    rw [hy, open_text] at hv hB2
    rw [hy, open_seal] at he
    exact ⟨bo, cb, by rw [he, hv, hL], hB2, hg⟩
  have cOn : ∀ V so cs x, w.grownBy V none → Bts V so cs x → openB k n be x = false → x.length ≤ 1016 → Calls Tryd.prog 9 #[.agg (k.map bv).toArray, .agg (n.map bv).toArray, .slice a0 E c0, .slice so x.length cs] V fun e w' => ∃ bo cb, e = .returned (.tuple #[.slice bo 0 cb, .bool false]) ∧ V.grownBy w' none := fun V so cs x gV hB ho hx => by
    have h := A.opened V k n be x a0 so c0 cs hk hn (hbb.kept gV (fun _ e => by cases e)) hB (by omega) (by omega) (hT.kept0 gV)
    rw [← hE] at h
    refine h.mono fun e w' ⟨v, he, ⟨bo, cb, hv, _, _⟩, hg⟩ => ?_
    rw [openL_no ho] at hv
    rw [ho] at he
    exact ⟨bo, cb, by rw [he, hv]; rfl, hg⟩
  have hturn : ∀ i x, L ≤ i → i < L + 16 → x ≠ y.getD i 0 → openB k n be (y.set i x) = false := fun i x h1 h2 h3 => by
    rw [hy] at h3 ⊢; exact open_turned k n be t i x (by omega) (by omega) h3
  have c1' : ∀ V, w.grownBy V none → Calls Tryd.prog 13 #[] V fun e w' => e = .returned (.bool true) ∧ V.grownBy w' none := fun V gV => aone_any A V (hT.kept0 gV)
  have hct : ∀ V, w.grownBy V none → (convert 24 9 (.slice a1 L c1)).run Tryd.prog V = .ok (.string (str t)) V := fun V gV => by
    have h := conv_str (hbt.kept gV (fun _ e => by cases e)); rw [← hL] at h; exact h
  rw [← hKA, ← hNA, ← hM0, ← hM1]
  have HK1 : Hid (W1.heap[w.heap.size]? = some (.cells KA 23 (0, 0))) := hide (by rw [hKA]; exact hK1)
  have HN1 : Hid (W1.heap[w.heap.size + 1]? = some (.cells NA 27 (0, 0))) := hide (by rw [hNA]; exact hN1)
  have hrK := blk_range5 hK1
  have hrN := blk_range5 hN1
  have HSK := hide hsK
  have HSN := hide hsN
  have HKA := hide hKA
  have HNA := hide hNA
  have HW1 := hide hW1
  have HYL := hide hyl
  have HTL := hide hL
  have h0 : W1.grownBy W1.drew none := gb_drew (gb_refl _ _)
  clear hKA hNA hsK hsN hbe ht hbb hbt hL hE hW1 hK1 hN1 hL1 hy hyl hM0 hM1 hb0 hb1 hT hk hn A
  go_enter Tryd.func4, Tryd.ntmps4
  go_upto_region 1 with fail
  rw [← unhide HW1]
  refine wp_region_noPanic ?_
  refine wp_region_held_drew (S := fun V => W1.grownBy V none) (by kernel_rfl) h0 (fun _ => ?_)
  refine wpAnyH_take (i := 0) (oi := { dst := some 18, op := Op.indexAddr 38 (Operand.tmp 5) (Operand.const (Value.int IntKind.i64 0)), type := _, pos := _, after := _, guard := _ }) (v := .pointer (some ⟨w.heap.size + 2, 0, none⟩)) rfl (by kernel_rfl) (by kernel_rfl) (by kernel_rfl) (fun _ _ _ h => h) (Or.inl ⟨by rfl, fun V (hV : W1.grownBy V none) => by go_simp⟩) h0 ?_
  (try simp only [Act.put, List.setIfInBounds_toArray, List.set_cons_zero, List.set_cons_succ])
  refine wpAnyH_take (i := 1) (oi := { dst := some 19, op := Op.load 24 (Operand.tmp 18), type := _, pos := _, after := _, guard := _ }) (v := .slice a0 M0 c0) rfl (by kernel_rfl) (by kernel_rfl) (by kernel_rfl) (fun _ _ _ h => h) (Or.inl ⟨by rfl, fun V (hV : W1.grownBy V none) => by (have hv1 := hV.cell hc0 (by simp); have hv2 := hV.cell hc1 (by simp); go_simp)⟩) h0 ?_
  (try simp only [Act.put, List.setIfInBounds_toArray, List.set_cons_zero, List.set_cons_succ])
  refine wpAnyH_take (i := 3) (oi := { dst := some 21, op := Op.indexAddr 38 (Operand.tmp 5) (Operand.const (Value.int IntKind.i64 1)), type := _, pos := _, after := _, guard := _ }) (v := .pointer (some ⟨w.heap.size + 2, 1, none⟩)) rfl (by kernel_rfl) (by kernel_rfl) (by kernel_rfl) (fun _ _ _ h => h) (Or.inl ⟨by rfl, fun V (hV : W1.grownBy V none) => by go_simp⟩) h0 ?_
  (try simp only [Act.put, List.setIfInBounds_toArray, List.set_cons_zero, List.set_cons_succ])
  refine wpAnyH_take (i := 4) (oi := { dst := some 22, op := Op.load 24 (Operand.tmp 21), type := _, pos := _, after := _, guard := _ }) (v := .slice a1 M1 c1) rfl (by kernel_rfl) (by kernel_rfl) (by kernel_rfl) (fun _ _ _ h => h) (Or.inl ⟨by rfl, fun V (hV : W1.grownBy V none) => by (have hv1 := hV.cell hc0 (by simp); have hv2 := hV.cell hc1 (by simp); go_simp)⟩) h0 ?_
  (try simp only [Act.put, List.setIfInBounds_toArray, List.set_cons_zero, List.set_cons_succ])
  refine wpAnyH_ready (rs := [2]) (by kernel_rfl) (by simp) ?_
  refine AllReadyH.cons (o := { dst := some 20, op := Op.call { callee := Callee.value (Operand.func 6), args := #[(Operand.tmp 19), Operand.const (Value.int IntKind.i64 500)], argTypes := #[24, 3] }, type := _, pos := _, after := _, guard := _ }) rfl (fun K9 hK9 => ?_) AllReadyH.nil
  go_simp
  go_at_call 6
  refine (cs0 _ (tr hg1 h0)).mono ?_
  rintro e _ ⟨rfl, rfl⟩
  go_wp2_with fail
  refine hK9.out _ _ h0 (fun _ => ?_)
  clear hK9 K9
  (try simp only [Act.put, List.setIfInBounds_toArray, List.set_cons_zero, List.set_cons_succ])
  refine wpAnyH_ready (rs := [5]) (by kernel_rfl) (by simp) ?_
  refine AllReadyH.cons (o := { dst := some 23, op := Op.call { callee := Callee.value (Operand.func 6), args := #[(Operand.tmp 22), Operand.const (Value.int IntKind.i64 1000)], argTypes := #[24, 3] }, type := _, pos := _, after := _, guard := _ }) rfl (fun K9 hK9 => ?_) AllReadyH.nil
  go_simp
  go_at_call 6
  refine (cs1 _ (tr hg1 h0)).mono ?_
  rintro e _ ⟨rfl, rfl⟩
  go_wp2_with fail
  refine hK9.out _ _ h0 (fun _ => ?_)
  clear hK9 K9
  (try simp only [Act.put, List.setIfInBounds_toArray, List.set_cons_zero, List.set_cons_succ])
  refine wpAnyH_take (i := 6) (oi := { dst := some 7, op := Op.assign (Operand.tmp 20), type := _, pos := _, after := _, guard := _ }) (v := .slice a0 E c0) rfl (by kernel_rfl) (by kernel_rfl) (by kernel_rfl) (fun _ _ _ h => h) (Or.inl ⟨by rfl, fun V (hV : W1.grownBy V none) => by go_simp⟩) h0 ?_
  (try simp only [Act.put, List.setIfInBounds_toArray, List.set_cons_zero, List.set_cons_succ])
  refine wpAnyH_take (i := 7) (oi := { dst := some 8, op := Op.assign (Operand.tmp 23), type := _, pos := _, after := _, guard := _ }) (v := .slice a1 L c1) rfl (by kernel_rfl) (by kernel_rfl) (by kernel_rfl) (fun _ _ _ h => h) (Or.inl ⟨by rfl, fun V (hV : W1.grownBy V none) => by go_simp⟩) h0 ?_
  (try simp only [Act.put, List.setIfInBounds_toArray, List.set_cons_zero, List.set_cons_succ])
  refine wpAnyH_done (by kernel_rfl) ?_ _
  refine NoPanic.normal ?_
  have g0 := tr hg1 h0
  go_wp2_with (first
    | (refine wpList_load_row rfl 23 _ rfl w.heap.size rfl _ _ _ _ (unhide HK1) Tryd.underlying23 rfl ?_ ?_; (rw [unhide HSK]; exact hi32))
    | (refine wpList_load_row rfl 27 _ rfl (w.heap.size + 1) rfl _ _ _ _ (unhide HN1) Tryd.underlying27 rfl ?_ ?_; (rw [unhide HSN]; exact hi12))
    | (rw [unhide HKA, unhide HNA]; go_at_call 7; refine (cSe _ g0).mono ?_; rintro e w2 ⟨so, cs, rfl, hB2, g2⟩; clear cSe; have G2 := tr h0 g2; have HK2 : Hid (w2.heap[w.heap.size]? = some (.cells (k.map bv).toArray 23 (0, 0))) := hide (by rw [G2.block _ (Array.getElem?_eq_some_iff.1 (unhide HK1)).1 (by simp), ← unhide HKA]; exact unhide HK1); have HN2 : Hid (w2.heap[w.heap.size + 1]? = some (.cells (n.map bv).toArray 27 (0, 0))) := hide (by rw [G2.block _ (Array.getElem?_eq_some_iff.1 (unhide HN1)).1 (by simp), ← unhide HNA]; exact unhide HN1); clear HK1 HN1)
    | (refine wpList_load_row rfl 23 _ rfl w.heap.size rfl _ _ _ _ (unhide HK2) Tryd.underlying23 rfl ?_ ?_; (rw [← unhide HKA, unhide HSK]; exact hi32))
    | (refine wpList_load_row rfl 27 _ rfl (w.heap.size + 1) rfl _ _ _ _ (unhide HN2) Tryd.underlying27 rfl ?_ ?_; (rw [← unhide HNA, unhide HSN]; exact hi12))
    | (go_at_call 9; refine (cOy _ _ _ (tr hg1 G2) hB2).mono ?_; rintro e w3 ⟨bo, cb, rfl, hB3, g3⟩; clear cOy; have hcb := conv_str hB3; rw [← unhide HTL] at hcb; have hct3 := hct w3 (tr hg1 (tr G2 g3))))
  rw [← unhide HYL]
  have G3 := tr G2 g3
  have hBy3 := hB2.kept g3 (fun _ e => by cases e)
  have HBY := hide hBy3
  have hnl := unhide HYL
  obtain ⟨N, hN⟩ : ∃ N, N = y.length := ⟨_, rfl⟩
  rw [← hN] at hnl ⊢
  have HNN := hide hN
  have HNL := hide hnl
  clear hBy3 hB2 hB3 hcb hct3 hct hN hnl cs0 cs1 hc0 hc1
  go_loopw [12] (fun i wr => ∃ r : Nat, r ≤ 16 ∧ i = .int .i64 ((L + r : Nat) : Int) ∧ w3.grownBy wr none) (fun i _ => (L + 16) - (intOf i).toNat)
  case atStart => exact ⟨0, Nat.zero_le _, rfl, gb_refl _ _⟩
  case round =>
    obtain ⟨r, hr, rfl, hg⟩ := hrel
    obtain ⟨q, hq⟩ : ∃ q, q = L + r := ⟨_, rfl⟩
    rw [← hq]
    have hnl := unhide HNL
    by_cases hlt : r < 16
    · have q0 : (0 : Int) ≤ (q : Int) := by omega
      have q1 : (q : Int) < (N : Int) := by omega
      have q6 : (q : Int) < 2000 := by omega
      have q7 : IntKind.i64.wrap ((q : Int) + 1) = (q : Int) + 1 := by rw [IntKind.wrap_i64]; omega
      have hqN : q < y.length := by rw [← unhide HNN]; omega
      have hBy := (unhide HBY).kept hg (fun _ e => by cases e)
      have hBa := hBy.kept (World.grownBy_alloc wr (.cells #[] 5) none) (fun _ e => by cases e)
      have hown := World.ownsRow_made wr (e := 5) (size := 1) #[] 0 (Nat.le_refl _) (by unfold maxLen; omega) rfl
      obtain ⟨e7, he7, hz7⟩ := and7b (q : Int)
      obtain ⟨p2, hp2⟩ : ∃ p, p = 2 ^ e7 := ⟨_, rfl⟩
      have hp3 : p2 ≤ 128 := by rw [hp2]; exact Nat.pow_le_pow_right (by omega) (show e7 ≤ 7 from he7)
      have hp4 : 0 < p2 := by rw [hp2]; exact Nat.pow_pos (by omega)
      have p5 : (1 : Int) * 2 ^ e7 = (p2 : Int) := by rw [hp2, Int.one_mul, Int.natCast_pow]; rfl
      have p5' : (2 : Int) ^ e7 = (p2 : Int) := by rw [hp2, Int.natCast_pow]; rfl
      have p6 : (p2 : Int) % 256 = (p2 : Int) := by omega
      have p7 : IntKind.u8.wrap (p2 : Int) = (p2 : Int) := by rw [IntKind.wrap_u8]; omega
      have p8 : IntKind.u64.wrap (e7 : Int) = (e7 : Int) := by rw [IntKind.wrap_u64]; omega
      have p9 : (e7 : Int) % 18446744073709551616 = (e7 : Int) := by omega
      have p10 : ¬ (8 : Int) ≤ (e7 : Int) := by omega
      have p11 : (0 : Int) ≤ (e7 : Int) := by omega
      obtain ⟨x, hx⟩ : ∃ x, x = y.getD q 0 := ⟨_, rfl⟩
      obtain ⟨y8, hy8⟩ : ∃ z, z = UInt8.ofNat p2 := ⟨_, rfl⟩
      have hy8n : y8.toNat = p2 := by rw [hy8, UInt8.toNat_ofNat', Nat.mod_eq_of_lt (by omega)]
      have hy80 : y8 ≠ 0 := fun e => by rw [e] at hy8n; simp at hy8n; omega
      obtain ⟨x2, hx2⟩ : ∃ z, z = x ^^^ y8 := ⟨_, rfl⟩
      have hxr := b_xor x y8
      rw [← hx2, hy8n] at hxr
      have hno := hturn q x2 (by omega) (by omega) (by rw [hx2, ← hx]; exact xor_other x y8 hy80)
      obtain ⟨xn, hxn⟩ : ∃ m, m = x.toNat := ⟨_, rfl⟩
      obtain ⟨x2n, hx2n⟩ : ∃ m, m = x2.toNat := ⟨_, rfl⟩
      rw [← hxn, ← hx2n] at hxr
      have hxn' : y[q].toNat = xn := by rw [hxn, hx]; simp [List.getD, hqN]
      have HNO := hide hno
      have HXN := hide hxn'
      have HX2N := hide hx2n
      have HBA := hide hBa
      have HOWN := hide hown
      have HQN := hide hqN
      have HQ := hide hq
      have HNL2 := hide hnl
      clear hBy hBa hown hp2 hx hy8 hy8n hy80 hx2 hno hxn hx2n hxn' hq hnl
      go_wp2_with (first
        | (rw [unhide HNN]; refine wpList_append_bts rfl _ _ rfl wr.heap.size _ 0 [] rfl (unhide HOWN) so cs y (unhide HBA) rfl (by rw [← unhide HNN]; have := unhide HNL; omega) (by simp) ?_; rw [← unhide HNN]; intro v5 w5 hO5 hg5; obtain ⟨g, cap, hv5, hgb, hB5, hf5, hty5, G5⟩ : ∃ g cap, v5 = .slice (some ⟨g, 0, none⟩) N cap ∧ wr.heap.size ≤ g ∧ Bts w5 (some ⟨g, 0, none⟩) cap y ∧ (∀ i, w5.frozen? ⟨g, i, none⟩ = false) ∧ Typ w5 g ∧ wr.grownBy w5 none := app_open (unhide HNN) (by have := unhide HNL; omega) hO5 hg5; subst hv5; have hcell : w5.cell? ⟨g, q, none⟩ = some (.int .u8 (xn : Int)) := cell_at hB5 q (unhide HQN) (unhide HXN); have hfq := hf5 q; obtain ⟨w6, hw6, hB6, G6⟩ : ∃ w6, w6 = w5.setCell ⟨g, q, none⟩ (.int .u8 (x2n : Int)) ∧ Bts w6 (some ⟨g, 0, none⟩) cap (y.set q x2) ∧ wr.grownBy w6 none := put_open hB5 q x2 (unhide HX2N) (unhide HQN) G5 hgb; have GK : w2.grownBy w6 none := tr g3 (tr hg G6); have HK6 : Hid (w6.heap[w.heap.size]? = some (.cells (k.map bv).toArray 23 (0, 0))) := hide (by rw [GK.block _ (Array.getElem?_eq_some_iff.1 (unhide HK2)).1 (by simp)]; exact unhide HK2); have HN6 : Hid (w6.heap[w.heap.size + 1]? = some (.cells (n.map bv).toArray 27 (0, 0))) := hide (by rw [GK.block _ (Array.getElem?_eq_some_iff.1 (unhide HN2)).1 (by simp)]; exact unhide HN2); have ho6 := cOn w6 _ _ _ (tr hg1 (tr G2 GK)) hB6 (unhide HNO) (by rw [List.length_set, ← unhide HNN]; have := unhide HNL; omega); rw [List.length_set, ← unhide HNN] at ho6; have HW6 := hide hw6; clear hw6 hB6 hB5 hO5 hg5)
        | (rw [← unhide HW6]; refine wpList_load_row rfl 23 _ rfl w.heap.size rfl _ _ _ _ (unhide HK6) Tryd.underlying23 rfl ?_ ?_; (rw [← unhide HKA, unhide HSK]; exact hi32))
        | (refine wpList_load_row rfl 27 _ rfl (w.heap.size + 1) rfl _ _ _ _ (unhide HN6) Tryd.underlying27 rfl ?_ ?_; (rw [← unhide HNA, unhide HSN]; exact hi12))
        | (go_at_call 9; refine ho6.mono ?_; rintro e w7 ⟨vo, vc, rfl, g7⟩; clear ho6))
      have hfin := tr hg (tr G6 g7)
      have HFIN := hide hfin
      have hq2 := unhide HQ
      go_roundw
      case rel => exact ⟨r + 1, by omega, by rw [show L + (r + 1) = q + 1 by omega]; go_num, unhide HFIN⟩
      case measure => simp [intOf]; omega
    · obtain rfl : r = 16 := by omega
      have q1 : ¬ (q : Int) < (N : Int) := by omega
      have GW := tr G3 hg
      have hBy := (unhide HBY).kept hg (fun _ e => by cases e)
      have fy := hBy.fits
      have hrK2 := range_kept hrK GW (by simp)
      have hrN2 := range_kept hrN GW (by simp)
      have h4 : wr.grownBy wr.drew none := gb_drew (gb_refl _ _)
      have sl15 : ∀ W, (Instr.slice 24 (.slice so N cs) none (some (.int .i64 15)) none).run Tryd.prog W = .ok (.slice so 15 cs) W := fun W => slice_to W _ _ Tryd.underlying24 size_byte so N cs 15 (by have := unhide HNN; omega)
      have ho : ∀ V, wr.grownBy V none → Calls Tryd.prog 9 #[.agg (k.map bv).toArray, .agg (n.map bv).toArray, .slice a0 E c0, .slice so 15 cs] V fun e w' => ∃ bo cb, e = .returned (.tuple #[.slice bo 0 cb, .bool false]) ∧ V.grownBy w' none := fun V gV => by
        have hl : (y.take 15).length = 15 := by rw [List.length_take]; have := unhide HNN; omega
        have h := cOn V so cs (y.take 15) (tr hg1 (tr GW gV)) ((hBy.take 15 (by have := unhide HNN; omega)).kept gV (fun _ e => by cases e)) (open_short k n be _ (by omega)) (by omega)
        rw [hl] at h
        exact h
      have c5 : ∀ V, wr.grownBy V none → Calls Tryd.prog 13 #[] V fun e w' => e = .returned (.bool true) ∧ V.grownBy w' none := fun V gV => c1' V (tr hg1 (tr GW gV))
      clear hBy fy hr hlt hq hnl cOn hturn c1'
      go_upto_region 14 with fail
      refine wp_region_noPanic ?_
      refine wp_region_held_drew (S := fun V => wr.grownBy V none) (by kernel_rfl) h4 (fun _ => ?_)
      refine wpAnyH_take (i := 0) (oi := { dst := some 92, op := Op.load 23 (Operand.tmp 3), type := _, pos := _, after := _, guard := _ }) (v := .agg (k.map bv).toArray) rfl (by kernel_rfl) (by kernel_rfl) (by kernel_rfl) (fun _ _ _ h => h) (yieldsIf_load_mid (by rfl) _ _ rfl _ _ rfl (k.map bv) _ (fun V hV => range_kept hrK2 hV (by simp)) Tryd.underlying23 rfl hiK) h4 ?_
      (try simp only [Act.put, List.setIfInBounds_toArray, List.set_cons_zero, List.set_cons_succ])
      refine wpAnyH_take (i := 1) (oi := { dst := some 93, op := Op.load 27 (Operand.tmp 4), type := _, pos := _, after := _, guard := _ }) (v := .agg (n.map bv).toArray) rfl (by kernel_rfl) (by kernel_rfl) (by kernel_rfl) (fun _ _ _ h => h) (yieldsIf_load_mid (by rfl) _ _ rfl _ _ rfl (n.map bv) _ (fun V hV => range_kept hrN2 hV (by simp)) Tryd.underlying27 rfl hiN) h4 ?_
      (try simp only [Act.put, List.setIfInBounds_toArray, List.set_cons_zero, List.set_cons_succ])
      refine wpAnyH_take (i := 2) (oi := { dst := some 94, op := Op.move (Operand.tmp 7), type := _, pos := _, after := _, guard := _ }) (v := .slice a0 E c0) rfl (by kernel_rfl) (by kernel_rfl) (by kernel_rfl) (fun _ _ _ h => h) (Or.inl ⟨by rfl, fun V (hV : wr.grownBy V none) => by go_simp⟩) h4 ?_
      (try simp only [Act.put, List.setIfInBounds_toArray, List.set_cons_zero, List.set_cons_succ])
      refine wpAnyH_take (i := 3) (oi := { dst := some 95, op := Op.move (Operand.tmp 9), type := _, pos := _, after := _, guard := _ }) (v := .slice so N cs) rfl (by kernel_rfl) (by kernel_rfl) (by kernel_rfl) (fun _ _ _ h => h) (Or.inl ⟨by rfl, fun V (hV : wr.grownBy V none) => by go_simp⟩) h4 ?_
      (try simp only [Act.put, List.setIfInBounds_toArray, List.set_cons_zero, List.set_cons_succ])
      refine wpAnyH_take (i := 4) (oi := { dst := some 96, op := Op.slice 24 (Operand.tmp 95) none (some (Operand.const (Value.int IntKind.i64 15))) none, type := _, pos := _, after := _, guard := _ }) (v := .slice so 15 cs) rfl (by kernel_rfl) (by kernel_rfl) (by kernel_rfl) (fun _ _ _ h => h) (Or.inl ⟨by rfl, fun V (hV : wr.grownBy V none) => by go_simp⟩) h4 ?_
      (try simp only [Act.put, List.setIfInBounds_toArray, List.set_cons_zero, List.set_cons_succ])
      refine wpAnyH_ready (rs := [5]) (by kernel_rfl) (by simp) ?_
      refine AllReadyH.cons (o := { dst := some 97, op := Op.call { callee := Callee.value (Operand.func 9), args := #[(Operand.tmp 92), (Operand.tmp 93), (Operand.tmp 94), (Operand.tmp 96)], argTypes := #[23, 27, 24, 24] }, type := _, pos := _, after := _, guard := _ }) rfl (fun K9 hK9 => ?_) AllReadyH.nil
      go_simp
      go_at_call 9
      refine (ho _ h4).mono ?_
      rintro e w8 ⟨vo, vc, rfl, g8⟩
      go_wp2_with fail
      refine hK9.out _ _ (tr h4 g8) (fun _ => ?_)
      clear hK9 K9
      (try simp only [Act.put, List.setIfInBounds_toArray, List.set_cons_zero, List.set_cons_succ])
      refine wpAnyH_take (i := 6) (oi := { dst := some 91, op := Op.move (Operand.tmp 97), type := _, pos := _, after := _, guard := _ }) (v := .tuple #[.slice vo 0 vc, .bool false]) rfl (by kernel_rfl) (by kernel_rfl) (by kernel_rfl) (fun _ _ _ h => h) (Or.inl ⟨by rfl, fun V (hV : wr.grownBy V none) => by go_simp⟩) (tr h4 g8) ?_
      (try simp only [Act.put, List.setIfInBounds_toArray, List.set_cons_zero, List.set_cons_succ])
      refine wpAnyH_take (i := 7) (oi := { dst := some 98, op := Op.extract (Operand.tmp 91) 0, type := _, pos := _, after := _, guard := _ }) (v := .slice vo 0 vc) rfl (by kernel_rfl) (by kernel_rfl) (by kernel_rfl) (fun _ _ _ h => h) (Or.inl ⟨by rfl, fun V (hV : wr.grownBy V none) => by go_simp⟩) (tr h4 g8) ?_
      (try simp only [Act.put, List.setIfInBounds_toArray, List.set_cons_zero, List.set_cons_succ])
      refine wpAnyH_take (i := 8) (oi := { dst := some 99, op := Op.extract (Operand.tmp 91) 1, type := _, pos := _, after := _, guard := _ }) (v := .bool false) rfl (by kernel_rfl) (by kernel_rfl) (by kernel_rfl) (fun _ _ _ h => h) (Or.inl ⟨by rfl, fun V (hV : wr.grownBy V none) => by go_simp⟩) (tr h4 g8) ?_
      (try simp only [Act.put, List.setIfInBounds_toArray, List.set_cons_zero, List.set_cons_succ])
      refine wpAnyH_take (i := 9) (oi := { dst := some 16, op := Op.assign (Operand.tmp 98), type := _, pos := _, after := _, guard := _ }) (v := .slice vo 0 vc) rfl (by kernel_rfl) (by kernel_rfl) (by kernel_rfl) (fun _ _ _ h => h) (Or.inl ⟨by rfl, fun V (hV : wr.grownBy V none) => by go_simp⟩) (tr h4 g8) ?_
      (try simp only [Act.put, List.setIfInBounds_toArray, List.set_cons_zero, List.set_cons_succ])
      refine wpAnyH_take (i := 10) (oi := { dst := some 17, op := Op.assign (Operand.tmp 99), type := _, pos := _, after := _, guard := _ }) (v := .bool false) rfl (by kernel_rfl) (by kernel_rfl) (by kernel_rfl) (fun _ _ _ h => h) (Or.inl ⟨by rfl, fun V (hV : wr.grownBy V none) => by go_simp⟩) (tr h4 g8) ?_
      (try simp only [Act.put, List.setIfInBounds_toArray, List.set_cons_zero, List.set_cons_succ])
      refine wpAnyH_done (by kernel_rfl) ?_ _
      refine NoPanic.normal ?_
      go_wp2_with (go_at_call 13; refine (c5 _ (tr h4 g8)).mono ?_; rintro e w9 ⟨rfl, g9⟩)
      go_ret
      exact ⟨rfl, tr (tr hg1 GW) (tr (tr h4 g8) g9)⟩
end Go.Proofs.YtceiehkbhebnpaaDoor
