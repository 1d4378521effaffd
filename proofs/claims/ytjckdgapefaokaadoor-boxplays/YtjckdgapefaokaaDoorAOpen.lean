/- What Open answers: what is wrong is thrown from within and caught by a deferred closure. No condition but those that each lemma names. -/
import Derived.Test.YtjckdgapefaokaaDoorBOne
import Derived.Test.YtjckdgapefaokaaDoorATag
import Derived.Defers
import Derived.Recover
import Derived.Laws.Pointers
namespace Go.Proofs.YtjckdgapefaokaaDoor
open Go.RowKit

set_option maxRecDepth 100000 in
theorem catch_thrown (p q : Addr) (x y : Value) (u : TypeId) (pv : Value) (older : List PanicEntry) (w : World) (hc : w.cell? p = some x) (hz : w.frozen? p = false) (hc2 : (w.setCell p (.slice none 0 0)).cell? q = some y) (hz2 : (w.setCell p (.slice none 0 0)).frozen? q = false) :
    CallsD Tryd.prog 65 #[.pointer (some p), .pointer (some q)] (.panicking ({ v := .iface u pv, recovered := false } :: older)) w fun e u' w' =>
      e = .returned (.tuple #[]) ∧ u' = .panicking ({ v := .iface u pv, recovered := true } :: older) ∧ w' = (w.setCell p (.slice none 0 0)).setCell q (.bool false) := by
  refine callsD_of_wpS Tryd.func65 rfl fun c₀ cs hu => ?_
  apply wpS_seq
  apply wpS_region
  simp [wpOpsS, go_sem, recoverD, hu, Tryd.ntmps65, Exit.thenS]
  apply wpS_seq
  apply wpS_region
  simp [wpOpsS, go_sem, Exit.thenS]
  refine wpS_cond (t := true) (by simp [Act.eval, Array.replicate]) ?_
  simp only [if_true]
  apply wpS_region
  simp [wpOpsS, go_sem, hc, hz, hc2, hz2, bodyPostS, results, Tryd.results65]

set_option maxRecDepth 100000 in
theorem catch_none (p q : Addr) (w : World) :
    CallsD Tryd.prog 65 #[.pointer (some p), .pointer (some q)] .returning w fun e u' w' => e = .returned (.tuple #[]) ∧ u' = .returning ∧ w' = w := by
  refine callsD_of_wpS Tryd.func65 rfl fun c₀ cs hu => ?_
  apply wpS_seq
  apply wpS_region
  simp [wpOpsS, go_sem, recoverD, hu, Tryd.ntmps65, Exit.thenS]
  apply wpS_seq
  apply wpS_region
  simp [wpOpsS, go_sem, Exit.thenS]
  refine wpS_cond (t := false) (by simp [Act.eval, Array.replicate]) ?_
  simp only [Bool.false_eq_true, if_false]
  refine wpS_of_wp (wp_skip ?_)
  cases c₀
  simp_all [bodyPostS, results, Tryd.results65]

set_option maxRecDepth 100000 in
set_option maxHeartbeats 1000000 in
theorem open_few (w : World) (k n be y : List UInt8) (bo xo : Option Addr) (cb cx : Nat) (hk : k.length = 32) (hn : n.length = 12) (hs : y.length < 16) :
    Calls Tryd.prog 47 #[.agg (k.map bv).toArray, .agg (n.map bv).toArray, .slice bo be.length cb, .slice xo y.length cx] w fun e w' => e = .returned (.tuple #[.slice none 0 0, .bool false]) ∧ w.grownBy w' none := by
  have tr : ∀ {x y z : World}, x.grownBy y none → y.grownBy z none → x.grownBy z none := fun h k => gb_trans h k (fun _ e => by cases e)
  have hmf : ∀ (fn : Fn) (first cap : Array Value) (w : World), (Instr.makeFunc fn first cap).run Tryd.prog w = .ok (.func fn first cap) w := fun _ _ _ _ => rfl
  have hi32 : (Tryd.prog.info? 37).map (·.size) = some 32 := by kernel_rfl
  have hi12 : (Tryd.prog.info? 64).map (·.size) = some 12 := by kernel_rfl
  obtain ⟨KA, hKA⟩ : ∃ A : Array Value, A = (k.map bv).toArray := ⟨_, rfl⟩
  obtain ⟨NA, hNA⟩ : ∃ A : Array Value, A = (n.map bv).toArray := ⟨_, rfl⟩
  have hsK : KA.size = 32 := by rw [hKA]; simp [hk]
  have hsN : NA.size = 12 := by rw [hNA]; simp [hn]
  obtain ⟨W1, hW1⟩ : ∃ W1, W1 = (((w.alloc (.cells KA 37)).alloc (.cells NA 64)).alloc (.cells #[.slice none 0 0] 22)).alloc (.cells #[.bool false] 4) := ⟨_, rfl⟩
  have hg1 : w.grownBy W1 none := by rw [hW1]; exact gb_alloc (gb_alloc (gb_alloc (gb_alloc (gb_refl _ _) _) _) _) _
  have hK1 : Blk W1 w.heap.size 37 (k.map bv) := by rw [hW1, hKA]; exact (((Blk.new w 37 _).alloc _).alloc _).alloc _
  have hN1 : Blk W1 (w.heap.size + 1) 64 (n.map bv) := by
    have := ((Blk.new (w.alloc (.cells KA 37)) 64 (n.map bv)).alloc (.cells #[.slice none 0 0] 22)).alloc (.cells #[.bool false] 4)
    rw [World.size_alloc] at this
    rw [hW1, hNA]; exact this
  have hT1 : Blk W1 (w.heap.size + 2) 22 [.slice none 0 0] := by
    have := (Blk.new ((w.alloc (.cells KA 37)).alloc (.cells NA 64)) 22 [.slice none 0 0]).alloc (.cells #[.bool false] 4)
    rw [World.size_alloc, World.size_alloc] at this
    rw [hW1]; exact this
  have hO1 : Blk W1 (w.heap.size + 3) 4 [.bool false] := by
    have := Blk.new (((w.alloc (.cells KA 37)).alloc (.cells NA 64)).alloc (.cells #[.slice none 0 0] 22)) 4 [.bool false]
    rw [World.size_alloc, World.size_alloc, World.size_alloc] at this
    rw [hW1]; exact this
  have kb : ∀ V, W1.grownBy V none → V.heap[w.heap.size]? = some (.cells KA 37 (0, 0)) := fun V gV => by rw [hKA]; exact hK1.kept gV (by simp)
  have nb : ∀ V, W1.grownBy V none → V.heap[w.heap.size + 1]? = some (.cells NA 64 (0, 0)) := fun V gV => by rw [hNA]; exact hN1.kept gV (by simp)
  have ho1 := parted_short W1 xo cx y.length hs
  rw [← hKA, ← hNA]
  have HW1 := hide hW1
  have HT1 := hide hT1
  have HO1 := hide hO1
  clear hKA hNA hW1 hK1 hN1 kb nb hT1 hO1 hsK hsN hk hn hs
  go_enter_defers Tryd.func47, Tryd.ntmps47
  go_wp2_with (go_at_call 66; rw [← unhide HW1]; clear HW1; refine ho1.mono ?_; rintro e w2 ⟨⟨s, rfl⟩, g2⟩; clear ho1)
  have hT2 := (unhide HT1).kept g2 (by simp)
  have hO2 := (unhide HO1).kept g2 (by simp)
  have hO3 := hO2.other ⟨w.heap.size + 2, 0, none⟩ (.slice none 0 0) (by simp)
  have hT4 := (hT2.set 0 (.slice none 0 0)).other ⟨w.heap.size + 3, 0, none⟩ (.bool false) (by simp)
  have hO4 := hO3.set 0 (.bool false)
  have hG : w.grownBy ((w2.setCell ⟨w.heap.size + 2, 0, none⟩ (.slice none 0 0)).setCell ⟨w.heap.size + 3, 0, none⟩ (.bool false)) none := gb_setCell (gb_setCell (tr hg1 g2) _ _ (Or.inl (by simp))) _ _ (Or.inl (by simp))
  have c1 : ((w2.setCell ⟨w.heap.size + 2, 0, none⟩ (.slice none 0 0)).setCell ⟨w.heap.size + 3, 0, none⟩ (.bool false)).cell? ⟨w.heap.size + 2, 0, none⟩ = some (.slice none 0 0) := by rw [hT4.cell]; rfl
  have c2 : ((w2.setCell ⟨w.heap.size + 2, 0, none⟩ (.slice none 0 0)).setCell ⟨w.heap.size + 3, 0, none⟩ (.bool false)).cell? ⟨w.heap.size + 3, 0, none⟩ = some (.bool false) := by rw [hO4.cell]; rfl
  refine leaves_cons (f := 65) (args := #[.pointer (some ⟨w.heap.size + 2, 0, none⟩), .pointer (some ⟨w.heap.size + 3, 0, none⟩)]) (by simp) (by simp [go_sem]) ?_
  refine (catch_thrown ⟨w.heap.size + 2, 0, none⟩ ⟨w.heap.size + 3, 0, none⟩ (.slice none 0 0) (.bool false) 25 s [] w2 (by rw [hT2.cell]; rfl) (hT2.fz 0) (by rw [hO3.cell]; rfl) (hO3.fz 0)).mono ?_
  rintro e u' w'' ⟨rfl, rfl, rfl⟩
  simp [Leaves, settle, results, Tryd.results47, go_sem, c1, c2, hG]

set_option maxRecDepth 100000 in
set_option maxHeartbeats 1000000 in
theorem open_other (w : World) (k n be y : List UInt8) (bo xo : Option Addr) (cb cx a : Nat) (hk : k.length = 32) (hn : n.length = 12) (hb : Bts w bo cb be) (hx : Bts w xo cx y) (hbe : be.length ≤ 2000) (hyl : y.length ≤ 2000) (hT : CTab w) (ha : y.length = a + 16) (hne : tagA k n be (y.take a) ≠ y.drop a) :
    Calls Tryd.prog 47 #[.agg (k.map bv).toArray, .agg (n.map bv).toArray, .slice bo be.length cb, .slice xo y.length cx] w fun e w' => e = .returned (.tuple #[.slice none 0 0, .bool false]) ∧ w.grownBy w' none := by
  have tr : ∀ {x y z : World}, x.grownBy y none → y.grownBy z none → x.grownBy z none := fun h k => gb_trans h k (fun _ e => by cases e)
  have hmf : ∀ (fn : Fn) (first cap : Array Value) (w : World), (Instr.makeFunc fn first cap).run Tryd.prog w = .ok (.func fn first cap) w := fun _ _ _ _ => rfl
  have hi32 : (Tryd.prog.info? 37).map (·.size) = some 32 := by kernel_rfl
  have hi12 : (Tryd.prog.info? 64).map (·.size) = some 12 := by kernel_rfl
  obtain ⟨KA, hKA⟩ : ∃ A : Array Value, A = (k.map bv).toArray := ⟨_, rfl⟩
  obtain ⟨NA, hNA⟩ : ∃ A : Array Value, A = (n.map bv).toArray := ⟨_, rfl⟩
  have hsK : KA.size = 32 := by rw [hKA]; simp [hk]
  have hsN : NA.size = 12 := by rw [hNA]; simp [hn]
  obtain ⟨W1, hW1⟩ : ∃ W1, W1 = (((w.alloc (.cells KA 37)).alloc (.cells NA 64)).alloc (.cells #[.slice none 0 0] 22)).alloc (.cells #[.bool false] 4) := ⟨_, rfl⟩
  have hg1 : w.grownBy W1 none := by rw [hW1]; exact gb_alloc (gb_alloc (gb_alloc (gb_alloc (gb_refl _ _) _) _) _) _
  have hK1 : Blk W1 w.heap.size 37 (k.map bv) := by rw [hW1, hKA]; exact (((Blk.new w 37 _).alloc _).alloc _).alloc _
  have hN1 : Blk W1 (w.heap.size + 1) 64 (n.map bv) := by
    have := ((Blk.new (w.alloc (.cells KA 37)) 64 (n.map bv)).alloc (.cells #[.slice none 0 0] 22)).alloc (.cells #[.bool false] 4)
    rw [World.size_alloc] at this
    rw [hW1, hNA]; exact this
  have hT1 : Blk W1 (w.heap.size + 2) 22 [.slice none 0 0] := by
    have := (Blk.new ((w.alloc (.cells KA 37)).alloc (.cells NA 64)) 22 [.slice none 0 0]).alloc (.cells #[.bool false] 4)
    rw [World.size_alloc, World.size_alloc] at this
    rw [hW1]; exact this
  have hO1 : Blk W1 (w.heap.size + 3) 4 [.bool false] := by
    have := Blk.new (((w.alloc (.cells KA 37)).alloc (.cells NA 64)).alloc (.cells #[.slice none 0 0] 22)) 4 [.bool false]
    rw [World.size_alloc, World.size_alloc, World.size_alloc] at this
    rw [hW1]; exact this
  have kb : ∀ V, W1.grownBy V none → V.heap[w.heap.size]? = some (.cells KA 37 (0, 0)) := fun V gV => by rw [hKA]; exact hK1.kept gV (by simp)
  have nb : ∀ V, W1.grownBy V none → V.heap[w.heap.size + 1]? = some (.cells NA 64 (0, 0)) := fun V gV => by rw [hNA]; exact hN1.kept gV (by simp)
  have ho1 := parted_any W1 xo cx a (by have := hx.fits; omega) (by omega)
  obtain ⟨T, hTe⟩ : ∃ T, T = tagA k n be (y.take a) := ⟨_, rfl⟩
  have hTl : T.length = 16 := by rw [hTe]; exact tagA_length _ _ _ _
  have hta : (y.take a).length = a := by rw [List.length_take]; omega
  have cTg : ∀ V, w.grownBy V none → Calls Tryd.prog 38 #[.agg KA, .agg NA, .slice bo be.length cb, .slice xo a cx] V fun e w' => e = .returned (.agg (T.map bv).toArray) ∧ V.grownBy w' none := fun V gV => by
    have h := tag_any V k n be (y.take a) bo xo cb cx hk hn (hb.kept gV (fun _ e => by cases e)) ((hx.take a (by omega)).kept gV (fun _ e => by cases e)) hbe (by omega) (hT.kept0 gV)
    rw [← hTe, ← hKA, ← hNA, hta] at h
    exact h
  have cCk : ∀ V, w.grownBy V none → Calls Tryd.prog 67 #[.agg (T.map bv).toArray, .slice (cutA xo cx a) 16 (cx - a)] V fun e w' => (∃ s, e = .panicked [{ v := .iface 25 s, recovered := false }]) ∧ V.grownBy w' none := fun V gV =>
    check_other V T (y.drop a) hTl (cutA xo cx a) (cx - a) ((hx.drop a (by omega)).kept gV (fun _ e => by cases e)) (by rw [List.length_drop]; omega) (by rw [hTe]; exact hne)
  rw [← hKA, ← hNA, ha]
  obtain ⟨TA, hTA⟩ : ∃ A : Array Value, A = (T.map bv).toArray := ⟨_, rfl⟩
  rw [← hTA] at cTg cCk
  obtain ⟨m, hm⟩ : ∃ m, m = a + 16 := ⟨_, rfl⟩
  rw [← hm] at ho1 ⊢
  have HW1 := hide hW1
  have HKB := hide kb
  have HNB := hide nb
  have HT1 := hide hT1
  have HO1 := hide hO1
  have HSK := hide hsK
  have HSN := hide hsN
  clear hKA hNA hW1 hK1 hN1 kb nb hT1 hO1 hsK hsN hk hn hb hx hbe hyl hT ha hne hTe hTl hta hTA hm
  go_enter_defers Tryd.func47, Tryd.ntmps47
  go_wp2_with (first
    | (go_at_call 66; rw [← unhide HW1]; clear HW1; refine ho1.mono ?_; rintro e w2 ⟨rfl, gg⟩; clear ho1)
    | (refine wpList_load_row rfl 37 _ rfl w.heap.size rfl _ _ _ _ (unhide HKB _ gg) Tryd.underlying37 rfl ?_ ?_; (rw [unhide HSK]; exact hi32))
    | (refine wpList_load_row rfl 64 _ rfl (w.heap.size + 1) rfl _ _ _ _ (unhide HNB _ gg) Tryd.underlying64 rfl ?_ ?_; (rw [unhide HSN]; exact hi12))
    | (go_at_call 38; refine (cTg _ (tr hg1 gg)).mono ?_; rintro e w3 ⟨rfl, g3⟩; clear cTg; have gg3 := tr gg g3)
    | (go_at_call 67; refine (cCk _ (tr hg1 gg3)).mono ?_; rintro e w4 ⟨⟨s, rfl⟩, g4⟩; clear cCk))
  have g2 := tr gg3 g4
  have hT2 := (unhide HT1).kept g2 (by simp)
  have hO2 := (unhide HO1).kept g2 (by simp)
  have hO3 := hO2.other ⟨w.heap.size + 2, 0, none⟩ (.slice none 0 0) (by simp)
  have hT4 := (hT2.set 0 (.slice none 0 0)).other ⟨w.heap.size + 3, 0, none⟩ (.bool false) (by simp)
  have hO4 := hO3.set 0 (.bool false)
  have hG : w.grownBy ((w4.setCell ⟨w.heap.size + 2, 0, none⟩ (.slice none 0 0)).setCell ⟨w.heap.size + 3, 0, none⟩ (.bool false)) none := gb_setCell (gb_setCell (tr hg1 g2) _ _ (Or.inl (by simp))) _ _ (Or.inl (by simp))
  have c1 : ((w4.setCell ⟨w.heap.size + 2, 0, none⟩ (.slice none 0 0)).setCell ⟨w.heap.size + 3, 0, none⟩ (.bool false)).cell? ⟨w.heap.size + 2, 0, none⟩ = some (.slice none 0 0) := by rw [hT4.cell]; rfl
  have c2 : ((w4.setCell ⟨w.heap.size + 2, 0, none⟩ (.slice none 0 0)).setCell ⟨w.heap.size + 3, 0, none⟩ (.bool false)).cell? ⟨w.heap.size + 3, 0, none⟩ = some (.bool false) := by rw [hO4.cell]; rfl
  refine leaves_cons (f := 65) (args := #[.pointer (some ⟨w.heap.size + 2, 0, none⟩), .pointer (some ⟨w.heap.size + 3, 0, none⟩)]) (by simp) (by simp [go_sem]) ?_
  refine (catch_thrown ⟨w.heap.size + 2, 0, none⟩ ⟨w.heap.size + 3, 0, none⟩ (.slice none 0 0) (.bool false) 25 s [] w4 (by rw [hT2.cell]; rfl) (hT2.fz 0) (by rw [hO3.cell]; rfl) (hO3.fz 0)).mono ?_
  rintro e u' w'' ⟨rfl, rfl, rfl⟩
  simp [Leaves, settle, results, Tryd.results47, go_sem, c1, c2, hG]

set_option maxRecDepth 100000 in
set_option maxHeartbeats 1000000 in
theorem open_fine (w : World) (k n be y : List UInt8) (bo xo : Option Addr) (cb cx a : Nat) (hk : k.length = 32) (hn : n.length = 12) (hb : Bts w bo cb be) (hx : Bts w xo cx y) (hbe : be.length ≤ 2000) (hyl : y.length ≤ 2000) (hT : CTab w) (ha : y.length = a + 16) (hsame : tagA k n be (y.take a) = y.drop a) :
    Calls Tryd.prog 47 #[.agg (k.map bv).toArray, .agg (n.map bv).toArray, .slice bo be.length cb, .slice xo y.length cx] w fun e w' => ∃ v, e = .returned (.tuple #[v, .bool true]) ∧ NewB w w' v (streamL k n 1 (y.take a)) ∧ w.grownBy w' none := by
  have tr : ∀ {x y z : World}, x.grownBy y none → y.grownBy z none → x.grownBy z none := fun h k => gb_trans h k (fun _ e => by cases e)
  have hmf : ∀ (fn : Fn) (first cap : Array Value) (w : World), (Instr.makeFunc fn first cap).run Tryd.prog w = .ok (.func fn first cap) w := fun _ _ _ _ => rfl
  have hi32 : (Tryd.prog.info? 37).map (·.size) = some 32 := by kernel_rfl
  have hi12 : (Tryd.prog.info? 64).map (·.size) = some 12 := by kernel_rfl
  obtain ⟨KA, hKA⟩ : ∃ A : Array Value, A = (k.map bv).toArray := ⟨_, rfl⟩
  obtain ⟨NA, hNA⟩ : ∃ A : Array Value, A = (n.map bv).toArray := ⟨_, rfl⟩
  have hsK : KA.size = 32 := by rw [hKA]; simp [hk]
  have hsN : NA.size = 12 := by rw [hNA]; simp [hn]
  obtain ⟨W1, hW1⟩ : ∃ W1, W1 = (((w.alloc (.cells KA 37)).alloc (.cells NA 64)).alloc (.cells #[.slice none 0 0] 22)).alloc (.cells #[.bool false] 4) := ⟨_, rfl⟩
  have hg1 : w.grownBy W1 none := by rw [hW1]; exact gb_alloc (gb_alloc (gb_alloc (gb_alloc (gb_refl _ _) _) _) _) _
  have hK1 : Blk W1 w.heap.size 37 (k.map bv) := by rw [hW1, hKA]; exact (((Blk.new w 37 _).alloc _).alloc _).alloc _
  have hN1 : Blk W1 (w.heap.size + 1) 64 (n.map bv) := by
    have := ((Blk.new (w.alloc (.cells KA 37)) 64 (n.map bv)).alloc (.cells #[.slice none 0 0] 22)).alloc (.cells #[.bool false] 4)
    rw [World.size_alloc] at this
    rw [hW1, hNA]; exact this
  have hT1 : Blk W1 (w.heap.size + 2) 22 [.slice none 0 0] := by
    have := (Blk.new ((w.alloc (.cells KA 37)).alloc (.cells NA 64)) 22 [.slice none 0 0]).alloc (.cells #[.bool false] 4)
    rw [World.size_alloc, World.size_alloc] at this
    rw [hW1]; exact this
  have hO1 : Blk W1 (w.heap.size + 3) 4 [.bool false] := by
    have := Blk.new (((w.alloc (.cells KA 37)).alloc (.cells NA 64)).alloc (.cells #[.slice none 0 0] 22)) 4 [.bool false]
    rw [World.size_alloc, World.size_alloc, World.size_alloc] at this
    rw [hW1]; exact this
  have kb : ∀ V, W1.grownBy V none → V.heap[w.heap.size]? = some (.cells KA 37 (0, 0)) := fun V gV => by rw [hKA]; exact hK1.kept gV (by simp)
  have nb : ∀ V, W1.grownBy V none → V.heap[w.heap.size + 1]? = some (.cells NA 64 (0, 0)) := fun V gV => by rw [hNA]; exact hN1.kept gV (by simp)
  have ho1 := parted_any W1 xo cx a (by have := hx.fits; omega) (by omega)
  obtain ⟨T, hTe⟩ : ∃ T, T = tagA k n be (y.take a) := ⟨_, rfl⟩
  have hTl : T.length = 16 := by rw [hTe]; exact tagA_length _ _ _ _
  have hta : (y.take a).length = a := by rw [List.length_take]; omega
  have cTg : ∀ V, w.grownBy V none → Calls Tryd.prog 38 #[.agg KA, .agg NA, .slice bo be.length cb, .slice xo a cx] V fun e w' => e = .returned (.agg (T.map bv).toArray) ∧ V.grownBy w' none := fun V gV => by
    have h := tag_any V k n be (y.take a) bo xo cb cx hk hn (hb.kept gV (fun _ e => by cases e)) ((hx.take a (by omega)).kept gV (fun _ e => by cases e)) hbe (by omega) (hT.kept0 gV)
    rw [← hTe, ← hKA, ← hNA, hta] at h
    exact h
  have cCk : ∀ V, w.grownBy V none → Calls Tryd.prog 67 #[.agg (T.map bv).toArray, .slice (cutA xo cx a) 16 (cx - a)] V fun e w' => e = .returned (.tuple #[]) ∧ V.grownBy w' none := fun V gV =>
    check_same V T hTl (cutA xo cx a) (cx - a) (by rw [hTe, hsame]; exact (hx.drop a (by omega)).kept gV (fun _ e => by cases e))
  obtain ⟨s, hs⟩ : ∃ s, s = streamL k n 1 (y.take a) := ⟨_, rfl⟩
  have hsl : s.length = a := by rw [hs, streamL_length, hta]
  have cSt : ∀ V, w.grownBy V none → Calls Tryd.prog 37 #[.agg KA, .agg NA, .int .u32 1, .slice xo a cx] V fun e w' => e = .returned (.slice (some ⟨V.heap.size + 2, 0, none⟩) a a) ∧ Blk w' (V.heap.size + 2) 5 (s.map bv) ∧ V.grownBy w' none := fun V gV => by
    have h := stream_any V k n 1 hk hn xo cx (y.take a) ((hx.take a (by omega)).kept gV (fun _ e => by cases e)) (by omega) (hT.kept0 gV)
    rw [show wz 1 = 1 from rfl, ← hs, ← hKA, ← hNA, hta] at h
    exact h
  rw [← hKA, ← hNA, ha, ← hs]
  obtain ⟨TA, hTA⟩ : ∃ A : Array Value, A = (T.map bv).toArray := ⟨_, rfl⟩
  rw [← hTA] at cTg cCk
  obtain ⟨m, hm⟩ : ∃ m, m = a + 16 := ⟨_, rfl⟩
  rw [← hm] at ho1 ⊢
  have hs1 : w.heap.size + 4 ≤ W1.heap.size := by rw [hW1, World.size_alloc, World.size_alloc, World.size_alloc, World.size_alloc]; omega
  have hal : a ≤ 2000 := by omega
  have HW1 := hide hW1
  have HKB := hide kb
  have HNB := hide nb
  have HT1 := hide hT1
  have HO1 := hide hO1
  have HSK := hide hsK
  have HSN := hide hsN
  have HSL := hide hsl
  have HS1 := hide hs1
  have HAL := hide hal
  clear hKA hNA hW1 hK1 hN1 kb nb hT1 hO1 hsK hsN hk hn hb hx hbe hyl hT ha hsame hTe hTl hta hTA hm hs hsl hs1 hal
  go_enter_defers Tryd.func47, Tryd.ntmps47
  go_wp2_with (first
    | (go_at_call 66; rw [← unhide HW1]; clear HW1; refine ho1.mono ?_; rintro e w2 ⟨rfl, gg⟩; clear ho1)
    | (refine wpList_load_row rfl 37 _ rfl w.heap.size rfl _ _ _ _ (unhide HKB _ gg) Tryd.underlying37 rfl ?_ ?_; (rw [unhide HSK]; exact hi32))
    | (refine wpList_load_row rfl 64 _ rfl (w.heap.size + 1) rfl _ _ _ _ (unhide HNB _ gg) Tryd.underlying64 rfl ?_ ?_; (rw [unhide HSN]; exact hi12))
    | (go_at_call 38; refine (cTg _ (tr hg1 gg)).mono ?_; rintro e w3 ⟨rfl, g3⟩; clear cTg; have gg3 := tr gg g3)
    | (go_at_call 67; refine (cCk _ (tr hg1 gg3)).mono ?_; rintro e w4 ⟨rfl, g4⟩; clear cCk; have gg4 := tr gg3 g4; clear gg; have gg := gg4)
    | (go_at_call 37; refine (cSt _ (tr hg1 gg)).mono ?_; rintro e w5 ⟨rfl, hS5, g5⟩; clear cSt; have hq : w.heap.size + 4 ≤ w4.heap.size := Nat.le_trans (unhide HS1) gg.size; obtain ⟨p, hp⟩ : ∃ p, p = w4.heap.size + 2 := ⟨_, rfl⟩; rw [← hp] at hS5 ⊢; have hp4 : w.heap.size + 4 ≤ p := (by omega); have g6 := tr gg g5; have hT2 := (unhide HT1).kept g6 (by simp); have hO2 := (unhide HO1).kept g6 (by simp); have cT : w5.cell? ⟨w.heap.size + 2, 0, none⟩ = some (.slice none 0 0) := (by rw [hT2.cell]; rfl); have fT := hT2.fz 0; have hO3 := hO2.other ⟨w.heap.size + 2, 0, none⟩ (.slice (some ⟨p, 0, none⟩) a a) (by simp); have cO : (w5.setCell ⟨w.heap.size + 2, 0, none⟩ (.slice (some ⟨p, 0, none⟩) a a)).cell? ⟨w.heap.size + 3, 0, none⟩ = some (.bool false) := (by rw [hO3.cell]; rfl); have fO := hO3.fz 0; have HT2 := hide hT2; have HO3 := hide hO3; have HS5 := hide hS5; have HP4 := hide hp4; clear hT2 hO2 hO3 hS5 hp hp4 hq))
  have hT3 := (unhide HT2).set 0 (.slice (some ⟨p, 0, none⟩) a a)
  have hT4 := hT3.other ⟨w.heap.size + 3, 0, none⟩ (.bool true) (by simp)
  have hO4 := (unhide HO3).set 0 (.bool true)
  have hp4 := unhide HP4
  have hS6 := ((unhide HS5).other ⟨w.heap.size + 2, 0, none⟩ (.slice (some ⟨p, 0, none⟩) a a) (by simp; omega)).other ⟨w.heap.size + 3, 0, none⟩ (.bool true) (by simp; omega)
  have hG : w.grownBy ((w5.setCell ⟨w.heap.size + 2, 0, none⟩ (.slice (some ⟨p, 0, none⟩) a a)).setCell ⟨w.heap.size + 3, 0, none⟩ (.bool true)) none := gb_setCell (gb_setCell (tr hg1 g6) _ _ (Or.inl (by simp))) _ _ (Or.inl (by simp))
  have hfin : NewB w ((w5.setCell ⟨w.heap.size + 2, 0, none⟩ (.slice (some ⟨p, 0, none⟩) a a)).setCell ⟨w.heap.size + 3, 0, none⟩ (.bool true)) (.slice (some ⟨p, 0, none⟩) a a) s := by
    refine NewB.own ?_
    rw [unhide HSL]
    exact own_at hS6 (by omega) (unhide HSL).symm (unhide HAL)
  have c1 : ((w5.setCell ⟨w.heap.size + 2, 0, none⟩ (.slice (some ⟨p, 0, none⟩) a a)).setCell ⟨w.heap.size + 3, 0, none⟩ (.bool true)).cell? ⟨w.heap.size + 2, 0, none⟩ = some (.slice (some ⟨p, 0, none⟩) a a) := by rw [hT4.cell]; rfl
  have c2 : ((w5.setCell ⟨w.heap.size + 2, 0, none⟩ (.slice (some ⟨p, 0, none⟩) a a)).setCell ⟨w.heap.size + 3, 0, none⟩ (.bool true)).cell? ⟨w.heap.size + 3, 0, none⟩ = some (.bool true) := by rw [hO4.cell]; rfl
  refine leaves_cons (f := 65) (args := #[.pointer (some ⟨w.heap.size + 2, 0, none⟩), .pointer (some ⟨w.heap.size + 3, 0, none⟩)]) (by simp) (by simp [go_sem]) ?_
  refine (catch_none ⟨w.heap.size + 2, 0, none⟩ ⟨w.heap.size + 3, 0, none⟩ _).mono ?_
  rintro e u' w'' ⟨rfl, rfl, rfl⟩
  simp [Leaves, settle, results, Tryd.results47, go_sem, c1, c2, hG, hfin]

/-- What Seal, Open and Tag answer. -/
theorem aead_ok : AeadC where
  sealed := fun w k n be t bo xo cb cx hk hn hb hx hbe ht hT => seal_of tag_any w k n be t bo xo cb cx hk hn hb hx hbe ht hT
  opened := fun w k n be y bo xo cb cx hk hn hb hx hbe hyl hT => by
    by_cases hs : y.length < 16
    · refine (open_few w k n be y bo xo cb cx hk hn hs).mono ?_
      rintro e w' ⟨rfl, g⟩
      rw [openL_no (open_short k n be y hs), open_short k n be y hs]
      exact ⟨_, rfl, NewB.nil _ _, g⟩
    · obtain ⟨a, ha⟩ : ∃ a, y.length = a + 16 := ⟨y.length - 16, by omega⟩
      have ha2 : y.length - 16 = a := by omega
      have hd : decide (16 ≤ y.length) = true := decide_eq_true (by omega)
      by_cases hsame : tagA k n be (y.take a) = y.drop a
      · have ho : openB k n be y = true := by rw [openB, ha2, hd, hsame]; simp
        refine (open_fine w k n be y bo xo cb cx a hk hn hb hx hbe hyl hT ha hsame).mono ?_
        rintro e w' ⟨v, rfl, hv, g⟩
        rw [openL, if_pos ho, ho, ha2]
        exact ⟨_, rfl, hv, g⟩
      · have ho : openB k n be y = false := by rw [openB, ha2, hd, beq_eq_false_iff_ne.2 hsame]; rfl
        refine (open_other w k n be y bo xo cb cx a hk hn hb hx hbe hyl hT ha hsame).mono ?_
        rintro e w' ⟨rfl, g⟩
        rw [openL_no ho, ho]
        exact ⟨_, rfl, NewB.nil _ _, g⟩
  tag := tag_any

end Go.Proofs.YtjckdgapefaokaaDoor
