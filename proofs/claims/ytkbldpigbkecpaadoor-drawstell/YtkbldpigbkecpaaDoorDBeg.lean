/- What begin, Used and Clone of draws' Source answer. No condition but those that each lemma names. -/
import Derived.Test.YtkbldpigbkecpaaDoorDEq
namespace Go.Proofs.YtkbldpigbkecpaaDoor
open Go.RowKit

theorem info_src : (Tryd.prog.info? 37).map (·.size) = some 35 := by kernel_rfl

theorem built_zero : Tryd.prog.built 37 [] = some zeroC.toArray := by kernel_rfl

theorem not_plain (T : List UInt8) (u : Nat) : ¬ (T.drop u = [] ∧ shaL T = List.replicate 32 0 ∧ ((u : Nat) : Int) = 0) := by
  rintro ⟨h1, h2, h3⟩
  obtain rfl : u = 0 := by omega
  rw [List.drop_zero] at h1
  subst h1
  exact sha_nothing h2

/-- Two structs held against each other, by what is known of that. -/
theorem wpList_same {P : Program} {ops : Array Oper} {rest : List Oper} {o : Oper} {a : Act} {w : World} {Q : Exit → Act → World → Prop} (hg : o.guard = none) (t t' : TypeId) (x y : Operand) (ho : o.op = .binOp .eql t x y t') (X Z : Array Value) (r : Bool)
    (hx : a.eval x = .agg X) (hy : a.eval y = .agg Z) (hm : P.eqGuardType P.depth t = false) (hq : (binOp .eql t (.agg X) (.agg Z)).run P w = .ok (.bool r) w)
    (h : wpList P ops Q rest (a.put o.dst (.bool r)) w) : wpList P ops Q (o :: rest) a w :=
  wpList_plain hg fun K hK => by
    unfold Oper.wp execOp
    simp only [ho, hx, hy, Sem.run_bind, run_eqGuard_agg w .eql t x y X Z hm, hq, Result.andThen_ok]
    exact hK _ _ h

theorem guard_src : Tryd.prog.eqGuardType Tryd.prog.depth 37 = false := by kernel_rfl

set_option maxRecDepth 100000 in
theorem begin_src (w : World) (b : Nat) (T : List UInt8) (u : Nat) (h : SrcAt w b T u) :
    Calls Tryd.prog 22 #[.pointer (some ⟨b, 0, none⟩)] w fun e w' => e = .returned (.tuple #[]) ∧ w' = w := by
  have hq := eql_src w (T.drop u) (shaL T) (shaL_length _) ((u - T.length : Nat) : Int) (u : Int) (not_plain T u)
  have hB : w.heap[b]? = some (.cells (srcC T u).toArray 37 (0, 0)) := h.blk
  have hsz : (srcC T u).toArray.size = 35 := by simpa using srcC_length T u
  have hbz := built_zero
  rw [show Value.string (str (T.drop u)) :: ((shaL T).map bv ++ [.int .u64 ((u - T.length : Nat) : Int), .int .i64 (u : Int)]) = srcC T u from rfl] at hq
  obtain ⟨X, hX⟩ : ∃ X, X = (srcC T u).toArray := ⟨_, rfl⟩
  obtain ⟨Z, hZ⟩ : ∃ Z, Z = zeroC.toArray := ⟨_, rfl⟩
  rw [← hX] at hq hB hsz
  rw [← hZ] at hbz hq
  have HQ := hide hq
  clear hq
  have HB := hide hB
  have HBZ := hide hbz
  have HSZ := hide hsz
  clear hX hZ hB hbz hsz h
  go_enter Tryd.func22, Tryd.ntmps22
  go_wp2_with (first
    | (refine wpList_load_row rfl 37 _ rfl b rfl _ _ _ _ (unhide HB) Tryd.underlying37 rfl ?_ ?_; (rw [unhide HSZ]; exact info_src))
    | (refine wpList_built rfl 37 _ rfl Z ?hbz ?_)
    | (refine wpList_same rfl 37 _ _ _ rfl _ _ _ rfl rfl guard_src (unhide HQ) ?_))
  case hbz => exact unhide HBZ
  go_end0
  exact ⟨rfl, rfl⟩

set_option maxRecDepth 100000 in
theorem begin_plain (w : World) (b : Nat) (h : Blk w b 37 zeroC) (hg : Glb b) (hT : Tabs w) :
    Calls Tryd.prog 22 #[.pointer (some ⟨b, 0, none⟩)] w fun e w' => e = .returned (.tuple #[]) ∧ SrcAt w' b [] 0 ∧ w.grownBy w' (some b) := by
  have hq := eql_zero w
  have hB : w.heap[b]? = some (.cells zeroC.toArray 37 (0, 0)) := h
  have hsz : zeroC.toArray.size = 35 := by rfl
  have hbz := built_zero
  have hn := dnew_any w none 0 [] ⟨(fun _ => ⟨rfl, rfl⟩), Nat.le_refl _, Nat.zero_le _, (fun _ e => by cases e), (fun _ e => by cases e)⟩ hT (by simp)
  have hsr : (srcC [] 0).toArray.size = 35 := by simpa using srcC_length [] 0
  have hone := all_oneCell_toArray (srcC_one [] 0)
  have hlt := h.lt
  obtain ⟨Z, hZ⟩ : ∃ Z, Z = zeroC.toArray := ⟨_, rfl⟩
  obtain ⟨X, hX⟩ : ∃ X, X = srcC [] 0 := ⟨_, rfl⟩
  rw [← hZ] at hbz hq hB hsz
  rw [← hX] at hsr hone
  have HQ := hide hq
  clear hq
  have HB := hide hB
  have HBZ := hide hbz
  have HSZ := hide hsz
  have HSR := hide hsr
  have HX := hide hX
  clear hX hZ hB hbz hsz hsr h hT
  go_enter Tryd.func22, Tryd.ntmps22
  go_wp2_with (first
    | (refine wpList_load_row rfl 37 _ rfl b rfl _ _ _ _ (unhide HB) Tryd.underlying37 rfl ?_ ?_; (rw [unhide HSZ]; exact info_src))
    | (refine wpList_built rfl 37 _ rfl Z ?hbz ?_)
    | (refine wpList_same rfl 37 _ _ _ rfl _ _ _ rfl rfl guard_src (unhide HQ) ?_)
    | (go_at_call 6; refine hn.mono ?_; rintro e w2 ⟨n, rfl, hnb, hS, g2⟩; have hB2 : w2.heap[n]? = some (.cells X.toArray 37 (0, 0)) := (by have := hS.blk; rw [List.flatten_nil, ← unhide HX] at this; exact this); have hO2 : w2.heap[b]? = some (.cells Z 37 (0, 0)) := (by rw [g2.block b hlt (by simp)]; exact unhide HB); clear hn hS)
    | (refine wpList_load_row rfl 37 _ rfl n rfl _ _ _ _ hB2 Tryd.underlying37 rfl ?_ ?_; (rw [unhide HSR]; exact info_src))
    | (refine wpList_store_row rfl 37 _ _ rfl b _ rfl rfl _ _ hO2 ?_ ?_ hone ?_; (rw [unhide HSR]; exact info_src); (rw [unhide HSR, unhide HSZ])))
  case hbz => exact unhide HBZ
  go_end0
  refine ⟨rfl, ⟨?_, hg⟩, gb_row (gb_none _ g2) _ (Or.inr rfl)⟩
  rw [← unhide HX]
  have hO3 : Blk w2 b 37 Z.toList := by unfold Blk; simpa using hO2
  exact hO3.row X

theorem used_nil (w : World) : Calls Tryd.prog 9 #[.pointer none] w fun e w' => e = .returned (.int .i64 0) ∧ w' = w := by
  go_enter Tryd.func9, Tryd.ntmps9
  go_wp2
  go_ret
  exact ⟨rfl, rfl⟩

theorem SrcAt.used {w : World} {b : Nat} {T : List UInt8} {u : Nat} (h : SrcAt w b T u) : w.cell? ⟨b, 34, none⟩ = some (.int .i64 u) := by
  rw [h.blk.cell]
  simp [srcC, shaL_length]
theorem SrcAt.followed {w : World} {b : Nat} {T : List UInt8} {u : Nat} (h : SrcAt w b T u) : w.cell? ⟨b, 33, none⟩ = some (.int .u64 ((u - T.length : Nat) : Int)) := by
  rw [h.blk.cell]
  simp [srcC, shaL_length]
theorem SrcAt.ahead {w : World} {b : Nat} {T : List UInt8} {u : Nat} (h : SrcAt w b T u) : w.cell? ⟨b, 0, none⟩ = some (.string (str (T.drop u))) := by
  rw [h.blk.cell]
  simp [srcC]

theorem used_any (w : World) (b : Nat) (T : List UInt8) (u : Nat) (h : SrcAt w b T u) :
    Calls Tryd.prog 9 #[.pointer (some ⟨b, 0, none⟩)] w fun e w' => e = .returned (.int .i64 u) ∧ w' = w := by
  have hc := h.used
  clear h
  go_enter Tryd.func9, Tryd.ntmps9
  go_wp2
  go_ret
  exact ⟨rfl, rfl⟩

theorem clone_nil (w : World) : Calls Tryd.prog 12 #[.pointer none] w fun e w' => e = .returned (.pointer none) ∧ w' = w := by
  go_enter Tryd.func12, Tryd.ntmps12
  go_wp2
  go_ret
  exact ⟨rfl, rfl⟩

set_option maxRecDepth 100000 in
theorem clone_any (w : World) (b : Nat) (T : List UInt8) (u : Nat) (h : SrcAt w b T u) (hT : Tabs w) :
    Calls Tryd.prog 12 #[.pointer (some ⟨b, 0, none⟩)] w fun e w' => ∃ n, e = .returned (.pointer (some ⟨n, 0, none⟩)) ∧ w.heap.size ≤ n ∧ SrcAt w' n T u ∧ w.grownBy w' none := by
  have hB : w.heap[b]? = some (.cells (srcC T u).toArray 37 (0, 0)) := h.blk
  have hsz : (srcC T u).toArray.size = 35 := by simpa using srcC_length T u
  have hone := all_oneCell_toArray (srcC_one T u)
  have hzv := zero_src
  obtain ⟨Z, hZ⟩ : ∃ Z, Z = zeroC := ⟨_, rfl⟩
  have hsz0 : Z.toArray.size = 35 := by rw [hZ]; rfl
  obtain ⟨X, hX⟩ : ∃ X, X = srcC T u := ⟨_, rfl⟩
  rw [← hX] at hB hsz hone
  rw [← hZ] at hzv
  have hN : (w.alloc (.cells Z.toArray 37)).heap[w.heap.size]? = some (.cells Z.toArray 37 (0, 0)) := heap_alloc_new w _
  have HB := hide hB
  have HSZ := hide hsz
  have HSO := hide hsz0
  have HN := hide hN
  have HX := hide hX
  clear hX hZ hB hsz hsz0 h hN
  go_enter Tryd.func12, Tryd.ntmps12
  go_wp2_with (first
    | (refine wpList_load_row rfl 37 _ rfl b rfl _ _ _ _ (unhide HB) Tryd.underlying37 rfl ?_ ?_; (rw [unhide HSZ]; exact info_src))
    | (refine wpList_store_row rfl 37 _ _ rfl w.heap.size _ rfl rfl _ _ (unhide HN) ?_ ?_ hone ?_; (rw [unhide HSZ]; exact info_src); (rw [unhide HSZ, unhide HSO])))
  go_ret
  refine ⟨_, rfl, Nat.le_refl _, ⟨?_, hT.glb (Nat.le_refl _)⟩, gb_row (gb_alloc (gb_refl _ _) _) _ (Or.inl (Nat.le_refl _))⟩
  rw [← unhide HX]
  exact (Blk.new w _ Z).row X

end Go.Proofs.YtkbldpigbkecpaaDoor
