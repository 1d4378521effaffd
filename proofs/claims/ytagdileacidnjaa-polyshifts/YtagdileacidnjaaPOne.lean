/- A tag that is known, reckoned; and the law package's one: it answers true, and nothing that was in memory has changed. -/
import Derived.Test.YtagdileacidnjaaPSum
import Derived.Test.YtagdileacidnjaaPLaw
import Derived.Stop.BytesEq
import Derived.Laws.Tables
namespace Go.Proofs.Ytagdileacidnjaa
open Go.RowKit

def k2 : List UInt8 := 2 :: List.replicate 31 0
def f16 : List UInt8 := List.replicate 16 255
set_option maxRecDepth 100000 in
theorem tag_known : tagL k2 f16 = 3 :: List.replicate 15 0 := by kernel_rfl

/-- Two tags held against one another. -/
theorem eql_tags (w : World) (xs ys : List UInt8) (hx : xs.length = 16) (hy : ys.length = 16) : (binOp .eql 24 (.agg (xs.map bv).toArray) (.agg (ys.map bv).toArray)).run Try.prog w = .ok (.bool (xs == ys)) w :=
  run_eql_bytes w 24 5 16 Try.underlying24 Try.underlying5 size_byte xs ys hx hy
theorem eql_same (w : World) (xs : List UInt8) (hx : xs.length = 16) : (binOp .eql 24 (.agg (xs.map bv).toArray) (.agg (xs.map bv).toArray)).run Try.prog w = .ok (.bool true) w := by
  rw [eql_tags w xs xs hx hx]
  simp

theorem zero32b (w : World) : (zeroValue 22).run Try.prog w = .ok (.agg ((List.replicate 32 (0 : UInt8)).map bv).toArray) w := by kernel_rfl

theorem built_key : Try.prog.built 22 [(0, .int .u8 2)] = some (k2.map bv).toArray := by kernel_rfl
theorem built_tag : Try.prog.built 24 [(0, .int .u8 3)] = some ((3 :: List.replicate 15 (0 : UInt8)).map bv).toArray := by kernel_rfl
/-- An array that is built of what is known. -/
theorem wpList_known {P : Program} {ops : Array Oper} {rest : List Oper} {o : Oper} {a : Act} {w : World} {Q : Exit → Act → World → Prop} (hg : o.guard = none) (t : TypeId) (parts : Array (Nat × Operand)) (ho : o.op = .build t parts) (cells : Array Value)
    (hf : P.built t (parts.map fun (i, x) => (i, a.eval x)).toList = some cells)
    (h : wpList P ops Q rest (a.put o.dst (.agg cells)) w) : wpList P ops Q (o :: rest) a w :=
  wpList_build hg t parts ho (by rw [hf]; rfl) (by rw [hf]; exact h)

set_option maxRecDepth 100000 in
set_option maxHeartbeats 1000000 in
theorem pone_any (w : World) :
    Calls Try.prog 11 #[] w fun e w' => e = .returned (.bool true) ∧ w.grownBy w' none := by
  have hi16 : (Try.prog.info? 24).map (·.size) = some 16 := by kernel_rfl
  have hi32 : (Try.prog.info? 22).map (·.size) = some 32 := by kernel_rfl
  obtain ⟨Z, hZ⟩ : ∃ A : Array Value, A = ((List.replicate 16 (0 : UInt8)).map bv).toArray := ⟨_, rfl⟩
  have hz := zero16b
  rw [← hZ] at hz
  obtain ⟨Y, hY⟩ : ∃ A : Array Value, A = ((List.replicate 32 (0 : UInt8)).map bv).toArray := ⟨_, rfl⟩
  have hy := zero32b
  rw [← hY] at hy
  have hbk := built_key
  have hbt := built_tag
  obtain ⟨T, hT⟩ : ∃ T : List UInt8, T = 3 :: List.replicate 15 0 := ⟨_, rfl⟩
  have hTl : T.length = 16 := by rw [hT]; rfl
  rw [← hT] at hbt
  have hsT : ((T.map bv).toArray).size = 16 := by simp [hTl]
  have heq := fun V => eql_same V T hTl
  obtain ⟨k, hk⟩ : ∃ k, k = k2 := ⟨_, rfl⟩
  rw [← hk] at hbk
  have hkl : k.length = 32 := by rw [hk]; rfl
  have hsK : ((k.map bv).toArray).size = 32 := by simp [hkl]
  have ef : (#[.int .u8 255, .int .u8 255, .int .u8 255, .int .u8 255, .int .u8 255, .int .u8 255, .int .u8 255, .int .u8 255, .int .u8 255, .int .u8 255, .int .u8 255, .int .u8 255, .int .u8 255, .int .u8 255, .int .u8 255, .int .u8 255] : Array Value) = (f16.map bv).toArray := by kernel_rfl
  have hN1 : Blk (w.alloc (.cells Y 22)) w.heap.size 22 ((List.replicate 32 (0 : UInt8)).map bv) := by rw [hY]; exact Blk.new w 22 _
  obtain ⟨W1, hW1⟩ : ∃ W1, W1 = (w.alloc (.cells Y 22)).setRow w.heap.size (k.map bv).toArray := ⟨_, rfl⟩
  have hK1 : Blk W1 w.heap.size 22 (k.map bv) := by rw [hW1]; exact hN1.row _
  have hg1 : w.grownBy W1 none := by rw [hW1]; exact gb_row (gb_alloc (gb_refl _ _) _) _ (Or.inl (Nat.le_refl _))
  obtain ⟨W2, hW2⟩ : ∃ W2, W2 = W1.alloc (.cells (#[.int .u8 255, .int .u8 255, .int .u8 255, .int .u8 255, .int .u8 255, .int .u8 255, .int .u8 255, .int .u8 255, .int .u8 255, .int .u8 255, .int .u8 255, .int .u8 255, .int .u8 255, .int .u8 255, .int .u8 255, .int .u8 255] : Array Value) 5) := ⟨_, rfl⟩
  have hg2 : w.grownBy W2 none := by rw [hW2]; exact gb_alloc hg1 _
  have hF2 : Blk W2 W1.heap.size 5 (f16.map bv) := by rw [hW2, ef]; exact Blk.new W1 5 (f16.map bv)
  have hs := psum_any W2 k hkl _ 16 f16 (blk_bytes hF2 16 (by rw [show f16.length = 16 from rfl]; omega) (by unfold maxLen; omega)) (by rw [show f16.length = 16 from rfl]; omega)
  rw [show f16.length = 16 from rfl, hk, tag_known, ← hk, ← hT] at hs
  have HKE := hide hk
  have HTE := hide hT
  have HBK := hide hbk
  have HBT := hide hbt
  have HW1 := hide hW1
  have HW2 := hide hW2
  have HN1 := hide hN1
  have HK1 := hide hK1
  have HZ := hide hZ
  have HST := hide hsT
  have HSK := hide hsK
  clear hbk hbt ef hW1 hW2 hN1 hK1 hY hZ hsT hsK hT hTl hF2 hk hkl
  go_enter Try.func11, Try.ntmps11
  go_wp2_with (first
    | (refine wpList_known rfl 22 _ rfl (k.map bv).toArray ?_ ?_; (first | exact unhide HBK | (rw [unhide HKE]; kernel_rfl)))
    | (refine wpList_store_row rfl 22 _ _ rfl w.heap.size _ rfl rfl _ _ (unhide HN1) ?_ ?_ ?_ ?_; (rw [unhide HSK]; exact hi32); (rw [unhide HSK]; rfl); (exact all_oneCell_toArray (bv_one _)); rw [← unhide HW1])
    | (refine wpList_load_row rfl 22 _ rfl w.heap.size rfl _ _ _ _ (unhide HK1) Try.underlying22 rfl ?_ ?_; (rw [unhide HSK]; exact hi32)))
  rw [← unhide HW2]
  refine hs.mono ?_
  rintro e w2 ⟨rfl, g2⟩
  clear hs
  have G2 := gb_trans hg2 g2 (fun _ e => by cases e)
  have hN2 : Blk (w2.alloc (.cells Z 24)) w2.heap.size 24 ((List.replicate 16 (0 : UInt8)).map bv) := by
    rw [unhide HZ]; exact Blk.new w2 24 _
  obtain ⟨W3, hW3⟩ : ∃ W3, W3 = (w2.alloc (.cells Z 24)).setRow w2.heap.size (T.map bv).toArray := ⟨_, rfl⟩
  have hB3 : Blk W3 w2.heap.size 24 (T.map bv) := by rw [hW3]; exact hN2.row _
  have g3 : w.grownBy W3 none := by rw [hW3]; exact gb_row (gb_alloc G2 _) _ (Or.inl G2.size)
  have HN2 := hide hN2
  have HW3 := hide hW3
  have HB3 := hide hB3
  clear hN2 hW3 hB3
  go_wp2_with (first
    | (refine wpList_known rfl 24 _ rfl (T.map bv).toArray ?_ ?_; (first | exact unhide HBT | (rw [unhide HTE]; kernel_rfl)))
    | (refine wpList_store_row rfl 24 _ _ rfl w2.heap.size _ rfl rfl _ _ (unhide HN2) ?_ ?_ ?_ ?_; (rw [unhide HST]; exact hi16); (rw [unhide HST]; rfl); (exact all_oneCell_toArray (bv_one _)); rw [← unhide HW3])
    | (refine wpList_load_row rfl 24 _ rfl w2.heap.size rfl _ _ _ _ (unhide HB3) Try.underlying24 rfl ?_ ?_; (rw [unhide HST]; exact hi16)))
  go_ret
  exact ⟨rfl, g3⟩

end Go.Proofs.Ytagdileacidnjaa
