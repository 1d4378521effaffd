/- A whole array in memory as a slice; two blocks that are held against one another; a text that is cut. No condition but those that each lemma names. -/
import Derived.Test.YtikdpifacokfpaaDoorCStream
import Derived.Test.YtikdpifacokfpaaDoorMStr
import Derived.Stop.BytesEq
namespace Go.Proofs.YtikdpifacokfpaaDoor
open Go.RowKit

theorem slice_whole {P : Program} (t e : TypeId) (n : Nat) (ht : P.underlying t = some (.array n e)) (hz : ∀ w, (Go.sizeOf e).run P w = .ok 1 w) (b o : Nat) (h3 : 0 < n) (W : World) :
    (Instr.sliceAt t (.pointer (some ⟨b, o, none⟩)) none none none).run P W = .ok (.slice (some ⟨b, o, none⟩) n n) W := by
  have ea : P.arrayLen t = n := by simp [Program.arrayLen, ht]
  have ee : P.elem t = e := by simp [Program.elem, ht]
  rw [run_sliceAt_array_all W t ⟨b, o, none⟩ (by rw [ea, ee]; exact ht), ea, ee, hz]
  simp only [Result.andThen_ok, slicedAt, Nat.zero_mul, Nat.sub_zero]
  rw [if_neg (by omega), Addr.add_mid]
  rfl

theorem eql_blocks (w : World) (xs : List UInt8) (hx : xs.length = 64) : (binOp .eql 27 (.agg (xs.map bv).toArray) (.agg (xs.map bv).toArray)).run Tryd.prog w = .ok (.bool true) w := by
  have h : (binOp .eql 27 (.agg (xs.map bv).toArray) (.agg (xs.map bv).toArray)).run Tryd.prog w = .ok (.bool (xs == xs)) w :=
    run_eql_bytes w 27 5 64 Tryd.underlying27 Tryd.underlying5 size_byte xs xs hx hx
  rw [h]
  simp

theorem blk_range0 {w : World} {b : Nat} {t : TypeId} {vs : List Value} (h : Blk w b t vs) : w.rangeAt b 0 vs := by
  have : Blk w b t ([] ++ (vs ++ [])) := by simpa using h
  exact this.range

theorem conv_blk {w V : World} {b : Nat} {t : TypeId} {l : List UInt8} (h : Blk w b t (l.map bv)) (g : w.grownBy V none) (n : Nat) (hn : l.length = n) (hm : n ≤ 1000000) : (convert 30 9 (.slice (some ⟨b, 0, none⟩) n n)).run Tryd.prog V = .ok (.string (str l)) V := by
  subst hn
  exact conv_str (blk_bts (h.kept g (by simp)) l.length (Nat.le_refl _) (by unfold maxLen; omega))

end Go.Proofs.YtikdpifacokfpaaDoor
