/- A copy of bytes into a block. No condition but those that each lemma names. -/
import Derived.Test.YtfaipdifkmjdeaaMBlk
namespace Go.Proofs.Ytfaipdifkmjdeaa
open Go.RowKit

theorem size_row : (Try.prog.info? 5).map (·.size) = some 1 := by kernel_rfl

theorem copy_bts (w : World) (b o dl dc : Nat) (ao : Option Addr) (c : Nat) (x : List UInt8) (hx : Bts w ao c x) (hth : w.there b o (min x.length dl)) :
    (Builtin.copy_ #[33, 33] 3 #[.slice (some ⟨b, o, none⟩) dl dc, .slice ao x.length c]).run Try.prog w = .ok (goInt ((min x.length dl : Nat) : Int)) (w.setCells b o ((x.take (min x.length dl)).map bv)) := by
  cases ao with
  | none =>
    have h0 := hx.zip rfl
    have : x = [] := List.eq_nil_of_length_eq_zero h0.1
    subst this
    rw [run_copy_none w _ _ _ 5 _ _ _ _ _ _ Try.underlying33 size_row (by simp)]
    simp [World.setCells]
  | some ad =>
    have hl : ((x.take (min x.length dl)).map bv).length = min x.length dl := by simp
    have := run_copy_cells (P := Try.prog) w 33 33 3 5 b o dl dc ad x.length c ((x.take (min x.length dl)).map bv) Try.underlying33 size_row hl ((hx.take _ (by omega)).news ad rfl) (fun j hj => (hth j (by rw [hl] at hj; exact hj)).1) (fun j hj => (hth j (by rw [hl] at hj; exact hj)).2) (bv_one _)
    rw [hl] at this
    exact this

theorem fill_zero (x : List UInt8) (n : Nat) (h : x.length ≤ n) : (List.replicate n (0 : UInt8)).map bv = ([] : List Value) ++ ((List.replicate x.length (0 : UInt8)).map bv ++ (List.replicate (n - x.length) (0 : UInt8)).map bv) := by
  rw [List.nil_append, ← List.map_append, List.replicate_append_replicate, Nat.add_sub_cancel' h]

/-- Zeros, of which the first are written over. -/
theorem Blk.filled {w : World} {b : Nat} {t : TypeId} {n : Nat} (h : Blk w b t ((List.replicate n (0 : UInt8)).map bv)) (x : List UInt8) (hx : x.length ≤ n) : Blk (w.setCells b 0 (x.map bv)) b t ((x ++ List.replicate (n - x.length) 0).map bv) := by
  rw [fill_zero x n hx] at h
  have := Blk.setCells (x.map bv) _ h (by simp)
  simpa using this

end Go.Proofs.Ytfaipdifkmjdeaa
