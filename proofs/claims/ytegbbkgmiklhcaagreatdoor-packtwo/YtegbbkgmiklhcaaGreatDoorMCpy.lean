/- Lemmas. -/
import Derived.Test.YtegbbkgmiklhcaaGreatDoorMStr
import Derived.Lib.Strings
import Derived.Test.YtegbbkgmiklhcaaGreatDoorMRwG
namespace Go.Proofs.YtegbbkgmiklhcaaGreatDoor
open Go.RowKit
theorem zlj (l:List UInt8) (a b:Nat):(str l).extract a b=str ((l.drop a).take (b - a)):=by
 apply ByteArray.ext
 apply Array.toList_inj.1
 rw[Lib.extract_data]
 rfl
theorem zlk (l:List UInt8) (lo hi:Nat) (h1:lo≤hi) (h2:hi≤l.length) (W:World):(Instr.slice 9 (.string (str l)) (some (.int .i64 (lo:Int))) (some (.int .i64 (hi:Int))) none).run Tryz.prog W = .ok (.string (str ((l.drop lo).take (hi - lo)))) W:=by
 rw[run_slice_string_if _ _ _ _ _ _ _ Tryz.underlying9]
 rw[if_pos (by rw[zba];omega),if_pos ⟨by omega,by omega⟩,Int.toNat_natCast,Int.toNat_natCast,zlj]
theorem zf1 (l:List UInt8) (lo:Nat) (h2:lo≤l.length) (W:World):(Instr.slice 9 (.string (str l)) (some (.int .i64 (lo:Int))) none none).run Tryz.prog W = .ok (.string (str (l.drop lo))) W:=by
 rw[run_slice_string_l W 9 _ Tryz.underlying9 .i64 (lo:Int) (by omega) (by rw[zba];omega),Int.toNat_natCast,zba,zlj,List.take_of_length_le (by rw[List.length_drop];omega)]
theorem zi9:(Tryz.prog.info? 5).map (·.size)=some 1:=by kernel_rfl
theorem znc (w:World) (b o dl dc:Nat) (ao:Option Addr) (c:Nat) (x:List UInt8) (hx:Bts w ao c x) (hth:w.there b o (min x.length dl)) :
  (Builtin.copy_ #[24,24] 3 #[.slice (some ⟨b,o,none⟩) dl dc,.slice ao x.length c]).run Tryz.prog w = .ok (goInt ((min x.length dl:Nat):Int)) (w.setCells b o ((x.take (min x.length dl)).map bv)):=by
 cases ao with
 | none =>
  have h0:=hx.zip rfl
  have:x=[]:=List.eq_nil_of_length_eq_zero h0.1
  subst this
  rw[run_copy_none w _ _ _ 5 _ _ _ _ _ _ Tryz.underlying24 zi9 (by simp)]
  simp[World.setCells]
 | some ad =>
  have hl:((x.take (min x.length dl)).map bv).length=min x.length dl:=by simp
  have:=run_copy_cells (P:=Tryz.prog) w 24 24 3 5 b o dl dc ad x.length c ((x.take (min x.length dl)).map bv) Tryz.underlying24 zi9 hl ((hx.take _ (by omega)).news ad rfl) (fun j hj=>(hth j (by rw[hl] at hj;exact hj)).1) (fun j hj=>(hth j (by rw[hl] at hj;exact hj)).2) (zaw _)
  rw[hl] at this
  exact this
theorem zll (x:List UInt8) (n:Nat) (h:x.length≤n):(List.replicate n (0:UInt8)).map bv=([]:List Value)++((List.replicate x.length (0:UInt8)).map bv++(List.replicate (n - x.length) (0:UInt8)).map bv):=by
 rw[List.nil_append,← List.map_append,List.replicate_append_replicate,Nat.add_sub_cancel' h]
theorem Blk.filled {w:World} {b:Nat} {t:TypeId} {n:Nat} (h:Blk w b t ((List.replicate n (0:UInt8)).map bv)) (x:List UInt8) (hx:x.length≤n):Blk (w.setCells b 0 (x.map bv)) b t ((x++List.replicate (n - x.length) 0).map bv):=by
 rw[zll x n hx] at h
 have:=Blk.setCells (x.map bv) _ h (by simp)
 simpa using this
end Go.Proofs.YtegbbkgmiklhcaaGreatDoor
