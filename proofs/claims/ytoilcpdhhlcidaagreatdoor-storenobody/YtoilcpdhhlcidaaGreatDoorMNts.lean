/- Lemmas. -/
import Derived.Laws.ResultCell
import Derived.Test.YtoilcpdhhlcidaaGreatDoorMOwn
namespace Go.Proofs.YtoilcpdhhlcidaaGreatDoor
open Go.RowKit
theorem zjb:(Tryz.prog.info? 5).map (·.size)=some 1:=by kernel_rfl
theorem zgo (w:World) (b o dl dc:Nat) (ao:Option Addr) (c:Nat) (x:List UInt8) (hx:Bts w ao c x) (hth:w.there b o (min x.length dl)) :
  (Builtin.copy_ #[53,53] 3 #[.slice (some ⟨b,o,none⟩) dl dc,.slice ao x.length c]).run Tryz.prog w = .ok (goInt ((min x.length dl:Nat):Int)) (w.setCells b o ((x.take (min x.length dl)).map bv)):=by
 cases ao with
 | none =>
   have h0:=hx.zip rfl
   have:x=[]:=List.eq_nil_of_length_eq_zero h0.1
   subst this
   rw[run_copy_none w _ _ _ 5 _ _ _ _ _ _ Tryz.underlying53 zjb (by simp)]
   simp[World.setCells]
 | some ad =>
   have hl:((x.take (min x.length dl)).map bv).length=min x.length dl:=by simp
   have:=run_copy_cells (P:=Tryz.prog) w 53 53 3 5 b o dl dc ad x.length c ((x.take (min x.length dl)).map bv) Tryz.underlying53 zjb hl ((hx.take _ (by omega)).news ad rfl) (fun j hj=>(hth j (by rw[hl] at hj;exact hj)).1) (fun j hj=>(hth j (by rw[hl] at hj;exact hj)).2) (zbw _)
   rw[hl] at this
   exact this
theorem zlb (x:List UInt8) (n:Nat) (h:x.length≤n):(List.replicate n (0:UInt8)).map bv=([]:List Value)++((List.replicate x.length (0:UInt8)).map bv++(List.replicate (n - x.length) (0:UInt8)).map bv):=by
 rw[List.nil_append,← List.map_append,List.replicate_append_replicate,Nat.add_sub_cancel' h]
theorem Blk.filled {w:World} {b:Nat} {t:TypeId} {n:Nat} (h:Blk w b t ((List.replicate n (0:UInt8)).map bv)) (x:List UInt8) (hx:x.length≤n):Blk (w.setCells b 0 (x.map bv)) b t ((x++List.replicate (n - x.length) 0).map bv):=by
 rw[zlb x n hx] at h
 have:=Blk.setCells (x.map bv) _ h (by simp)
 simpa using this
theorem zlc:(Tryz.prog.info? 3).map (fun i=>(i.zero,i.size,i.bytes))=some (some (.int .i64 0),1,8):=by kernel_rfl
structure Nts (w:World) (ao:Option Addr) (c:Nat) (l:List Int):Prop where
 zip:ao=none→l.length=0∧c=0
 fits:l.length≤c
 most:c≤maxLen
 shape:∀ ad,ao=some ad→0<l.length→ad.spot=none
 cell:∀ ad,ao=some ad→∀ i (h:i<l.length),w.cell? ⟨ad.block,ad.off+i,none⟩=some (.int .i64 l[i])
theorem Nts.kept {w a:World} {ao:Option Addr} {c:Nat} {l:List Int} (h:Nts w ao c l) (g:w.grownBy a none):Nts a ao c l :=
 ⟨h.zip,h.fits,h.most,h.shape,fun ad e i hi=>g.cell (h.cell ad e i hi) (by simp)⟩
theorem Nts.at {w:World} {ao:Option Addr} {c:Nat} {l:List Int} (h:Nts w ao c l) (i:Nat) (hi:i<l.length):∃ b o,ao=some ⟨b,o,none⟩∧w.cell? ⟨b,o+i,none⟩=some (.int .i64 l[i]):=by
 cases ao with
 | none=>have:=(h.zip rfl).1;omega
 | some ad =>
   have hs:=h.shape ad rfl (by omega)
   have hc:=h.cell ad rfl i hi
   obtain ⟨b,o,s⟩:=ad
   simp only at hs hc
   subst hs
   exact ⟨b,o,rfl,hc⟩
end Go.Proofs.YtoilcpdhhlcidaaGreatDoor
