/- Lemmas. -/
import Derived.Test.YtoilcpdhhlcidaaGreatDoorDkA
import Derived.Test.YtoilcpdhhlcidaaGreatDoorMSame
namespace Go.Proofs.YtoilcpdhhlcidaaGreatDoor
open Go.RowKit
set_option maxRecDepth 100000
theorem zkp:(Tryz.prog.info? 5).map (·.size)=some 1:=by kernel_rfl
theorem zhr (w:World) (b o dl dc:Nat) (ao:Option Addr) (c:Nat) (x:List UInt8) (hx:Bts w ao c x) (hth:w.there b o (min x.length dl)) :
  (Builtin.copy_ #[53,53] 3 #[.slice (some ⟨b,o,none⟩) dl dc,.slice ao x.length c]).run Tryz.prog w = .ok (goInt ((min x.length dl:Nat):Int)) (w.setCells b o ((x.take (min x.length dl)).map bv)):=by
 cases ao with
 | none =>
   have h0:=hx.zip rfl
   have:x=[]:=List.eq_nil_of_length_eq_zero h0.1
   subst this
   rw[run_copy_none w _ _ _ 5 _ _ _ _ _ _ Tryz.underlying53 zkp (by simp)]
   simp[World.setCells]
 | some ad =>
   have hl:((x.take (min x.length dl)).map bv).length=min x.length dl:=by simp
   have:=run_copy_cells (P:=Tryz.prog) w 53 53 3 5 b o dl dc ad x.length c ((x.take (min x.length dl)).map bv) Tryz.underlying53 zkp hl ((hx.take _ (by omega)).news ad rfl) (fun j hj=>(hth j (by rw[hl] at hj;exact hj)).1) (fun j hj=>(hth j (by rw[hl] at hj;exact hj)).2) (zch _)
   rw[hl] at this
   exact this
theorem zm8 (x:List UInt8) (n:Nat) (h:x.length≤n):(List.replicate n (0:UInt8)).map bv=([]:List Value)++((List.replicate x.length (0:UInt8)).map bv++(List.replicate (n - x.length) (0:UInt8)).map bv):=by
 rw[List.nil_append,← List.map_append,List.replicate_append_replicate,Nat.add_sub_cancel' h]
theorem Blk.filled {w:World} {b:Nat} {t:TypeId} {n:Nat} (h:Blk w b t ((List.replicate n (0:UInt8)).map bv)) (x:List UInt8) (hx:x.length≤n):Blk (w.setCells b 0 (x.map bv)) b t ((x++List.replicate (n - x.length) 0).map bv):=by
 rw[zm8 x n hx] at h
 have:=Blk.setCells (x.map bv) _ h (by simp)
 simpa using this
theorem zfo:(Tryz.prog.info? 95).map (fun i=>(i.zero,i.size,i.bytes))=some (some (.agg (secC zsec).toArray),256,256):=by kernel_rfl
theorem zkq (w:World):(zeroValue 95).run Tryz.prog w = .ok (.agg (secC zsec).toArray) w:=by kernel_rfl
theorem zm9 (j:Nat) (h:j<256):(secC zsec).toArray[j]! = bv 0:=by
 rw[List.getElem!_toArray,List.getElem!_eq_getElem?_getD]
 unfold secC zsec
 rw[List.map_replicate,List.getElem?_replicate,if_pos h]
 rfl
theorem zpg (n:Nat):(List.replicate n zsec).flatMap secC=List.replicate (n*256) (bv 0):=by
 induction n with
 | zero=>rw[Nat.zero_mul];rfl
 | succ n ih =>
   rw[List.replicate_succ,List.flatMap_cons,ih]
   unfold secC zsec
   rw[List.map_replicate,List.replicate_append_replicate]
   congr 1
   omega
theorem ziw (z:Array Value) (n i:Nat) (h:i<(madeCells z n).size):(madeCells z n)[i]=z[i % z.size]! := by simp[madeCells]
theorem zph (n:Nat):madeCells (Value.agg (secC zsec).toArray).cells (n*256)=((List.replicate n zsec).flatMap secC).toArray:=by
 have hz:(secC zsec).toArray.size=256:=by rw[List.size_toArray,zbe,zea]
 rw[zpg]
 apply Array.ext
 ·rw[size_madeCells,List.size_toArray,List.length_replicate]
 ·intro i h1 h2
  rw[size_madeCells] at h1
  rw[ziw,List.getElem_toArray,List.getElem_replicate]
  show (secC zsec).toArray[i % (secC zsec).toArray.size]! = bv 0
  rw[hz]
  exact zm9 _ (Nat.mod_lt _ (by omega))
theorem zna (W:World) (n:Nat) (h:n≤1000000):(Instr.makeSlice 74 (.int .i64 (n:Int)) (.int .i64 (n:Int))).run Tryz.prog W = .ok (.slice (some ⟨W.heap.size,0,none⟩) n n) (W.alloc (.cells ((List.replicate n zsec).flatMap secC).toArray 95)):=by
 obtain ⟨i0,hi,hz0,hz1,hz2⟩:=info_parts zfo
 rw[run_make W 74 95 i0 _ Tryz.underlying74 hi hz0 .i64 .i64 n n (by omega) (by omega) (by rw[hz2];omega) (by omega),hz1]
 simp only[Int.toNat_natCast]
 rw[zph]
theorem zpi (w:World) (n:Nat) (h1:1≤n) (h2:n≤2048):Calls Tryz.prog 9 #[.int .i64 (n:Int)] w fun e w'=>∃ d F,e = .returned (.tuple #[.pointer (some ⟨d,0,none⟩),.int .i64 0])∧za4 w.heap.size w' F d (newD n)∧w.grownBy w' none:=by
 have hd1:decide ((n:Int)<1)=false:=by simp;omega
 have hd2:¬ (2048:Int)<n:=by omega
 have hd3:¬ 2048<n:=by omega
 have hmk:=zna w n (by omega)
 obtain ⟨C,hC⟩:∃ C,C=(List.replicate n zsec).flatMap secC:=⟨_,rfl⟩
 rw[← hC] at hmk
 obtain ⟨W1,hW1,hB1,g1⟩:=zah w 95 C
 have hs1:W1.heap.size=w.heap.size+1:=by rw[hW1,World.size_alloc]
 rw[← hW1] at hmk
 have hmm:(Instr.makeMap 75 none).run Tryz.prog W1 = .ok (.map (some (w.heap.size+1))) (W1.alloc (.map #[] 0)):=by rw[run_makeMap,hs1]
 obtain ⟨W2,hW2⟩:∃ W2,W2=W1.alloc (.map #[] 0):=⟨_,rfl⟩
 rw[← hW2] at hmm
 have hs2:W2.heap.size=w.heap.size+2:=by rw[hW2,World.size_alloc,hs1]
 have g2:W1.grownBy W2 none:=by rw[hW2];exact zaf (zac _ _) _
 have hM2:ImapAt W2 (w.heap.size+1) []:=by rw[hW2,← hs1];exact ImapAt.new _
 obtain ⟨W3,hW3,hB3,g3⟩:=zah W2 77 [.slice (some ⟨w.heap.size,0,none⟩) n n,.slice none 0 0,.map (some (w.heap.size+1)),.int .i64 (-1),.bool false]
 have hs3:W3.heap.size=w.heap.size+3:=by rw[hW3,World.size_alloc,hs2]
 rw[hs2] at hB3
 have hbx:∀ V:World,True:=fun _=>trivial
 have hfin:za4 w.heap.size W3 [w.heap.size,w.heap.size+1,w.heap.size+2] (w.heap.size+2) (newD n):=by
  refine ⟨w.heap.size,n,w.heap.size+1,[],.slice none 0 0,[],?_,?_,⟨?_,?_⟩,World.ownsRow_nil _ _ _ _,⟨hM2.none g3,fun i=>by simp[newD],(fun p hp=>by cases hp),(fun p hp=>by cases hp)⟩,by simp,by simp,by simp,(fun b hb=>by cases hb),(fun p hp=>by cases hp),?_,zqv (by omega) h2⟩
  ·simpa[newD] using hB3
  ·have:=(hB1.kept g2 (by simp)).kept g3 (by simp)
   rw[hC] at this
   simpa[newD] using this
  ·simp[newD]
  ·unfold maxLen;omega
  ·intro x hx
   simp only[List.mem_cons,List.not_mem_nil,or_false] at hx
   omega
 have HF:=hide hfin
 have HG:=hide (tn (tn g1 g2) g3)
 have HW3:=hide hW3
 clear hfin hW1 hW2 hW3 hB1 hB3 g1 g2 g3 hM2 hC hs1 hs3 hbx
 go_enter Tryz.func9,Tryz.ntmps9
 go_wp2_with (rw[← uh HW3])
 go_ret2
 exact ⟨_,rfl,⟨_,uh HF⟩,uh HG⟩
theorem znb (u:Nat) (w:World) (F:List Nat) (d:Nat) (D:Dsk) (h:za4 u w F d D) :
  Calls Tryz.prog 29 #[.pointer (some ⟨d,0,none⟩)] w fun e w'=>e = .returned (.bool D.down)∧w'=w:=by
 obtain ⟨s,c,m,X,ov,K,h⟩:=h
 have c1:=h.made
 have h4:=h.c4
 clear h
 go_enter Tryz.func29,Tryz.ntmps29
 go_wp2_with (go_at_call 44;refine c1.mono ?_;rintro e w2 ⟨rfl,e2⟩;subst w2;clear c1)
 go_ret
 exact ⟨rfl,rfl⟩
theorem znc (u:Nat) (w:World) (F:List Nat) (d:Nat) (D:Dsk) (h:za4 u w F d D) :
  Calls Tryz.prog 28 #[.pointer (some ⟨d,0,none⟩)] w fun e w'=>e = .returned (.int .i64 (D.safe.length:Int))∧w'=w:=by
 obtain ⟨s,c,m,X,ov,K,h⟩:=h
 have c1:=h.made
 have h0:=h.c0
 clear h
 go_enter Tryz.func28,Tryz.ntmps28
 go_wp2_with (go_at_call 44;refine c1.mono ?_;rintro e w2 ⟨rfl,e2⟩;subst w2;clear c1)
 go_ret
 exact ⟨rfl,rfl⟩
theorem zix:(Tryz.prog.info? 3).map (fun i=>(i.zero,i.size,i.bytes))=some (some (.int .i64 0),1,8):=by kernel_rfl
structure Nts (w:World) (ao:Option Addr) (c:Nat) (l:List Int):Prop where
 zip:ao=none→l.length=0∧c=0
 fits:l.length≤c
 most:c≤maxLen
 shape:∀ ad,ao=some ad→0<l.length→ad.spot=none
 cell:∀ ad,ao=some ad→∀ i (h:i<l.length),w.cell? ⟨ad.block,ad.off+i,none⟩=some (.int .i64 l[i])
theorem Nts.kept {w a:World} {ao:Option Addr} {c:Nat} {l:List Int} (h:Nts w ao c l) (g:w.grownBy a none):Nts a ao c l :=
 ⟨h.zip,h.fits,h.most,h.shape,fun ad e i hi=>g.cell (h.cell ad e i hi) (by simp)⟩
theorem Nts.at {w:World} {ao:Option Addr} {c:Nat} {l:List Int} (h:Nts w ao c l) (i:Nat) (hi:i<l.length):∃ b o,ao=some ⟨b,o,none⟩∧w.cell? ⟨b,o+i,none⟩=some (.int .i64 l[i]):=by
 cases ao with
 | none=>have:=(h.zip rfl).1;omega
 | some ad =>
   have hs:=h.shape ad rfl (by omega)
   have hc:=h.cell ad rfl i hi
   obtain ⟨b,o,s⟩:=ad
   simp only at hs hc
   subst hs
   exact ⟨b,o,rfl,hc⟩
def NoDk (w:World) (po:Option Addr):Prop:=∀ V,w.grownBy V none→Calls Tryz.prog 44 #[.pointer po] V fun e w'=>e = .returned (.bool false)∧w'=V
theorem NoDk.nn {w a:World} {po:Option Addr} (h:NoDk w po) (g:w.grownBy a Option.none):NoDk a po:=fun V gV=>h V (tn g gV)
section
variable (w:World) (po:Option Addr) (h:NoDk w po)
include h
set_option maxRecDepth 100000
end
theorem zpj (L:List (Nat × List UInt8)):∀ u∈L.map (fun x=>keyN x.1),u.oneCell'=true:=by
 intro u hu
 obtain ⟨_,_,rfl⟩:=List.mem_map.1 hu
 rfl
end Go.Proofs.YtoilcpdhhlcidaaGreatDoor
