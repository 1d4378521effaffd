/- Lemmas. -/
import Derived.Test.YtegbbkgmiklhcaaGreatDoorRSha
import Derived.Test.YtegbbkgmiklhcaaGreatDoorMCpy
import Derived.Deep.RegionHeld3
import Derived.Deep.DrawnRows
import Derived.Test.YtegbbkgmiklhcaaGreatDoorSSum
import Derived.Lib.Strings
import Derived.Deep.MidRow
namespace Go.Proofs.YtegbbkgmiklhcaaGreatDoor
open Go.RowKit
set_option maxRecDepth 100000
theorem zn2 (l:List W) (n m:Nat):(zdj l (n+m)).take (l.length+n)=zdj l n:=by
 induction m with
 | zero=>rw[Nat.add_zero,List.take_of_length_le (by rw[zcx];exact Nat.le_refl _)]
 | succ m ih =>
  rw[← Nat.add_assoc,zdj,List.take_append_of_le_length (by rw[zcx];omega),ih]
theorem zew (l:List UInt8) (j:Nat) (hj:j≤48):(zbe l).take (16+j)=zdj (w16 l) j:=by
 have:=zn2 (w16 l) j (48 - j)
 rw[zcs,show j+(48 - j)=48 by omega] at this
 exact this
theorem zqf (l:List UInt8) (k:Nat) (hk:k<16):(zbe l).getD k 0=zen l k:=by
 have h1:=zew l 0 (by omega)
 have h2:(zbe l).getD k 0=((zbe l).take 16).getD k 0:=by
  simp[List.getD,hk]
 rw[h2,h1]
 simp[zdj,w16,List.getD,hk]
theorem zqg (l:List UInt8) (k:Nat) (h1:16≤k) (h2:k<64):(zbe l).getD k 0=((sm1 ((zbe l).getD (k - 2) 0)+(zbe l).getD (k - 7) 0)+sm0 ((zbe l).getD (k - 15) 0))+(zbe l).getD (k - 16) 0:=by
 obtain ⟨j,rfl⟩:∃ j,k=16+j:=⟨k - 16,by omega⟩
 have e1:=zew l (j+1) (by omega)
 have e0:=zew l j (by omega)
 have hl:(zdj (w16 l) j).length=16+j:=by rw[zcx,zcs]
 have hg:∀ i,i<16+j→(zdj (w16 l) j).getD i 0=(zbe l).getD i 0:=by
  intro i hi
  rw[← e0]
  simp[List.getD,hi]
 have h3:(zbe l).getD (16+j) 0=((zbe l).take (16+(j+1))).getD (16+j) 0:=by
  have:16+j<16+(j+1):=by omega
  simp[List.getD,this]
 rw[h3,e1,zdj]
 have h4:(zdj (w16 l) j++[nxt (zdj (w16 l) j)]).getD (16+j) 0=nxt (zdj (w16 l) j):=by
  rw[List.getD,List.getElem?_append_right (by omega),hl]
  simp
 rw[h4,nxt,hl,hg _ (by omega),hg _ (by omega),hg _ (by omega),hg _ (by omega)]
theorem zj4 {ws:List W} {k:Nat} (hk:k<ws.length) (zs:List W):((ws++zs).map wv)[k]? = some (.int .u32 (wz (ws.getD k 0))):=by
 rw[List.getElem?_map,List.getElem?_append_left hk,List.getElem?_eq_getElem hk,show ws.getD k 0=ws[k] by simp[List.getD,hk]]
 rfl
theorem zsf (n0 n1 n2 n3:Nat) (l:List UInt8) (k:Nat) (e0:n0=(l.getD (4*k) 0).toNat) (e1:n1=(l.getD (4*k+1) 0).toNat) (e2:n2=(l.getD (4*k+2) 0).toNat) (e3:n3=(l.getD (4*k+3) 0).toNat) :
  ((n0:Int)*16777216+(n1:Int)*65536+(n2:Int)*256+(n3:Int))=wz (zen l k):=by
 unfold zen
 rw[zjv,← e0,← e1,← e2,← e3]
 omega
theorem zqh (x0 x1 x2 x3 x4 x5 x6 x7:Int):(#[Value.int .u32 x0,Value.int .u32 x1,Value.int .u32 x2,Value.int .u32 x3,Value.int .u32 x4,Value.int .u32 x5,Value.int .u32 x6,Value.int .u32 x7]:Array Value).all (·.oneCell')=true:=by kernel_rfl
set_option maxHeartbeats 2000000 in
theorem zn3 (w:World) (hs:List W) (h8:hs.length=8) (l:List UInt8) (hl:l.length=64) :
  Calls Tryz.prog 75 #[.agg (hs.map wv).toArray,.string (str l)] w fun e w'=>e = .returned (.agg ((comp hs l).map wv).toArray)∧w.grownBy w' none:=by
 obtain ⟨HA,hHA⟩:∃ HA:Array Value,HA=(hs.map wv).toArray:=⟨_,rfl⟩
 rw[← hHA]
 obtain ⟨Z8,hZ8⟩:∃ Z:Array Value,Z=((List.replicate 8 (0:W)).map wv).toArray:=⟨_,rfl⟩
 have hz8:∀ W,(zeroValue 141).run Tryz.prog W = .ok (.agg Z8) W:=fun W=>by rw[hZ8];kernel_rfl
 obtain ⟨Z64,hZ64⟩:∃ Z:Array Value,Z=((List.replicate 64 (0:W)).map wv).toArray:=⟨_,rfl⟩
 have hz64:∀ W,(zeroValue 181).run Tryz.prog W = .ok (.agg Z64) W:=fun W=>by rw[hZ64];kernel_rfl
 obtain ⟨ws,hws⟩:∃ ws,ws=zbe l:=⟨_,rfl⟩
 have hwl:ws.length=64:=by rw[hws];exact zdk l
 obtain ⟨HHA,HZ8,HZ64,HWS,HWL,HL⟩:=zh6 hHA hZ8 hZ64 hws hwl hl
 have H8:=hide h8
 clear hHA hZ8 hZ64 hws hwl hl h8
 go_enter Tryz.func75,Tryz.ntmps75
 go_wp2
 go_loopw [6] (fun i wr=>∃ k:Nat,k≤64∧i = .int .i64 k∧Blk wr (w.heap.size+2) 181 ((ws.take k++List.replicate (64 - k) 0).map wv)∧Blk wr w.heap.size 141 (hs.map wv)∧Blk wr (w.heap.size+1) 141 ((List.replicate 8 (0:W)).map wv)∧w.grownBy wr none) (fun i _=>64 - (intOf i).toNat)
 case atStart =>
  refine ⟨0,Nat.zero_le _,rfl,?_,?_,?_,zad (zad (zad (zaa _ _) _) _) _⟩
  ·have:=Blk.new ((w.alloc (.cells HA 141)).alloc (.cells Z8 141)) 181 ((List.replicate 64 (0:W)).map wv)
   rw[World.size_alloc,World.size_alloc] at this
   rw[uh HZ64]
   exact this
  ·rw[uh HHA];exact ((Blk.new w 141 (hs.map wv)).alloc _).alloc _
  ·have:=Blk.new (w.alloc (.cells HA 141)) 141 ((List.replicate 8 (0:W)).map wv)
   rw[World.size_alloc] at this
   rw[uh HZ8]
   exact this.alloc _
 case round =>
  obtain ⟨k,hk,rfl,hB,hR,hO,hg⟩:=hrel
  obtain ⟨HR,HO⟩:=zh2 hR hO
  clear hR hO
  by_cases hlt:k<64
  ·have hcs:(wr.cell? ⟨w.heap.size+2,k,none⟩).isSome=true∧wr.frozen? ⟨w.heap.size+2,k,none⟩=false:=by
    have:=hB.there k 1 (by simp[uh HWL];omega) 0 (by omega)
    simpa using this
   obtain ⟨hcs,hcf⟩:=hcs
   obtain ⟨ov,hcs⟩:=Option.isSome_iff_exists.1 hcs
   have hq0:(0:Int)≤(k:Int):=by omega
   have hq1:(k:Int)<64:=by omega
   have hfin:∀ (V:World) (x:W),V.heap=wr.heap→w.grownBy V none→x=ws.getD k 0→Blk (V.setCell ⟨w.heap.size+2,k,none⟩ (wv x)) (w.heap.size+2) 181 ((ws.take (k+1)++List.replicate (64 - (k+1)) 0).map wv)∧Blk (V.setCell ⟨w.heap.size+2,k,none⟩ (wv x)) w.heap.size 141 (hs.map wv)∧Blk (V.setCell ⟨w.heap.size+2,k,none⟩ (wv x)) (w.heap.size+1) 141 ((List.replicate 8 (0:W)).map wv)∧w.grownBy (V.setCell ⟨w.heap.size+2,k,none⟩ (wv x)) none:=by
    intro V x hV gV hx
    have hkw:k<ws.length:=by rw[uh HWL];exact hlt
    have c1:Blk V (w.heap.size+2) 181 ((ws.take k++List.replicate (64 - k) 0).map wv):=by unfold Blk at hB ⊢;rw[hV];exact hB
    have c2:Blk V w.heap.size 141 (hs.map wv):=by have:=uh HR;unfold Blk at this ⊢;rw[hV];exact this
    have c3:Blk V (w.heap.size+1) 141 ((List.replicate 8 (0:W)).map wv):=by have:=uh HO;unfold Blk at this ⊢;rw[hV];exact this
    have s1:=c1.set k (wv x)
    rw[zju ws 64 k x hkw (by rw[hx];simp[List.getD,hkw]) hlt] at s1
    exact ⟨s1,c2.other _ _ (by simp),c3.other _ _ (by simp),zab gV _ _ (Or.inl (by simp))⟩
   have HF:=hide hfin
   by_cases hlo:k<16
   ·have hlo2:(k:Int)<16:=by omega
    have hn:∀ j p,j<4→p=4*k+j→∃ n:Nat,n<256∧n=(l.getD (4*k+j) 0).toNat∧(0:Int)≤(p:Int)∧(p:Int)<((str l).size:Int)∧(∀ h,((str l)[p]'h).toNat=n):=by
     intro j p hj hp
     subst hp
     have hq:4*k+j<l.length:=by rw[uh HL];omega
     refine ⟨_,(l.getD (4*k+j) 0).toNat_lt,rfl,by omega,by rw[zaj];omega,fun h => ?_⟩
     have e:(str l)[4*k+j]'h=l[4*k+j]:=rfl
     rw[e]
     first | (simp[List.getD,hq];done) | (simp[List.getD,hq];rfl)
    obtain ⟨p0,hp0⟩:∃ p:Nat,p=4*k:=⟨_,rfl⟩
    obtain ⟨p1,hp1⟩:∃ p:Nat,p=4*k+1:=⟨_,rfl⟩
    obtain ⟨p2,hp2⟩:∃ p:Nat,p=4*k+2:=⟨_,rfl⟩
    obtain ⟨p3,hp3⟩:∃ p:Nat,p=4*k+3:=⟨_,rfl⟩
    obtain ⟨n0,hn0,e0,la0,lb0,hi0⟩:=hn 0 p0 (by omega) (by omega)
    obtain ⟨n1,hn1,e1,la1,lb1,hi1⟩:=hn 1 p1 (by omega) (by omega)
    obtain ⟨n2,hn2,e2,la2,lb2,hi2⟩:=hn 2 p2 (by omega) (by omega)
    obtain ⟨n3,hn3,e3,la3,lb3,hi3⟩:=hn 3 p3 (by omega) (by omega)
    rw[Nat.add_zero] at e0
    clear hn
    have hw0:IntKind.i64.wrap (p0:Int)=(p0:Int):=by rw[IntKind.wrap_i64];omega
    have hm0:4*(k:Int)=(p0:Int):=by omega
    have hw1:IntKind.i64.wrap ((p0:Int)+1)=(p1:Int):=by rw[IntKind.wrap_i64];omega
    have hw2:IntKind.i64.wrap ((p0:Int)+2)=(p2:Int):=by rw[IntKind.wrap_i64];omega
    have hw3:IntKind.i64.wrap ((p0:Int)+3)=(p3:Int):=by rw[IntKind.wrap_i64];omega
    have hx:=zsf n0 n1 n2 n3 l k e0 e1 e2 e3
    have hxs:zen l k=ws.getD k 0:=by rw[uh HWS,zqf l k hlo]
    have c0:IntKind.u32.wrap (n0:Int)=(n0:Int):=by rw[IntKind.wrap_u32];omega
    have c1:IntKind.u32.wrap (n1:Int)=(n1:Int):=by rw[IntKind.wrap_u32];omega
    have c2:IntKind.u32.wrap (n2:Int)=(n2:Int):=by rw[IntKind.wrap_u32];omega
    have c3:IntKind.u32.wrap (n3:Int)=(n3:Int):=by rw[IntKind.wrap_u32];omega
    have s0:IntKind.u32.wrap ((n0:Int)*16777216)=(n0:Int)*16777216:=by rw[IntKind.wrap_u32];omega
    have s1:IntKind.u32.wrap ((n1:Int)*65536)=(n1:Int)*65536:=by rw[IntKind.wrap_u32];omega
    have s2:IntKind.u32.wrap ((n2:Int)*256)=(n2:Int)*256:=by rw[IntKind.wrap_u32];omega
    have a1:IntKind.u32.wrap ((n0:Int)*16777216+(n1:Int)*65536)=(n0:Int)*16777216+(n1:Int)*65536:=by rw[IntKind.wrap_u32];omega
    have a2:IntKind.u32.wrap ((n0:Int)*16777216+(n1:Int)*65536+(n2:Int)*256)=(n0:Int)*16777216+(n1:Int)*65536+(n2:Int)*256:=by rw[IntKind.wrap_u32];omega
    have a3:IntKind.u32.wrap ((n0:Int)*16777216+(n1:Int)*65536+(n2:Int)*256+(n3:Int))=(n0:Int)*16777216+(n1:Int)*65536+(n2:Int)*256+(n3:Int):=by rw[IntKind.wrap_u32];omega
    obtain ⟨HX,HXS⟩:=zh2 hx hxs
    clear hx hxs e0 e1 e2 e3 hp0 hp1 hp2 hp3 hfin hB
    go_wp2
    refine wp_region_held_drew (S:=fun _=>True) (by kernel_rfl) trivial (fun _ => ?_)
    refine wpAnyH_take (i:=0) (oi:={ dst:=some 25,op:=Op.move (Operand.tmp 6),type:=_,pos:=_,after := #[],guard:=none }) (v := .int .i64 (k:Int)) rfl (by kernel_rfl) (by kernel_rfl) (by kernel_rfl) (fun _ _ _ h=>h) (Or.inl ⟨by rfl,fun _ _=>by go_simp⟩) trivial ?_
    refine wpAnyH_take (i:=1) (oi:={ dst:=some 26,op:=Op.move (Operand.tmp 1),type:=_,pos:=_,after := #[],guard:=none }) (v := .string (str l)) rfl (by kernel_rfl) (by kernel_rfl) (by kernel_rfl) (fun _ _ _ h=>h) (Or.inl ⟨by rfl,fun _ _=>by go_simp⟩) trivial ?_
    refine wpAnyH_take (i:=2) (oi:={ dst:=some 27,op:=Op.move (Operand.tmp 6),type:=_,pos:=_,after := #[],guard:=none }) (v := .int .i64 (k:Int)) rfl (by kernel_rfl) (by kernel_rfl) (by kernel_rfl) (fun _ _ _ h=>h) (Or.inl ⟨by rfl,fun _ _=>by go_simp⟩) trivial ?_
    refine wpAnyH_take (i:=3) (oi:={ dst:=some 28,op:=Op.binOp BinOp.mul 3 (Operand.const (Value.int IntKind.i64 4)) (Operand.tmp 27) 3,type:=_,pos:=_,after := #[{ on:=2,ground:=Ground.data }],guard:=none }) (v := .int .i64 (p0:Int)) rfl (by kernel_rfl) (by kernel_rfl) (by kernel_rfl) (fun _ _ _ h=>h) (Or.inl ⟨by rfl,fun _ _=>by go_simp⟩) trivial ?_
    (try simp only[pq])
    refine wpAnyH_take (i:=4) (oi:={ dst:=some 29,op:=Op.index 9 (Operand.tmp 26) (Operand.tmp 28),type:=_,pos:=_,after := #[{ on:=1,ground:=Ground.data },{ on:=3,ground:=Ground.data }],guard:=none }) (v := .int .u8 (n0:Int)) rfl (by kernel_rfl) (by kernel_rfl) (by kernel_rfl) (fun _ _ _ h=>h) (Or.inl ⟨by rfl,fun _ _=>by go_simp⟩) trivial ?_
    refine wpAnyH_take (i:=5) (oi:={ dst:=some 30,op:=Op.convert 5 140 (Operand.tmp 29),type:=_,pos:=_,after := #[{ on:=4,ground:=Ground.data }],guard:=none }) (v := .int .u32 (n0:Int)) rfl (by kernel_rfl) (by kernel_rfl) (by kernel_rfl) (fun _ _ _ h=>h) (Or.inl ⟨by rfl,fun _ _=>by go_simp⟩) trivial ?_
    refine wpAnyH_take (i:=6) (oi:={ dst:=some 31,op:=Op.binOp BinOp.shl 140 (Operand.tmp 30) (Operand.const (Value.int IntKind.u64 24)) 116,type:=_,pos:=_,after := #[{ on:=5,ground:=Ground.data }],guard:=none }) (v := .int .u32 ((n0:Int)*16777216)) rfl (by kernel_rfl) (by kernel_rfl) (by kernel_rfl) (fun _ _ _ h=>h) (Or.inl ⟨by rfl,fun _ _=>by go_simp⟩) trivial ?_
    refine wpAnyH_take (i:=7) (oi:={ dst:=some 32,op:=Op.move (Operand.tmp 1),type:=_,pos:=_,after := #[],guard:=none }) (v := .string (str l)) rfl (by kernel_rfl) (by kernel_rfl) (by kernel_rfl) (fun _ _ _ h=>h) (Or.inl ⟨by rfl,fun _ _=>by go_simp⟩) trivial ?_
    (try simp only[pq])
    refine wpAnyH_take (i:=8) (oi:={ dst:=some 33,op:=Op.move (Operand.tmp 6),type:=_,pos:=_,after := #[],guard:=none }) (v := .int .i64 (k:Int)) rfl (by kernel_rfl) (by kernel_rfl) (by kernel_rfl) (fun _ _ _ h=>h) (Or.inl ⟨by rfl,fun _ _=>by go_simp⟩) trivial ?_
    refine wpAnyH_take (i:=9) (oi:={ dst:=some 34,op:=Op.binOp BinOp.mul 3 (Operand.const (Value.int IntKind.i64 4)) (Operand.tmp 33) 3,type:=_,pos:=_,after := #[{ on:=8,ground:=Ground.data }],guard:=none }) (v := .int .i64 (p0:Int)) rfl (by kernel_rfl) (by kernel_rfl) (by kernel_rfl) (fun _ _ _ h=>h) (Or.inl ⟨by rfl,fun _ _=>by go_simp⟩) trivial ?_
    refine wpAnyH_take (i:=10) (oi:={ dst:=some 35,op:=Op.binOp BinOp.add 3 (Operand.tmp 34) (Operand.const (Value.int IntKind.i64 1)) 3,type:=_,pos:=_,after := #[{ on:=9,ground:=Ground.data }],guard:=none }) (v := .int .i64 (p1:Int)) rfl (by kernel_rfl) (by kernel_rfl) (by kernel_rfl) (fun _ _ _ h=>h) (Or.inl ⟨by rfl,fun _ _=>by go_simp⟩) trivial ?_
    refine wpAnyH_take (i:=11) (oi:={ dst:=some 36,op:=Op.index 9 (Operand.tmp 32) (Operand.tmp 35),type:=_,pos:=_,after := #[{ on:=7,ground:=Ground.data },{ on:=10,ground:=Ground.data }],guard:=none }) (v := .int .u8 (n1:Int)) rfl (by kernel_rfl) (by kernel_rfl) (by kernel_rfl) (fun _ _ _ h=>h) (Or.inl ⟨by rfl,fun _ _=>by go_simp⟩) trivial ?_
    (try simp only[pq])
    refine wpAnyH_take (i:=12) (oi:={ dst:=some 37,op:=Op.convert 5 140 (Operand.tmp 36),type:=_,pos:=_,after := #[{ on:=11,ground:=Ground.data }],guard:=none }) (v := .int .u32 (n1:Int)) rfl (by kernel_rfl) (by kernel_rfl) (by kernel_rfl) (fun _ _ _ h=>h) (Or.inl ⟨by rfl,fun _ _=>by go_simp⟩) trivial ?_
    refine wpAnyH_take (i:=13) (oi:={ dst:=some 38,op:=Op.binOp BinOp.shl 140 (Operand.tmp 37) (Operand.const (Value.int IntKind.u64 16)) 116,type:=_,pos:=_,after := #[{ on:=12,ground:=Ground.data }],guard:=none }) (v := .int .u32 ((n1:Int)*65536)) rfl (by kernel_rfl) (by kernel_rfl) (by kernel_rfl) (fun _ _ _ h=>h) (Or.inl ⟨by rfl,fun _ _=>by go_simp⟩) trivial ?_
    refine wpAnyH_take (i:=14) (oi:={ dst:=some 39,op:=Op.binOp BinOp.add 140 (Operand.tmp 31) (Operand.tmp 38) 140,type:=_,pos:=_,after := #[{ on:=6,ground:=Ground.data },{ on:=13,ground:=Ground.data }],guard:=none }) (v := .int .u32 ((n0:Int)*16777216+(n1:Int)*65536)) rfl (by kernel_rfl) (by kernel_rfl) (by kernel_rfl) (fun _ _ _ h=>h) (Or.inl ⟨by rfl,fun _ _=>by go_simp⟩) trivial ?_
    refine wpAnyH_take (i:=15) (oi:={ dst:=some 40,op:=Op.move (Operand.tmp 1),type:=_,pos:=_,after := #[],guard:=none }) (v := .string (str l)) rfl (by kernel_rfl) (by kernel_rfl) (by kernel_rfl) (fun _ _ _ h=>h) (Or.inl ⟨by rfl,fun _ _=>by go_simp⟩) trivial ?_
    (try simp only[pq])
    refine wpAnyH_take (i:=16) (oi:={ dst:=some 41,op:=Op.move (Operand.tmp 6),type:=_,pos:=_,after := #[],guard:=none }) (v := .int .i64 (k:Int)) rfl (by kernel_rfl) (by kernel_rfl) (by kernel_rfl) (fun _ _ _ h=>h) (Or.inl ⟨by rfl,fun _ _=>by go_simp⟩) trivial ?_
    refine wpAnyH_take (i:=17) (oi:={ dst:=some 42,op:=Op.binOp BinOp.mul 3 (Operand.const (Value.int IntKind.i64 4)) (Operand.tmp 41) 3,type:=_,pos:=_,after := #[{ on:=16,ground:=Ground.data }],guard:=none }) (v := .int .i64 (p0:Int)) rfl (by kernel_rfl) (by kernel_rfl) (by kernel_rfl) (fun _ _ _ h=>h) (Or.inl ⟨by rfl,fun _ _=>by go_simp⟩) trivial ?_
    refine wpAnyH_take (i:=18) (oi:={ dst:=some 43,op:=Op.binOp BinOp.add 3 (Operand.tmp 42) (Operand.const (Value.int IntKind.i64 2)) 3,type:=_,pos:=_,after := #[{ on:=17,ground:=Ground.data }],guard:=none }) (v := .int .i64 (p2:Int)) rfl (by kernel_rfl) (by kernel_rfl) (by kernel_rfl) (fun _ _ _ h=>h) (Or.inl ⟨by rfl,fun _ _=>by go_simp⟩) trivial ?_
    refine wpAnyH_take (i:=19) (oi:={ dst:=some 44,op:=Op.index 9 (Operand.tmp 40) (Operand.tmp 43),type:=_,pos:=_,after := #[{ on:=15,ground:=Ground.data },{ on:=18,ground:=Ground.data }],guard:=none }) (v := .int .u8 (n2:Int)) rfl (by kernel_rfl) (by kernel_rfl) (by kernel_rfl) (fun _ _ _ h=>h) (Or.inl ⟨by rfl,fun _ _=>by go_simp⟩) trivial ?_
    (try simp only[pq])
    refine wpAnyH_take (i:=20) (oi:={ dst:=some 45,op:=Op.convert 5 140 (Operand.tmp 44),type:=_,pos:=_,after := #[{ on:=19,ground:=Ground.data }],guard:=none }) (v := .int .u32 (n2:Int)) rfl (by kernel_rfl) (by kernel_rfl) (by kernel_rfl) (fun _ _ _ h=>h) (Or.inl ⟨by rfl,fun _ _=>by go_simp⟩) trivial ?_
    refine wpAnyH_take (i:=21) (oi:={ dst:=some 46,op:=Op.binOp BinOp.shl 140 (Operand.tmp 45) (Operand.const (Value.int IntKind.u64 8)) 116,type:=_,pos:=_,after := #[{ on:=20,ground:=Ground.data }],guard:=none }) (v := .int .u32 ((n2:Int)*256)) rfl (by kernel_rfl) (by kernel_rfl) (by kernel_rfl) (fun _ _ _ h=>h) (Or.inl ⟨by rfl,fun _ _=>by go_simp⟩) trivial ?_
    refine wpAnyH_take (i:=22) (oi:={ dst:=some 47,op:=Op.binOp BinOp.add 140 (Operand.tmp 39) (Operand.tmp 46) 140,type:=_,pos:=_,after := #[{ on:=14,ground:=Ground.data },{ on:=21,ground:=Ground.data }],guard:=none }) (v := .int .u32 ((n0:Int)*16777216+(n1:Int)*65536+(n2:Int)*256)) rfl (by kernel_rfl) (by kernel_rfl) (by kernel_rfl) (fun _ _ _ h=>h) (Or.inl ⟨by rfl,fun _ _=>by go_simp⟩) trivial ?_
    refine wpAnyH_take (i:=23) (oi:={ dst:=some 48,op:=Op.move (Operand.tmp 1),type:=_,pos:=_,after := #[],guard:=none }) (v := .string (str l)) rfl (by kernel_rfl) (by kernel_rfl) (by kernel_rfl) (fun _ _ _ h=>h) (Or.inl ⟨by rfl,fun _ _=>by go_simp⟩) trivial ?_
    (try simp only[pq])
    refine wpAnyH_take (i:=24) (oi:={ dst:=some 49,op:=Op.move (Operand.tmp 6),type:=_,pos:=_,after := #[],guard:=none }) (v := .int .i64 (k:Int)) rfl (by kernel_rfl) (by kernel_rfl) (by kernel_rfl) (fun _ _ _ h=>h) (Or.inl ⟨by rfl,fun _ _=>by go_simp⟩) trivial ?_
    refine wpAnyH_take (i:=25) (oi:={ dst:=some 50,op:=Op.binOp BinOp.mul 3 (Operand.const (Value.int IntKind.i64 4)) (Operand.tmp 49) 3,type:=_,pos:=_,after := #[{ on:=24,ground:=Ground.data }],guard:=none }) (v := .int .i64 (p0:Int)) rfl (by kernel_rfl) (by kernel_rfl) (by kernel_rfl) (fun _ _ _ h=>h) (Or.inl ⟨by rfl,fun _ _=>by go_simp⟩) trivial ?_
    refine wpAnyH_take (i:=26) (oi:={ dst:=some 51,op:=Op.binOp BinOp.add 3 (Operand.tmp 50) (Operand.const (Value.int IntKind.i64 3)) 3,type:=_,pos:=_,after := #[{ on:=25,ground:=Ground.data }],guard:=none }) (v := .int .i64 (p3:Int)) rfl (by kernel_rfl) (by kernel_rfl) (by kernel_rfl) (fun _ _ _ h=>h) (Or.inl ⟨by rfl,fun _ _=>by go_simp⟩) trivial ?_
    refine wpAnyH_take (i:=27) (oi:={ dst:=some 52,op:=Op.index 9 (Operand.tmp 48) (Operand.tmp 51),type:=_,pos:=_,after := #[{ on:=23,ground:=Ground.data },{ on:=26,ground:=Ground.data }],guard:=none }) (v := .int .u8 (n3:Int)) rfl (by kernel_rfl) (by kernel_rfl) (by kernel_rfl) (fun _ _ _ h=>h) (Or.inl ⟨by rfl,fun _ _=>by go_simp⟩) trivial ?_
    (try simp only[pq])
    refine wpAnyH_take (i:=28) (oi:={ dst:=some 53,op:=Op.convert 5 140 (Operand.tmp 52),type:=_,pos:=_,after := #[{ on:=27,ground:=Ground.data }],guard:=none }) (v := .int .u32 (n3:Int)) rfl (by kernel_rfl) (by kernel_rfl) (by kernel_rfl) (fun _ _ _ h=>h) (Or.inl ⟨by rfl,fun _ _=>by go_simp⟩) trivial ?_
    refine wpAnyH_take (i:=29) (oi:={ dst:=some 54,op:=Op.binOp BinOp.add 140 (Operand.tmp 47) (Operand.tmp 53) 140,type:=_,pos:=_,after := #[{ on:=22,ground:=Ground.data },{ on:=28,ground:=Ground.data }],guard:=none }) (v := .int .u32 ((n0:Int)*16777216+(n1:Int)*65536+(n2:Int)*256+(n3:Int))) rfl (by kernel_rfl) (by kernel_rfl) (by kernel_rfl) (fun _ _ _ h=>h) (Or.inl ⟨by rfl,fun _ _=>by go_simp⟩) trivial ?_
    refine wpAnyH_take (i:=30) (oi:={ dst:=some 55,op:=Op.indexAddr 181 (Operand.tmp 5) (Operand.tmp 25),type:=_,pos:=_,after:=_,guard:=none }) (v := .pointer (some ⟨w.heap.size+1+1,k,none⟩)) rfl (by kernel_rfl) (by kernel_rfl) (by kernel_rfl) (fun _ _ _ h=>h) (Or.inl ⟨by rfl,fun _ _=>by go_simp⟩) trivial ?_
    (try simp only[pq])
    refine wpAnyH_ready (rs:=[31]) (by kernel_rfl) (by simp) ?_
    refine AllReadyH.cons rfl (fun K9 hK9 => ?_) AllReadyH.nil
    go_simp
    refine hK9.out _ _ trivial (fun _ => ?_)
    (try simp only[pq])
    refine wpAnyH_done (by kernel_rfl) ?_ _
    go_wp2
    go_roundw
    case rel =>
     obtain ⟨s1,s2,s3,s4⟩:=uh HF wr (zen l k) rfl hg (uh HXS)
     refine ⟨k+1,by omega,by go_num,?_⟩
     have hval:Value.int .u32 ((n0:Int)*16777216+(n1:Int)*65536+(n2:Int)*256+(n3:Int))=wv (zen l k):=by rw[uh HX];rfl
     rw[hval]
     exact ⟨s1.drew,s2.drew,s3.drew,zam s4⟩
    case measure=>simp[intOf];omega
   ·have hhi2:¬ (k:Int)<16:=by omega
    have hc:∀ j,0<j→j≤16→wr.cell? ⟨w.heap.size+2,k - j,none⟩=some (.int .u32 (wz (ws.getD (k - j) 0))):=by
     intro j h0 h1
     have hkl:(ws.take k).length=k:=by rw[List.length_take,uh HWL];omega
     rw[hB.cell,zj4 (by rw[hkl];omega)]
     have:k - j<k:=by omega
     simp[List.getD,this]
    have hc15:=hc 15 (by omega) (by omega)
    have hc2:=hc 2 (by omega) (by omega)
    have hc7:=hc 7 (by omega) (by omega)
    have hc16:=hc 16 (by omega) (by omega)
    clear hc
    have hnx:=zqg l k (by omega) hlt
    rw[← uh HWS] at hnx
    obtain ⟨x15,hx15⟩:∃ x,x=ws.getD (k - 15) 0:=⟨_,rfl⟩
    obtain ⟨x2,hx2⟩:∃ x,x=ws.getD (k - 2) 0:=⟨_,rfl⟩
    obtain ⟨x7,hx7⟩:∃ x,x=ws.getD (k - 7) 0:=⟨_,rfl⟩
    obtain ⟨x16,hx16⟩:∃ x,x=ws.getD (k - 16) 0:=⟨_,rfl⟩
    rw[← hx15] at hc15 hnx
    rw[← hx2] at hc2 hnx
    rw[← hx7] at hc7 hnx
    rw[← hx16] at hc16 hnx
    obtain ⟨i15,hi15⟩:∃ i:Nat,k - 15=i:=⟨_,rfl⟩
    obtain ⟨i2,hi2⟩:∃ i:Nat,k - 2=i:=⟨_,rfl⟩
    obtain ⟨i7,hi7⟩:∃ i:Nat,k - 7=i:=⟨_,rfl⟩
    obtain ⟨i16,hi16⟩:∃ i:Nat,k - 16=i:=⟨_,rfl⟩
    have hw15:IntKind.i64.wrap ((k:Int) - 15)=(i15:Int):=by rw[IntKind.wrap_i64];omega
    have hw2:IntKind.i64.wrap ((k:Int) - 2)=(i2:Int):=by rw[IntKind.wrap_i64];omega
    have hw7:IntKind.i64.wrap ((k:Int) - 7)=(i7:Int):=by rw[IntKind.wrap_i64];omega
    have hw16:IntKind.i64.wrap ((k:Int) - 16)=(i16:Int):=by rw[IntKind.wrap_i64];omega
    have b1:(0:Int)≤(i15:Int):=by omega
    have b2:(i15:Int)<64:=by omega
    have b3:(0:Int)≤(i2:Int):=by omega
    have b4:(i2:Int)<64:=by omega
    have b5:(0:Int)≤(i7:Int):=by omega
    have b6:(i7:Int)<64:=by omega
    have b7:(0:Int)≤(i16:Int):=by omega
    have b8:(i16:Int)<64:=by omega
    rw[hi15] at hc15
    rw[hi2] at hc2
    rw[hi7] at hc7
    rw[hi16] at hc16
    have hn7:k≠i7:=by omega
    have hn16:k≠i16:=by omega
    have hk7:∀ (V:World) (v:Value),(V.setCell ⟨w.heap.size+2,k,none⟩ v).cell? ⟨w.heap.size+2,i7,none⟩=V.cell? ⟨w.heap.size+2,i7,none⟩:=fun V v=>World.cell?_setCell_other _ _ _ _ (by simp)
    have hk16:∀ (V:World) (v:Value),(V.setCell ⟨w.heap.size+2,k,none⟩ v).cell? ⟨w.heap.size+2,i16,none⟩=V.cell? ⟨w.heap.size+2,i16,none⟩:=fun V v=>World.cell?_setCell_other _ _ _ _ (by simp)
    have hxo:=zk5
    have hsr3:wz x15 / (8:Int)=wz (x15 >>> 3):=zns x15 3
    have hsr10:wz x2 / (1024:Int)=wz (x2 >>> 10):=zns x2 10
    have ha:=zk6
    have ham:=zgb
    have HNX:=hide hnx
    clear hnx hx15 hx2 hx7 hx16 hi15 hi2 hi7 hi16 hfin hB
    go_wp2
    go_region_held3 (fun w'=>w'.cell? ⟨w.heap.size+2,i7,none⟩=some (.int .u32 (wz x7))∧w'.cell? ⟨w.heap.size+2,i16,none⟩=some (.int .u32 (wz x16))) (go_keep) (first | (go_at_call 107;refine (zld _ _ _ ?_ ?_).mono ?_;(decide);(decide);rintro e w' ⟨rfl,rfl⟩))
    go_wp2
    go_roundw
    case rel =>
     obtain ⟨s1,s2,s3,s4⟩:=uh HF wr ((ror x2 17 ^^^ ror x2 19 ^^^ x2 >>> 10)+x7+(ror x15 7 ^^^ ror x15 18 ^^^ x15 >>> 3)+x16) rfl hg (by rw[uh HNX];rfl)
     exact ⟨k+1,by omega,by go_num,s1.drew,s2.drew,s3.drew,zam s4⟩
    case measure=>simp[intOf];omega
  ·obtain rfl:k=64:=by omega
   rw[show 64 - 64=0 from rfl,List.replicate_zero,List.append_nil,List.take_of_length_le (by rw[uh HWL];exact Nat.le_refl _)] at hB
   have hi8:(Tryz.prog.info? 141).map (·.size)=some 8:=by kernel_rfl
   have hk0:=zvr wr
   obtain ⟨bc,hbcE⟩:∃ bc,bc=wr.heap.size:=⟨_,rfl⟩
   rw[← hbcE] at hk0
   obtain ⟨s0,hs0⟩:∃ s0:S8,s0=S8.ofL hs:=⟨_,rfl⟩
   have hs0l:s0.toL=hs:=by
    rw[hs0]
    match hs,uh H8 with
    | [h0,h1,h2,h3,h4,h5,h6,h7],_=>rfl
   have hsz8:((hs.map wv).toArray).size=8:=by simp[uh H8]
   obtain ⟨HSZ,HS0,HB,HG⟩:=zh4 hsz8 hs0 hB hg
   clear hB hs0 hg hsz8
   rw[show ((64:Nat):Int)=64 from rfl]
   go_wp2_with fail
   refine hk0.mono ?_
   rintro e w3 ⟨rfl,hC3,g3⟩
   have hN3:Blk (w3.alloc (.cells Z8 141)) w3.heap.size 141 ((List.replicate 8 (0:W)).map wv):=by rw[uh HZ8];exact Blk.new w3 _ _
   obtain ⟨W4,hW4⟩:∃ W4,W4=(w3.alloc (.cells Z8 141)).setRow w3.heap.size (hs.map wv).toArray:=⟨_,rfl⟩
   have hV4:Blk W4 w3.heap.size 141 (s0.toL.map wv):=by rw[hW4,hs0l];exact hN3.row _
   have g4:w3.grownBy W4 none:=by rw[hW4];exact zar (zad (zaa _ _) _) _ (Or.inl (Nat.le_refl _))
   have G34:wr.grownBy W4 none:=zae g3 g4 (fun _ e=>by cases e)
   have hC4:=hC3.kept g4 (by simp)
   have hB4:=(uh HB).kept G34 (by simp)
   have hR4:=(uh HR).kept G34 (by simp)
   have hO4:=(uh HO).kept G34 (by simp)
   have G4:w.grownBy W4 none:=zae (uh HG) G34 (fun _ e=>by cases e)
   have hR3:=(uh HR).kept g3 (by simp)
   have hbc:w.heap.size+2<bc:=by rw[hbcE];exact (uh HB).lt
   have hcv:bc<w3.heap.size:=hC3.lt
   obtain ⟨HN3,HW4,HR3,HV4,HC4,HB4⟩:=zh6 hN3 hW4 hR3 hV4 hC4 hB4
   obtain ⟨HR4,HO4,HS0L,HBCE⟩:=zh4 hR4 hO4 hs0l hbcE
   clear hz64 hbcE hk0 hC3 g3 hN3 hW4 hV4 g4 G34 hC4 hB4 hR4 hO4 hR3 hs0l HB HR HO HG
   go_wp2_with (first
    | (refine wpList_load_row rfl 141 _ rfl w.heap.size rfl _ _ _ _ (uh HR3) Tryz.underlying141 rfl ?_ ?_;(rw[uh HSZ];exact hi8))
    | (refine wpList_store_row rfl 141 _ _ rfl w3.heap.size _ rfl rfl _ _ (uh HN3) ?_ ?_ ?_ ?_;(rw[uh HSZ];exact hi8);(rw[uh HSZ];rfl);(exact all_oneCell_toArray (zgc _));refine (show wpList _ _ _ _ _ W4→_ from fun q=>uh HW4 ▸ q) ?_))
   go_loopw [11] (fun i V=>∃ t:Nat,t≤64∧i = .int .i64 t∧Blk V w3.heap.size 141 ((rds s0 ws t).toL.map wv)∧Blk V bc 140 (Ks.map wv)∧Blk V (w.heap.size+2) 181 (ws.map wv)∧Blk V w.heap.size 141 (hs.map wv)∧Blk V (w.heap.size+1) 141 ((List.replicate 8 (0:W)).map wv)∧w.grownBy V none) (fun i _=>64 - (intOf i).toNat)
   case atStart=>exact ⟨0,Nat.zero_le _,rfl,uh HV4,uh HC4,uh HB4,uh HR4,uh HO4,G4⟩
   case round =>
    clear HV4 HC4 HB4 HR4 HO4 G4 hz8
    obtain ⟨t,ht,rfl,hV,hC,hB,hR,hO,hg⟩:=hrel
    obtain ⟨s,hs⟩:∃ s,s=rds s0 ws t:=⟨_,rfl⟩
    rw[← hs] at hV
    have HSS:=hide hs
    clear hs
    by_cases hlt:t<64
    ·have hq0:(0:Int)≤(t:Int):=by omega
     have hq1:(t:Int)<64:=by omega
     have v0:wr.cell? ⟨w3.heap.size,0,none⟩=some (.int .u32 (wz s.a)):=hV.cell 0
     have v1:wr.cell? ⟨w3.heap.size,1,none⟩=some (.int .u32 (wz s.b)):=hV.cell 1
     have v2:wr.cell? ⟨w3.heap.size,2,none⟩=some (.int .u32 (wz s.c)):=hV.cell 2
     have v3:wr.cell? ⟨w3.heap.size,3,none⟩=some (.int .u32 (wz s.d)):=hV.cell 3
     have v4:wr.cell? ⟨w3.heap.size,4,none⟩=some (.int .u32 (wz s.e)):=hV.cell 4
     have v5:wr.cell? ⟨w3.heap.size,5,none⟩=some (.int .u32 (wz s.f)):=hV.cell 5
     have v6:wr.cell? ⟨w3.heap.size,6,none⟩=some (.int .u32 (wz s.g)):=hV.cell 6
     have v7:wr.cell? ⟨w3.heap.size,7,none⟩=some (.int .u32 (wz s.h)):=hV.cell 7
     obtain ⟨ck,hck⟩:∃ ck,ck=Ks.getD t 0:=⟨_,rfl⟩
     obtain ⟨xk,hxk⟩:∃ xk,xk=ws.getD t 0:=⟨_,rfl⟩
     have hcC:wr.cell? ⟨bc,t,none⟩=some (.int .u32 (wz ck)):=by
      have:=zj4 (ws:=Ks) (k:=t) (by rw[zjm];exact hlt) []
      rw[List.append_nil] at this
      rw[hC.cell,this,hck]
     have hcW:wr.cell? ⟨w.heap.size+2,t,none⟩=some (.int .u32 (wz xk)):=by
      have:=zj4 (ws:=ws) (k:=t) (by rw[uh HWL];exact hlt) []
      rw[List.append_nil] at this
      rw[hB.cell,this,hxk]
     obtain ⟨HCK,HXK,HV,HC,HB,HR⟩:=zh6 hck hxk hV hC hB hR
     have HO:=hide hO
     clear hck hxk hV hC hB hR hO
     have hx:=zk5
     have ha:=zk6
     have ham:=zgb
     have hn:=zuy
     have hnd:=zux
     go_wp2
     go_region_held3 (fun w'=>w'.cell? ⟨w3.heap.size,7,none⟩=some (.int .u32 (wz s.h))∧w'.cell? ⟨bc,t,none⟩=some (.int .u32 (wz ck))∧w'.cell? ⟨w.heap.size+2,t,none⟩=some (.int .u32 (wz xk))) (go_keep) (first | (go_at_call 107;refine (zld _ _ _ ?_ ?_).mono ?_;(decide);(decide);rintro e w' ⟨rfl,rfl⟩))
     have hVd:Blk wr.drew w3.heap.size 141 (s.toL.map wv):=(uh HV).drew
     go_wp2_with (first
      | (go_at_call 107;refine (zld _ _ _ ?_ ?_).mono ?_;(decide);(decide);rintro e w' ⟨rfl,rfl⟩)
      | (refine wpList_build rfl 141 _ rfl _ (by kernel_rfl) ?_)
      | (refine wpList_store_row rfl 141 _ _ rfl w3.heap.size _ rfl rfl _ _ hVd ?_ ?_ ?_ ?_;(exact hi8);(rfl);(exact zqh _ _ _ _ _ _ _ _)))
     go_roundw
     case rel =>
      have er:rds s0 ws (t+1)=rnd s ck xk:=by
       show rnd (rds s0 ws t) (Ks.getD t 0) (ws.getD t 0)=_
       rw[← uh HSS,← uh HCK,← uh HXK]
      have gR:wr.grownBy (wr.drew.setRow w3.heap.size ((rnd s ck xk).toL.map wv).toArray) (some w3.heap.size):=zar (zam (zaa wr _)) _ (Or.inr rfl)
      have gG:w.grownBy (wr.drew.setRow w3.heap.size ((rnd s ck xk).toL.map wv).toArray) none:=zar (zam hg) _ (Or.inl (by omega))
      refine ⟨t+1,by omega,by go_num,?_,(uh HC).kept gR (by simp;omega),(uh HB).kept gR (by simp;omega),(uh HR).kept gR (by simp;omega),(uh HO).kept gR (by simp;omega),gG⟩
      rw[er]
      exact hVd.row ((rnd s ck xk).toL.map wv)
     case measure=>simp[intOf];omega
    ·obtain rfl:t=64:=by omega
     have hcomp:List.zipWith (· + ·) hs s.toL=comp hs l:=by
      unfold comp
      rw[uh HSS,uh HWS,uh HS0]
     obtain ⟨HCOMP,HC,HB⟩:=zh3 hcomp hC hB
     clear hcomp hC hB HSS
     rw[show ((64:Nat):Int)=64 from rfl]
     go_wp2
     go_loopw [18] (fun i V=>∃ j:Nat,j≤8∧i = .int .i64 j∧Blk V w.heap.size 141 (((List.zipWith (· + ·) hs s.toL).take j++hs.drop j).map wv)∧Blk V w3.heap.size 141 (s.toL.map wv)∧Blk V (w.heap.size+1) 141 ((List.replicate 8 (0:W)).map wv)∧w.grownBy V none) (fun i _=>8 - (intOf i).toNat)
     case atStart=>exact ⟨0,Nat.zero_le _,rfl,by simpa using hR,hV,hO,hg⟩
     case round =>
      clear hR hV hO hg
      obtain ⟨j,hj,rfl,hH,hV,hO,hg⟩:=hrel
      by_cases hlt:j<8
      ·have hq0:(0:Int)≤(j:Int):=by omega
       have hq1:(j:Int)<8:=by omega
       obtain ⟨xk,hxk⟩:∃ xk,xk=s.toL.getD j 0:=⟨_,rfl⟩
       obtain ⟨yk,hyk⟩:∃ yk,yk=hs.getD j 0:=⟨_,rfl⟩
       have hcv2:wr.cell? ⟨w3.heap.size,j,none⟩=some (.int .u32 (wz xk)):=by
        have:=zj4 (ws:=s.toL) (k:=j) (by rw[S8.toL_length];exact hlt) []
        rw[List.append_nil] at this
        rw[hV.cell,this,hxk]
       have hch:wr.cell? ⟨w.heap.size,j,none⟩=some (.int .u32 (wz yk)):=by
        have hkh:j<hs.length:=by rw[uh H8];exact hlt
        have hll:((List.zipWith (· + ·) hs s.toL).take j).length=j:=by simp[S8.toL_length,uh H8];omega
        rw[hH.cell,List.getElem?_map,List.getElem?_append_right (by omega),hll,Nat.sub_self,List.getElem?_drop,Nat.add_zero,List.getElem?_eq_getElem hkh,hyk,show hs.getD j 0=hs[j] by simp[List.getD,hkh]]
        rfl
       have hfz:=hH.fz j
       have ha:=zk6
       have ham:=zgb
       obtain ⟨HXK,HYK,HH,HV,HO⟩:=zh5 hxk hyk hH hV hO
       clear hxk hyk hH hV hO
       go_wp2
       go_region
       all_goals go_wp2
       all_goals go_roundw
       case rel =>
        have hS:=(uh HH).set j (wv (yk+xk))
        rw[zmb hs s.toL j (by rw[uh H8];exact hlt) (by rw[uh H8];rfl) (yk+xk) (by rw[← uh HXK,← uh HYK])] at hS
        exact ⟨j+1,by omega,by go_num,hS.drew,((uh HV).other _ _ (by simp;omega)).drew,((uh HO).other _ _ (by simp)).drew,zam (zab hg _ _ (Or.inl (Nat.le_refl _)))⟩
       case measure=>simp[intOf];omega
      ·obtain rfl:j=8:=by omega
       rw[List.drop_eq_nil_of_le (by rw[uh H8];exact Nat.le_refl _),List.append_nil,List.take_of_length_le (by simp[S8.toL_length,uh H8]),uh HCOMP] at hH
       obtain ⟨cs,hcs⟩:∃ cs,cs=comp hs l:=⟨_,rfl⟩
       rw[← hcs] at hH
       have hcl:cs.length=8:=by rw[hcs];exact zdc (uh H8) _
       have hsz:((cs.map wv).toArray).size=8:=by simp[hcl]
       obtain ⟨HZ,HCS⟩:=zh2 hsz hcs
       clear hsz hcs hcl
       go_wp2_with (first | (refine wpList_load_row rfl 141 _ rfl w.heap.size rfl _ _ _ _ hH Tryz.underlying141 rfl ?_ ?_;(rw[uh HZ];exact hi8)) | (refine wpList_store_row rfl 141 _ _ rfl (w.heap.size+1) _ rfl rfl _ _ hO ?_ ?_ ?_ ?_;(rw[uh HZ];exact hi8);(rw[uh HZ];rfl);(exact all_oneCell_toArray (zgc _))))
       have hS:=hO.row (cs.map wv)
       have hG:w.grownBy (wr.setRow (w.heap.size+1) (cs.map wv).toArray) none:=zar hg _ (Or.inl (by omega))
       refine bodyPost_ret (v := .agg (cs.map wv).toArray) (results_cell_row (g:=w.heap.size+1) rfl _ _ _ _ _ _ ?_ hS Tryz.underlying141 rfl ?_) rfl ⟨?_,hG⟩
       ·rfl
       ·rw[uh HZ];exact hi8
       ·rw[uh HCS]
theorem zle (ws:List W) (a b:Nat) (ha:a<ws.length) (hb:b<4) (h:4*a+b<(bytesOf ws).length):(bytesOf ws)[4*a+b]=UInt8.ofNat (ws[a].toNat / 2 ^ (8*(3 - b))):=by
 have h1:=zef ws a ha
 have hl:((bytesOf ws).take (4*a)).length=4*a:=by rw[List.length_take,zbd];omega
 have h2:(bytesOf ws)[4*a+b]=((bytesOf ws).take (4*(a+1)))[4*a+b]'(by rw[List.length_take,zbd];omega):=by simp
 rw[h2]
 simp only[h1]
 rw[List.getElem_append_right (by omega)]
 simp only[hl,Nat.add_sub_cancel_left]
 rw[zku]
theorem zn4 (xs:List UInt8) (n k:Nat) (x:UInt8) (hk:k<xs.length) (hx:x=xs[k]) (hn:k<n):((xs.take k++List.replicate (n - k) 0).map bv).set k (bv x)=(xs.take (k+1)++List.replicate (n - (k+1)) 0).map bv:=by
 subst hx
 rw[← List.map_set,List.take_succ_eq_append_getElem hk,show n - k=(n - (k+1))+1 by omega,List.replicate_succ,List.append_assoc]
 rw[List.set_append_right _ _ (by simp;omega)]
 congr 2
 have:k - (xs.take k).length=0:=by simp;omega
 rw[this]
 rfl
theorem zuf (w:World):(zeroValue 46).run Tryz.prog w = .ok (.agg ((List.replicate 32 (0:UInt8)).map bv).toArray) w:=by kernel_rfl
set_option maxHeartbeats 2000000 in
theorem zsg (w:World) (l:List UInt8) (hl:l.length<1099511627776) :
  Calls Tryz.prog 51 #[.string (str l)] w fun e w'=>e = .returned (.agg ((shaL l).map bv).toArray)∧w.grownBy w' none:=by
 have hi8:(Tryz.prog.info? 141).map (·.size)=some 8:=by kernel_rfl
 have hi32:(Tryz.prog.info? 46).map (·.size)=some 32:=by kernel_rfl
 obtain ⟨Y,hY⟩:∃ Y:Array Value,Y=((List.replicate 32 (0:UInt8)).map bv).toArray:=⟨_,rfl⟩
 have hyv:=zuf
 rw[← hY] at hyv
 obtain ⟨W1,hW1⟩:∃ W1,W1=(w.alloc (.cells Y 46)).alloc (.cells #[.int .u32 0,.int .u32 0,.int .u32 0,.int .u32 0,.int .u32 0,.int .u32 0,.int .u32 0,.int .u32 0] 141):=⟨_,rfl⟩
 have hO1:Blk W1 w.heap.size 46 ((List.replicate 32 (0:UInt8)).map bv):=by rw[hW1,hY];exact (Blk.new w _ _).alloc _
 have hB1:Blk W1 (w.heap.size+1) 141 ((List.replicate 8 (0:W)).map wv):=by
  have:=Blk.new (w.alloc (.cells Y 46)) 141 ((List.replicate 8 (0:W)).map wv)
  rw[World.size_alloc] at this
  rw[hW1];exact this
 have hg1:w.grownBy W1 none:=by rw[hW1];exact zad (zad (zaa _ _) _) _
 have hcon:(#[.int .u32 1779033703,.int .u32 3144134277,.int .u32 1013904242,.int .u32 2773480762,.int .u32 1359893119,.int .u32 2600822924,.int .u32 528734635,.int .u32 1541459225]:Array Value)=(Hs.map wv).toArray:=by kernel_rfl
 obtain ⟨W2,hW2⟩:∃ W2,W2=W1.setRow (w.heap.size+1) #[.int .u32 1779033703,.int .u32 3144134277,.int .u32 1013904242,.int .u32 2773480762,.int .u32 1359893119,.int .u32 2600822924,.int .u32 528734635,.int .u32 1541459225]:=⟨_,rfl⟩
 have hB2:Blk W2 (w.heap.size+1) 141 (Hs.map wv):=by rw[hW2,hcon];exact hB1.row _
 have gR:W1.grownBy W2 (some (w.heap.size+1)):=by rw[hW2];exact zar (zaa _ _) _ (Or.inr rfl)
 have hg2:w.grownBy W2 none:=by rw[hW2];exact zar hg1 _ (Or.inl (by omega))
 have hO2:=hO1.kept gR (by simp)
 have hpd:=zn1 W2 l hl
 obtain ⟨p,hp⟩:∃ p,p=padL l:=⟨_,rfl⟩
 rw[← hp] at hpd
 obtain ⟨m,hm⟩:∃ m,m=p.length / 64:=⟨_,rfl⟩
 have hpl:p.length=64*m:=by have:=zl6 l;rw[← hp] at this;omega
 have hpb:m<17179869186:=by
  have h1:=zet l
  have h2:zbm l.length<64:=by unfold zbm;omega
  rw[← hp] at h1
  omega
 have hsz:(str p).size=64*m:=by rw[zaj,hpl]
 obtain ⟨HW1,HW2,HY,HB1,HB2,HO2⟩:=zh6 hW1 hW2 hY hB1 hB2 hO2
 obtain ⟨HP,HM,HPL⟩:=zh3 hp hm hpl
 clear hW1 hW2 hY hB1 hB2 hO1 hO2 hp hm hpl hcon gR hg1 hl
 go_enter Tryz.func51,Tryz.ntmps51
 go_wp2_with (first
  | (rw[← uh HW1];refine wpList_store_row rfl 141 _ _ rfl (w.heap.size+1) _ rfl rfl _ _ (uh HB1) (by kernel_rfl) (by kernel_rfl) (by kernel_rfl) ?_;rw[← uh HW2])
  | (go_at_call 74;refine hpd.mono ?_;rintro e w3 ⟨rfl,g3⟩))
 have hB3:=(uh HB2).kept g3 (by simp)
 have hO3:=(uh HO2).kept g3 (by simp)
 have G3:w.grownBy w3 none:=zae hg2 g3 (fun _ e=>by cases e)
 clear hpd g3 hg2
 go_loopw [4] (fun i wr=>∃ q:Nat,q≤m∧i = .int .i64 ((64*q:Nat):Int)∧Blk wr (w.heap.size+1) 141 ((zem q p).map wv)∧Blk wr w.heap.size 46 ((List.replicate 32 (0:UInt8)).map bv)∧w.grownBy wr none) (fun i _=>64*m - (intOf i).toNat)
 case atStart=>exact ⟨0,Nat.zero_le _,rfl,hB3,hO3,G3⟩
 case round =>
  clear hB3 hO3 G3
  obtain ⟨q,hq,rfl,hB,hO,hg⟩:=hrel
  obtain ⟨a,ha⟩:∃ a,a=64*q:=⟨_,rfl⟩
  rw[← ha]
  by_cases hlt:q<m
  ·have hab:(a:Int)<64*(m:Int):=by omega
   have ha0:(0:Int)≤(a:Int):=by omega
   have hwa:IntKind.i64.wrap ((a:Int)+64)=(a:Int)+64:=by rw[IntKind.wrap_i64];omega
   have ha64:(a:Int)+64≤64*(m:Int):=by omega
   have ha65:(a:Int)≤(a:Int)+64:=by omega
   obtain ⟨x,hx⟩:∃ x,x=(p.drop a).take 64:=⟨_,rfl⟩
   have hxl:x.length=64:=by rw[hx,List.length_take,List.length_drop,uh HPL];omega
   have hst:∀ W,(Instr.slice 9 (.string (str p)) (some (.int .i64 (a:Int))) (some (.int .i64 ((a:Int)+64))) none).run Tryz.prog W = .ok (.string (str x)) W:=by
    intro W
    have e1:((a:Int)+64).toNat=a+64:=by omega
    rw[run_slice_string_if _ _ _ _ _ _ _ Tryz.underlying9]
    rw[if_pos (by rw[hsz];omega),if_pos ⟨ha0,ha65⟩,e1,Int.toNat_natCast,zh1,hx,show a+64 - a=64 by omega]
   have hbk:=fun V=>zn3 V (zem q p) (zcc q p) x hxl
   have hcomp:comp (zem q p) x=zem (q+1) p:=by rw[hx,ha];rfl
   obtain ⟨hs,hhs⟩:∃ hs,hs=zem q p:=⟨_,rfl⟩
   obtain ⟨ht,hht⟩:∃ ht,ht=zem (q+1) p:=⟨_,rfl⟩
   rw[hcomp,← hhs,← hht] at hbk
   rw[← hhs] at hB
   have hsl:hs.length=8:=by rw[hhs];exact zcc _ _
   have htl:ht.length=8:=by rw[hht];exact zcc _ _
   have hrng:wr.rangeAt (w.heap.size+1) 0 (hs.map wv):=by
    have:Blk wr (w.heap.size+1) 141 ([]++(hs.map wv++[])):=by simpa using hB
    exact this.range
   obtain ⟨HHS,HHT,HA,HX,HB,HO⟩:=zh6 hhs hht ha hx hB hO
   clear hhs hht ha hx hcomp hxl hB hO
   go_wp2
   refine wp_region_held_drew (S:=fun _=>True) (by kernel_rfl) trivial (fun _ => ?_)
   refine wpAnyH_take (i:=1) (oi:={ dst:=some 17,op:=Op.move (Operand.tmp 0),type:=_,pos:=_,after:=_,guard:=none }) (v := .string (str p)) rfl (by kernel_rfl) (by kernel_rfl) (by kernel_rfl) (fun _ _ _ h=>h) (Or.inl ⟨by rfl,fun _ _=>by go_simp⟩) trivial ?_
   refine wpAnyH_take (i:=2) (oi:={ dst:=some 18,op:=Op.move (Operand.tmp 4),type:=_,pos:=_,after:=_,guard:=none }) (v := .int .i64 (a:Int)) rfl (by kernel_rfl) (by kernel_rfl) (by kernel_rfl) (fun _ _ _ h=>h) (Or.inl ⟨by rfl,fun _ _=>by go_simp⟩) trivial ?_
   refine wpAnyH_take (i:=3) (oi:={ dst:=some 19,op:=Op.move (Operand.tmp 4),type:=_,pos:=_,after:=_,guard:=none }) (v := .int .i64 (a:Int)) rfl (by kernel_rfl) (by kernel_rfl) (by kernel_rfl) (fun _ _ _ h=>h) (Or.inl ⟨by rfl,fun _ _=>by go_simp⟩) trivial ?_
   refine wpAnyH_take (i:=4) (oi:={ dst:=some 20,op:=Op.binOp BinOp.add 3 (Operand.tmp 19) (Operand.const (Value.int IntKind.i64 64)) 3,type:=_,pos:=_,after:=_,guard:=none }) (v := .int .i64 ((a:Int)+64)) rfl (by kernel_rfl) (by kernel_rfl) (by kernel_rfl) (fun _ _ _ h=>h) (Or.inl ⟨by rfl,fun _ _=>by go_simp⟩) trivial ?_
   (try simp only[pq])
   refine wpAnyH_take (i:=5) (oi:={ dst:=some 21,op:=Op.slice 9 (Operand.tmp 17) (some (Operand.tmp 18)) (some (Operand.tmp 20)) none,type:=_,pos:=_,after:=_,guard:=none }) (v := .string (str x)) rfl (by kernel_rfl) (by kernel_rfl) (by kernel_rfl) (fun _ _ _ h=>h) (Or.inl ⟨by rfl,fun _ _=>by go_simp⟩) trivial ?_
   (try simp only[pq])
   refine wpAnyH_ready (rs:=[0]) (by kernel_rfl) (by simp) ?_
   refine AllReadyH.cons (o:={ dst:=some 16,op:=Op.load 141 (Operand.tmp 3),type:=_,pos:=_,after:=_,guard:=none }) rfl (fun K9 hK9 => ?_) AllReadyH.nil
   rw[if_pos (by rfl)]
   refine wp_load_mid _ _ rfl _ _ rfl (hs.map wv) _ (by rw[World.rangeAt_drew];exact hrng) Tryz.underlying141 rfl (by rw[List.length_map,hsl];exact hi8) ?_
   (try simp only[pq])
   refine hK9.out _ _ trivial (fun _ => ?_)
   clear hK9 K9
   (try simp only[pq])
   refine wpAnyH_ready (rs:=[6]) (by kernel_rfl) (by simp) ?_
   refine AllReadyH.cons (o:={ dst:=some 22,op:=Op.call { callee:=Callee.value (Operand.func 75),args := #[Operand.tmp 16,Operand.tmp 21],argTypes := #[141,9] },type:=_,pos:=_,after:=_,guard:=none }) rfl (fun K9 hK9 => ?_) AllReadyH.nil
   go_simp
   go_at_call 75
   refine (hbk _).mono ?_
   rintro e w5 ⟨rfl,g5⟩
   go_wp2_with fail
   refine hK9.out _ _ trivial (fun _ => ?_)
   clear hK9 K9
   (try simp only[pq])
   have hB5:=(uh HB).drew.kept g5 (by simp)
   have hO5:=(uh HO).drew.kept g5 (by simp)
   have G5:w.grownBy w5 none:=zae (zam hg) g5 (fun _ e=>by cases e)
   refine wpAnyH_ready (rs:=[7]) (by kernel_rfl) (by simp) ?_
   refine AllReadyH.cons (o:={ dst:=none,op:=Op.store 141 (Operand.tmp 3) (Operand.tmp 22),type:=_,pos:=_,after:=_,guard:=none }) rfl (fun K9 hK9 => ?_) AllReadyH.nil
   rw[if_pos (by rfl)]
   refine wp_store_mid _ _ _ rfl _ _ ((ht.map wv).toArray) rfl rfl (hB5.there 0 _ (by simp[hsl,htl])) (by rw[List.size_toArray,List.length_map,htl];exact hi8) (all_oneCell_toArray (zgc _)) ?_
   (try simp only[Act.put])
   refine hK9.out _ _ trivial (fun _ => ?_)
   clear hK9 K9
   (try simp only[pq])
   refine wpAnyH_done (by kernel_rfl) ?_ _
   go_wp2
   go_roundw
   case rel =>
    have h6:Blk (w5.setCells (w.heap.size+1) 0 (ht.map wv)) (w.heap.size+1) 141 (ht.map wv):=by
     have h7:Blk w5 (w.heap.size+1) 141 (([]:List Value)++(hs.map wv++[])):=by simpa using hB5
     have:=Blk.setCells (ht.map wv) (hs.map wv) h7 (by simp[hsl,htl])
     simpa using this
    refine ⟨q+1,by omega,?_,?_,Blk.setCells_other (by omega) _ _ hO5,za7 (Or.inl (by omega)) _ _ G5⟩
    ·rw[show (64*(q+1):Nat)=a+64 by have:=uh HA;omega];simp
    ·rw[← uh HHT];exact h6
   case measure=>have:=uh HA;simp[intOf];omega
  ·obtain rfl:q=m:=by omega
   have hab:¬ (a:Int)<64*(q:Int):=by omega
   obtain ⟨hw,hhw⟩:∃ hw,hw=zem q p:=⟨_,rfl⟩
   rw[← hhw] at hB
   have hwl:hw.length=8:=by rw[hhw];exact zcc _ _
   have hfin:bytesOf hw=shaL l:=by
    rw[shaL,shaW,hhw,uh HM,uh HP]
   have hbl:(bytesOf hw).length=32:=by rw[zbd,hwl]
   obtain ⟨bo,hbo⟩:∃ bo,bo=wr.heap.size:=⟨_,rfl⟩
   have hA6:Blk (wr.alloc (.cells Y 46)) bo 46 ((List.replicate 32 (0:UInt8)).map bv):=by rw[hbo,uh HY];exact Blk.new wr _ _
   have hlo:w.heap.size+1<bo:=by rw[hbo];exact hB.lt
   obtain ⟨HFIN,HBL,HWL,HA6,HB,HO⟩:=zh6 hfin hbl hwl hA6 hB hO
   have HG:=hide hg
   clear hhw hfin hbl hwl hA6 hB hO hg ha
   go_wp2
   rw[← hbo]
   have HBO:=hide hbo
   clear hbo
   go_loopw [6] (fun i V=>∃ j:Nat,j≤32∧i = .int .i64 j∧Blk V bo 46 (((bytesOf hw).take j++List.replicate (32 - j) 0).map bv)∧Blk V (w.heap.size+1) 141 (hw.map wv)∧Blk V w.heap.size 46 ((List.replicate 32 (0:UInt8)).map bv)∧w.grownBy V none) (fun i _=>32 - (intOf i).toNat)
   case atStart=>exact ⟨0,Nat.zero_le _,rfl,uh HA6,(uh HB).alloc _,(uh HO).alloc _,zad (uh HG) _⟩
   case round =>
    clear HA6 HB HO HG HBO
    obtain ⟨j,hj,rfl,hA,hB,hO,hg⟩:=hrel
    by_cases hlt:j<32
    ·obtain ⟨c,hc⟩:∃ c,c=j / 4:=⟨_,rfl⟩
     obtain ⟨d,hd⟩:∃ d,d=j % 4:=⟨_,rfl⟩
     obtain ⟨e,he⟩:∃ e,e=24 - 8*d:=⟨_,rfl⟩
     have hq0:(0:Int)≤(j:Int):=by omega
     have hq1:(j:Int)<32:=by omega
     have hc0:(0:Int)≤(c:Int):=by omega
     have hc8:(c:Int)<8:=by omega
     have k1:(j:Int) / 4=(c:Int):=by omega
     have k2:(j:Int).tdiv 4=(c:Int):=by rw[Int.tdiv_eq_ediv_of_nonneg hq0];exact k1
     have k3:(j:Int) % 4=(d:Int):=by omega
     have k4:(j:Int).tmod 4=(d:Int):=by rw[Int.tmod_eq_emod_of_nonneg hq0];exact k3
     have k5:(24:Int) - 8*(d:Int)=(e:Int):=by omega
     have k6:IntKind.i64.wrap (c:Int)=(c:Int):=by rw[IntKind.wrap_i64];omega
     have k7:IntKind.i64.wrap (d:Int)=(d:Int):=by rw[IntKind.wrap_i64];omega
     have k8:IntKind.i64.wrap (8*(d:Int))=8*(d:Int):=by rw[IntKind.wrap_i64];omega
     have k9:IntKind.i64.wrap (e:Int)=(e:Int):=by rw[IntKind.wrap_i64];omega
     have k10:IntKind.u64.wrap (e:Int)=(e:Int):=by rw[IntKind.wrap_u64];omega
     have hcw:c<hw.length:=by rw[uh HWL];omega
     obtain ⟨x,hx⟩:∃ x,x=hw.getD c 0:=⟨_,rfl⟩
     have hcx:wr.cell? ⟨w.heap.size+1,c,none⟩=some (.int .u32 (wz x)):=by
      have:=zj4 (ws:=hw) (k:=c) hcw []
      rw[List.append_nil] at this
      rw[hB.cell,this,hx]
     obtain ⟨y,hy⟩:∃ y:Nat,y=x.toNat / 2 ^ e:=⟨_,rfl⟩
     have hy2:wz x / 2 ^ e=(y:Int):=by rw[hy,wz];exact (Int.natCast_ediv _ _).symm ▸ (by simp)
     have hcs:(wr.cell? ⟨bo,j,none⟩).isSome=true∧wr.frozen? ⟨bo,j,none⟩=false:=by
      have:=hA.there j 1 (by simp[uh HBL];omega) 0 (by omega)
      simpa using this
     obtain ⟨hcs,hcf⟩:=hcs
     obtain ⟨ov,hcs⟩:=Option.isSome_iff_exists.1 hcs
     have hval:UInt8.ofNat y=(bytesOf hw)[j]'(by rw[uh HBL];exact hlt):=by
      have h1:=zle hw c d hcw (by omega) (by rw[uh HBL];omega)
      have h2:4*c+d=j:=by omega
      simp only[h2] at h1
      rw[h1,hy,hx,he,show 24 - 8*d=8*(3 - d) by omega]
      simp[List.getD,hcw]
     obtain ⟨HVAL,HA,HB,HO⟩:=zh4 hval hA hB hO
     clear hval hA hB hO hx hy hc hd he
     go_wp2
     go_roundw
     case rel =>
      have hbv:Value.int .u8 ((y:Int) % 256)=bv (UInt8.ofNat y):=by
       unfold bv
       rw[UInt8.toNat_ofNat']
       congr 1
      have hS:=(uh HA).set j (bv (UInt8.ofNat y))
      rw[zn4 (bytesOf hw) 32 j _ (by rw[uh HBL];exact hlt) (uh HVAL) hlt] at hS
      rw[hbv]
      exact ⟨j+1,by omega,by go_num,hS,(uh HB).other _ _ (by simp;omega),(uh HO).other _ _ (by simp;omega),zab hg _ _ (Or.inl (by simp;omega))⟩
     case measure=>simp[intOf];omega
    ·obtain rfl:j=32:=by omega
     rw[show 32 - 32=0 from rfl,List.replicate_zero,List.append_nil,List.take_of_length_le (by rw[uh HBL];exact Nat.le_refl _),uh HFIN] at hA
     have hs32:(((shaL l).map bv).toArray).size=32:=by simp[zb2]
     have HSZ:=hide hs32
     clear hs32
     go_wp2_with (first | (refine wpList_load_row rfl 46 _ rfl bo rfl _ _ _ _ hA Tryz.underlying46 rfl ?_ ?_;(rw[uh HSZ];exact hi32)) | (refine wpList_store_row rfl 46 _ _ rfl w.heap.size _ rfl rfl _ _ hO ?_ ?_ ?_ ?_;(rw[uh HSZ];exact hi32);(rw[uh HSZ];rfl);(exact all_oneCell_toArray (za6 _))))
     have hS:=hO.row ((shaL l).map bv)
     have hG:w.grownBy (wr.setRow w.heap.size ((shaL l).map bv).toArray) none:=zar hg _ (Or.inl (Nat.le_refl _))
     refine bodyPost_ret (v := .agg ((shaL l).map bv).toArray) (results_cell_row (g:=w.heap.size) rfl _ _ _ _ _ _ ?_ hS Tryz.underlying46 rfl ?_) rfl ⟨rfl,hG⟩
     ·rfl
     ·rw[uh HSZ];exact hi32
end Go.Proofs.YtegbbkgmiklhcaaGreatDoor
