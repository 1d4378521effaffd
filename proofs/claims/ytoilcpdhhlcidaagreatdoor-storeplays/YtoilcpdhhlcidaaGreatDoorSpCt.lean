/- Lemmas. -/
import Derived.Test.YtoilcpdhhlcidaaGreatDoorCtA
import Derived.Shelf.Spec.SlicesGrow
import Derived.Deep.DeepCutAuto
namespace Go.Proofs.YtoilcpdhhlcidaaGreatDoor
open Go.RowKit Go.Shelf
theorem zn8:(Tryz.prog.info? 5).map (fun i=>(i.zero,i.size,i.bytes))=some (some (.int .u8 0),1,1):=by kernel_rfl
def zp0:Ren :=
 ⟨fun n=>if n=4 then 127 else n,
  fun n=>if n=0 then 0 else if n=3 then 3 else if n=4 then 4 else if n=9 then 9 else if n=20 then 20 else if n=22 then 53 else if n=25 then 5 else n,
  fun n=>n⟩
theorem zqt:Lays8.n4 Tryz.prog zp0 where
 mixed:=by kernel_rfl
 f4:=⟨Tryz.f127.name,by kernel_rfl,by kernel_rfl⟩
 t0:=by kernel_rfl
 a0:=fun _=>by kernel_rfl
 z0:=fun _=>by kernel_rfl
 v0:=fun _=>by kernel_rfl
 t3:=by kernel_rfl
 a3:=fun _=>by kernel_rfl
 z3:=fun _=>by kernel_rfl
 v3:=fun _=>by kernel_rfl
 t4:=by kernel_rfl
 a4:=fun _=>by kernel_rfl
 z4:=fun _=>by kernel_rfl
 v4:=fun _=>by kernel_rfl
 t9:=by kernel_rfl
 a9:=fun _=>by kernel_rfl
 z9:=fun _=>by kernel_rfl
 v9:=fun _=>by kernel_rfl
 t20:=by kernel_rfl
 a20:=fun _=>by kernel_rfl
 z20:=fun _=>by kernel_rfl
 v20:=fun _=>by kernel_rfl
 t22:=by kernel_rfl
 a22:=fun _=>by kernel_rfl
 z22:=fun _=>by kernel_rfl
 v22:=fun _=>by kernel_rfl
theorem zn9 (w:World) (n:Nat) (hn:n≤1000000) :
  Calls Tryz.prog 127 #[.slice none 0 0,.int .i64 n] w fun e w'=>∃ v,e = .returned v∧w'.ownsRow w.heap.size 5 1 v 0 []∧w.grownBy w' none:=by
 by_cases h0:n=0
 ·subst h0
  refine (Any8.slices_Grow_room zqt none 0 0 0 w (Nat.le_refl _) (by omega) (by omega) (Nat.le_refl _)).mono ?_
  rintro e w' ⟨rfl,rfl⟩
  exact ⟨_,rfl,⟨rfl,Or.inl ⟨rfl,rfl⟩⟩,zac _ _⟩
 ·obtain ⟨i0,hi,hz0,hz1,hz2⟩:=info_parts zn8
  refine (Any8.slices_Grow_grow zqt i0 (.int .u8 0) hi hz0 (by omega) none 0 0 n [] w (Nat.le_refl _) (by omega) (by rw[hz2];omega) (by omega) (by simp) (fun _=>rfl) (fun _ e=>by cases e)).mono ?_
  rintro e w' ⟨rfl,rfl⟩
  have hge:=grownCap_ge w (0+n) 0 (zp0.t 25)
  have hle:=grownCap_le_maxLen w (0+n) 0 (zp0.t 25) (by unfold maxLen;omega)
  obtain ⟨gc,hgc⟩:∃ gc,gc=grownCap w (0+n) 0 (zp0.t 25):=⟨_,rfl⟩
  rw[← hgc] at hge hle ⊢
  refine ⟨_,rfl,?_,zaf (zaa (zac _ _)) _⟩
  refine World.ownsRow_made w.drew _ _ (Nat.le_refl _) hle ?_
  have h1:(Value.int IntKind.u8 0).cells.size=1:=rfl
  rw[Array.size_append,Array.size_append,size_zeroCells,size_zeroCells,h1]
  simp
  omega
theorem zhb (CS:List (List Value)) (j:Nat) (hj:j<CS.length):(CS.take (j+1)).flatten=(CS.take j).flatten++CS[j]:=by
 rw[List.take_succ_eq_append_getElem hj,List.flatten_append];simp
theorem zhz (CS:List (List Value)) (j:Nat):(CS.take j).flatten.length≤CS.flatten.length:=by
 conv=>rhs;rw[← List.take_append_drop j CS]
 rw[List.flatten_append,List.length_append]
 omega
set_option maxRecDepth 100000 in
set_option maxHeartbeats 2000000 in
theorem zj0 (w:World) (pa:Option Addr) (pc:Nat) (PS:List Value) (CS:List (List Value)) (hP:Cel w pa pc PS) (hQ:Prts w PS CS) (htot:CS.flatten.length≤1000000) (hnp:PS.length≤1000000) :
  Calls Tryz.prog 110 #[.slice pa PS.length pc] w fun e w'=>∃ v,e = .returned v∧w'.ownsRow w.heap.size 5 1 v CS.flatten.length CS.flatten∧w.grownBy w' none:=by
 obtain ⟨n,hn⟩:∃ n,n=PS.length:=⟨_,rfl⟩
 rw[← hn] at hnp ⊢
 have hcl:CS.length=n:=by rw[hn,hQ.len]
 obtain ⟨HN,HP,HQ,HCL⟩:=zh4 hn hP hQ hcl
 obtain ⟨t,ht⟩:∃ t,t=CS.flatten.length:=⟨_,rfl⟩
 rw[← ht] at htot ⊢
 have HT:=hide ht
 clear hn hP hQ hcl ht
 go_enter Tryz.func110,Tryz.ntmps110
 go_wp2_with fail
 go_loopw [3,5,11] (fun sz _x i wr=>wr=w∧∃ j k:Nat,i = .int .i64 j∧j≤n∧sz = .int .i64 (k:Int)∧k=(CS.take j).flatten.length) (fun _ _ i _=>n - (intOf i).toNat)
 case atStart=>exact ⟨rfl,0,0,rfl,Nat.zero_le _,rfl,by simp⟩
 case round =>
  obtain ⟨hwr,j,k,rfl,hj,rfl,hk⟩:=hrel
  subst wr
  have hkt:k≤t:=by rw[hk,uh HT];exact zhz CS j
  by_cases hlt:j<n
  ·have hjp:j<PS.length:=by rw[← uh HN];exact hlt
   have hjc:j<CS.length:=by rw[uh HCL];exact hlt
   obtain ⟨b,o,rfl,hc⟩:=(uh HP).at j hjp
   obtain ⟨ai,ci,hpe,hce⟩:=(uh HQ).at j hjp hjc
   rw[hpe] at hc
   have hfl:=zhb CS j hjc
   obtain ⟨m,hm⟩:∃ m,m=CS[j].length:=⟨_,rfl⟩
   rw[← hm] at hc
   have hk2:k+m=(CS.take (j+1)).flatten.length:=by rw[hfl,List.length_append,← hk,hm]
   have hkt2:k+m≤t:=by rw[hk2,uh HT];exact zhz CS (j+1)
   have HK2:=hide hk2
   have hjw:IntKind.i64.wrap ((j:Int)+1)=(j:Int)+1:=by rw[IntKind.wrap_i64];omega
   have hkw:IntKind.i64.wrap ((k:Int)+(m:Int))=(k:Int)+(m:Int):=by rw[IntKind.wrap_i64];omega
   have hneg:¬ (k:Int)+(m:Int)<0:=by omega
   have hjlt:(j:Int)<(n:Int):=by omega
   clear hpe hce hfl hm hk2 hk
   go_wp2
   go_roundw
   case rel=>exact ⟨trivial,j+1,k+m,by go_num,by omega,by go_num,uh HK2⟩
   case measure=>simp[intOf];omega
  ·have hjn:j=n:=by omega
   have hkt3:k=t:=by rw[hk,uh HT,hjn,← uh HCL,List.take_length]
   subst hkt3
   have hjlt:¬ (j:Int)<(n:Int):=by omega
   have cg:=zn9 w k (by omega)
   clear hk hjn
   go_wp2_with fail
   refine cg.mono ?_
   rintro e w2 ⟨v2,rfl,ho2,g2⟩
   clear cg
   go_wp2_with fail
   go_loopw [6,8,27] (fun ov _x i wr=>∃ j:Nat,i = .int .i64 j∧j≤n∧wr.ownsRow w.heap.size 5 1 ov (CS.take j).flatten.length (CS.take j).flatten∧w.grownBy wr none) (fun _ _ i _=>n - (intOf i).toNat)
   case atStart=>exact ⟨0,rfl,Nat.zero_le _,by simpa using ho2,g2⟩
   case round =>
    clear ho2 g2
    obtain ⟨i,rfl,hi,hO,hG⟩:=hrel
    obtain ⟨HO,HG⟩:=zh2 hO hG
    clear hO
    by_cases hlt2:i<n
    ·have hjp:i<PS.length:=by rw[← uh HN];exact hlt2
     have hjc:i<CS.length:=by rw[uh HCL];exact hlt2
     obtain ⟨b,o,hpa,hc⟩:=((uh HP).kept hG).at i hjp
     obtain ⟨ai,ci,hpe,hce⟩:=((uh HQ).kept hG).at i hjp hjc
     rw[hpe] at hc
     subst hpa
     have hfl:=zhb CS i hjc
     have hl1:=zhz CS (i+1)
     rw[hfl,List.length_append] at hl1
     obtain ⟨C,hC⟩:∃ C,C=CS[i]:=⟨_,rfl⟩
     rw[← hC] at hc hce hfl hl1
     obtain ⟨m,hm⟩:∃ m,m=C.length:=⟨_,rfl⟩
     rw[← hm] at hc hl1
     have hl2:=uh HT
     have hbd:(CS.take i).flatten.length+m≤1000000:=by omega
     obtain ⟨HFL,HM,HCE⟩:=zh3 hfl hm hce
     have hjw:IntKind.i64.wrap ((i:Int)+1)=(i:Int)+1:=by rw[IntKind.wrap_i64];omega
     have hilt:(i:Int)<(n:Int):=by omega
     clear hpe hce hfl hm hl1 hl2 hC hG
     go_upto_region 14 with (refine zco rfl _ _ _ _ _ _ Tryz.underlying53 zn8 rfl rfl w.heap.size _ _ _ rfl (uh HO) ai ci C (uh HCE).zero m (uh HM) rfl (by omega) (by unfold maxLen;omega) (uh HG).size ?_;intro v3 w3 ho3 g3;have HO3:=hide ho3;have HG3:=hide (zae (uh HG) g3 (fun x e=>Or.inl ((uh HO).lt x e).1));clear ho3 g3)
     go_wp2
     go_roundw
     case rel =>
      refine ⟨i+1,by go_num,by omega,?_,uh HG3⟩
      rw[uh HFL,List.length_append,← uh HM]
      exact uh HO3
     case measure=>simp[intOf];omega
    ·have hin:i=n:=by omega
     have hfin:(CS.take i).flatten=CS.flatten:=by rw[hin,← uh HCL,List.take_length]
     have HF:=hide hfin
     have hilt:¬ (i:Int)<(n:Int):=by omega
     clear hfin hin
     go_wp2
     go_ret
     refine ⟨_,rfl,?_,hG⟩
     have:=uh HO
     rw[uh HF,← uh HT] at this
     exact this
end Go.Proofs.YtoilcpdhhlcidaaGreatDoor
