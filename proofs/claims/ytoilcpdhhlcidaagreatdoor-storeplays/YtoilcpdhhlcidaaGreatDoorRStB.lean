/- Lemmas. -/
import Derived.Test.YtoilcpdhhlcidaaGreatDoorRStO
namespace Go.Proofs.YtoilcpdhhlcidaaGreatDoor
open Go.RowKit
set_option maxRecDepth 100000
def smx (x:ChI):Nat:=10+min x.key.length 9000+min x.val.length 9000
def smL (L:List ChI):Nat:=(L.map smx).sum
theorem zqd (L:List ChI) (x:ChI):smL (L++[x])=smL L+smx x:=by simp[smL]
theorem zrs (L:List ChI):10*L.length≤smL L:=by
 induction L with
 | nil=>simp[smL]
 | cons x L ih =>
   have:smL (x::L)=smx x+smL L:=by simp[smL]
   rw[this,List.length_cons]
   unfold smx
   omega
def zsd (w w' : World) (e:Ending) (L:List ChI):Prop:=∃ b,e = .returned (.bool b)∧w.grownBy w' none∧(b=true→smL L≤8000)
set_option maxHeartbeats 8000000 in
theorem zmk (w:World) (ao:Option Addr) (ac:Nat) (L:List ChI) (h:CsI w ao ac L) :
  Calls Tryz.prog 12 #[.slice ao L.length ac] w fun e w'=>zsd w w' e L:=by
 obtain ⟨n,hn⟩:∃ n,n=L.length:=⟨_,rfl⟩
 rw[← hn]
 obtain ⟨HN,H⟩:=zh2 hn h
 have hn1:n≤9223372036854775807:=by have h1:=h.row.fits;have h2:=h.row.most;unfold maxLen at h2;omega
 clear hn h
 go_enter Tryz.func12,Tryz.ntmps12
 go_wp2
 go_loopw [3,4] (fun v i wr=>∃ j t:Nat,i = .int .i64 j∧j≤n∧v = .int .i64 (t:Int)∧t≤8000∧Hid (t=smL (L.take j)∧w.grownBy wr none)) (fun _ i _=>n - (intOf i).toNat)
 case atStart=>exact ⟨0,0,rfl,Nat.zero_le _,rfl,Nat.zero_le _,rfl,zac _ _⟩
 case round =>
  obtain ⟨j,t,rfl,hj,rfl,ht,HJ⟩:=hrel
  by_cases hlt:j<n
  ·have hji:(j:Int)<(n:Int):=by omega
   have hjw:IntKind.i64.wrap ((j:Int)+1)=(j:Int)+1:=by rw[IntKind.wrap_i64];omega
   have hjl:j<L.length:=by rw[← uh HN];exact hlt
   obtain ⟨b,o,hao,hrow⟩:=(uh H).row.at j hjl
   obtain ⟨x,hx⟩:∃ x,x=L[j]:=⟨_,rfl⟩
   rw[← hx] at hrow
   obtain ⟨TK,hTK⟩:∃ T,T=str x.key:=⟨_,rfl⟩
   obtain ⟨nk,hnk⟩:∃ n,n=x.key.length:=⟨_,rfl⟩
   obtain ⟨nv,hnv⟩:∃ n,n=x.val.length:=⟨_,rfl⟩
   obtain ⟨mk,hmk⟩:∃ n,n=min nk 9000:=⟨_,rfl⟩
   obtain ⟨mv,hmv⟩:∃ n,n=min nv 9000:=⟨_,rfl⟩
   obtain ⟨t3,ht3⟩:∃ n,n=t+10+mk+mv:=⟨_,rfl⟩
   obtain ⟨z1,hz1⟩:∃ z:Int,z=(t:Int)+10:=⟨_,rfl⟩
   obtain ⟨z2,hz2⟩:∃ z:Int,z=z1+(mk:Int):=⟨_,rfl⟩
   have q0:w.cell? ⟨b,o+j*3,none⟩=some (.string TK):=by have:=hrow 0 _ rfl;rw[hTK];simpa using this
   have q1:w.cell? ⟨b,o+j*3+1,none⟩=some (.slice x.bo nv x.bc):=by have:=hrow 1 _ rfl;rw[hnv];exact this
   have hw1:IntKind.i64.wrap ((t:Int)+10)=z1:=by rw[hz1,IntKind.wrap_i64];omega
   have hw2:IntKind.i64.wrap (z1+(mk:Int))=z2:=by rw[hz2,hz1,IntKind.wrap_i64];omega
   have hw3:IntKind.i64.wrap (z2+(mv:Int))=(t3:Int):=by rw[hz2,hz1,ht3,IntKind.wrap_i64];omega
   have hm1:∀ ts ty (V:World),(Builtin.min_ ts ty #[.int .i64 (nk:Int),.int .i64 9000]).run Tryz.prog V = .ok (.int .i64 (mk:Int)) V:=fun ts ty V=>by rw[run_min_int2];congr 2;split <;> omega
   have hm2:∀ ts ty (V:World),(Builtin.min_ ts ty #[.int .i64 (nv:Int),.int .i64 9000]).run Tryz.prog V = .ok (.int .i64 (mv:Int)) V:=fun ts ty V=>by rw[run_min_int2];congr 2;split <;> omega
   have hks:TK.size=nk:=by rw[hTK,zaq,hnk]
   have hta:smL (L.take (j+1))=t3:=by
    rw[List.take_succ_eq_append_getElem hjl,zqd,← (uh HJ).1,← hx]
    unfold smx
    rw[← hnk,← hnv]
    omega
   obtain ⟨HTA,HK,HV,HW1,HW2,HW3⟩:=zh6 hta q0 q1 hw1 hw2 hw3
   obtain ⟨HM1,HM2,HKS⟩:=zh3 hm1 hm2 hks
   have HG:=hide (uh HJ).2
   have hb3:t3≤30000:=by omega
   clear hrow hx hTK hnk hnv hmk hmv ht3 hz1 hz2 q0 q1 hw1 hw2 hw3 hm1 hm2 hks hta HJ hjl
   subst hao
   go_upto_region 5 with fail
   refine wp_region_noPanic ?_
   refine wp_region_held_drew (S:=fun V=>w.grownBy V none) (by kernel_rfl) (zaa (uh HG)) (fun _ => ?_)
   refine tq 0 11 (.move (.tmp 3)) ((.int .i64 (t:Int))) (zaa (uh HG)) ?_
   refine tz 1 12 (.binOp .add 3 (.tmp 11) (.const (.int .i64 10)) 3) ((.int .i64 z1)) (zaa (uh HG)) ?_ (y:=(Or.inl ⟨by rfl,fun V hV=>by (have hv1:=uh HW1;go_simp)⟩))
   refine tq 2 13 (.move (.tmp 0)) ((.slice (some ⟨b,o,none⟩) n ac)) (zaa (uh HG)) ?_
   refine tq 3 14 (.move (.tmp 4)) ((.int .i64 (j:Int))) (zaa (uh HG)) ?_
   (try simp only[pq])
   refine tq 4 15 (.indexAddr 34 (.tmp 13) (.tmp 14)) ((.pointer (some ⟨b,o+j*3,none⟩))) (zaa (uh HG)) ?_
   refine tq 5 16 (.fieldAddr 55 (.tmp 15) 0) ((.pointer (some ⟨b,o+j*3,none⟩))) (zaa (uh HG)) ?_
   refine tz 6 17 (.load 9 (.tmp 16)) ((.string TK)) (zaa (uh HG)) ?_ (y:=(Or.inl ⟨by rfl,fun V hV=>by (have hv1:=hV.cell (uh HK) (by simp);go_simp)⟩))
   refine tz 7 18 (.call { callee := .builtin .len,args := #[(.tmp 17)],argTypes := #[9] }) ((.int .i64 (nk:Int))) (zaa (uh HG)) ?_ (y:=(Or.inl ⟨by rfl,fun V hV=>by (have hv1:=uh HKS;go_simp)⟩))
   (try simp only[pq])
   refine tz 8 19 (.call { callee := .builtin .min,args := #[(.tmp 18),.const (.int .i64 9000)],argTypes := #[3,3] }) ((.int .i64 (mk:Int))) (zaa (uh HG)) ?_ (y:=(Or.inl ⟨by rfl,fun V hV=>by (have hv1:=uh HM1;go_simp)⟩))
   refine tz 9 20 (.binOp .add 3 (.tmp 12) (.tmp 19) 3) ((.int .i64 z2)) (zaa (uh HG)) ?_ (y:=(Or.inl ⟨by rfl,fun V hV=>by (have hv1:=uh HW2;go_simp)⟩))
   refine tq 10 21 (.move (.tmp 0)) ((.slice (some ⟨b,o,none⟩) n ac)) (zaa (uh HG)) ?_
   refine tq 11 22 (.move (.tmp 4)) ((.int .i64 (j:Int))) (zaa (uh HG)) ?_
   (try simp only[pq])
   refine tq 12 23 (.indexAddr 34 (.tmp 21) (.tmp 22)) ((.pointer (some ⟨b,o+j*3,none⟩))) (zaa (uh HG)) ?_
   refine tq 13 24 (.fieldAddr 55 (.tmp 23) 1) ((.pointer (some ⟨b,o+j*3+1,none⟩))) (zaa (uh HG)) ?_
   refine tz 14 25 (.load 53 (.tmp 24)) ((.slice x.bo nv x.bc)) (zaa (uh HG)) ?_ (y:=(Or.inl ⟨by rfl,fun V hV=>by (have hv1:=hV.cell (uh HV) (by simp);go_simp)⟩))
   refine tq 15 26 (.call { callee := .builtin .len,args := #[(.tmp 25)],argTypes := #[53] }) ((.int .i64 (nv:Int))) (zaa (uh HG)) ?_
   (try simp only[pq])
   refine tz 16 27 (.call { callee := .builtin .min,args := #[(.tmp 26),.const (.int .i64 9000)],argTypes := #[3,3] }) ((.int .i64 (mv:Int))) (zaa (uh HG)) ?_ (y:=(Or.inl ⟨by rfl,fun V hV=>by (have hv1:=uh HM2;go_simp)⟩))
   refine tz 17 28 (.binOp .add 3 (.tmp 20) (.tmp 27) 3) ((.int .i64 (t3:Int))) (zaa (uh HG)) ?_ (y:=(Or.inl ⟨by rfl,fun V hV=>by (have hv1:=uh HW3;go_simp)⟩))
   refine tq 18 3 (.assign (.tmp 28)) ((.int .i64 (t3:Int))) (zaa (uh HG)) ?_
   (try simp only[pq])
   refine wpAnyH_done (by kernel_rfl) ?_ _
   refine NoPanic.normal ?_
   by_cases h8:8000<t3
   ·have h8i:(8000:Int)<(t3:Int):=by omega
    clear HTA
    go_wp2
    go_ret
    exact ⟨false,rfl,zaa (uh HG),fun e=>by cases e⟩
   ·have h8i:¬ (8000:Int)<(t3:Int):=by omega
    go_wp2
    go_roundw
    case rel=>exact ⟨j+1,t3,by go_num,by omega,rfl,by omega,(uh HTA).symm,zaa (uh HG)⟩
    case measure=>simp[intOf];omega
  ·have hji:¬ (j:Int)<(n:Int):=by omega
   have hall:L.take j=L:=List.take_of_length_le (by have:=uh HN;omega)
   have hfin:smL L≤8000:=by have:=(uh HJ).1;rw[hall] at this;omega
   have HF:=hide (And.intro hfin (uh HJ).2)
   clear hall hfin HJ
   go_wp2
   go_ret
   exact ⟨true,rfl,(uh HF).2,fun _=>(uh HF).1⟩
structure Ref1C:Prop where
 put:∀ (w:World) (b:List UInt8) (v:Nat),v<18446744073709551616→b.length≤70368744177664→Calls Tryz.prog 82 #[.string (str b),.int .u64 v,.int .i64 2] w fun e w'=>e = .returned (.string (str (b++lbS v 2)))∧w.grownBy w' none
 sized:∀ (w:World) (b x:List UInt8),b.length+16+x.length≤70368744177664→Calls Tryz.prog 83 #[.string (str b),.string (str x)] w fun e w'=>e = .returned (.string (str (b++sizS x)))∧w.grownBy w' none
theorem zop (l:List Chg) (j:Nat) (hj:j<l.length):lbS l.length 2++(l.take (j+1)).flatMap chB=(lbS l.length 2++(l.take j).flatMap chB)++chB l[j]:=by
 rw[List.take_succ_eq_append_getElem hj,List.flatMap_append,← List.append_assoc]
 simp
theorem zjk (l:List Chg) (j:Nat):(lbS l.length 2++(l.take j).flatMap chB).length≤(recB l).length:=by
 unfold recB
 rw[List.length_append,List.length_append]
 have:(l.take j).flatMap chB++(l.drop j).flatMap chB=l.flatMap chB:=by rw[← List.flatMap_append,List.take_append_drop]
 have:=congrArg List.length this
 rw[List.length_append] at this
 omega
set_option maxHeartbeats 8000000 in
theorem zml (R1:Ref1C) (w:World) (co:Option Addr) (cc:Nat) (l:List Chg) (h:Rws w 3 crC co cc l) (hl:l.length≤1000000) (hB:(recB l).length≤1099511627776) :
  Calls Tryz.prog 60 #[.slice co l.length cc] w fun e w'=>e = .returned (.string (str (recB l)))∧w.grownBy w' none:=by
 obtain ⟨n,hn⟩:∃ n,n=l.length:=⟨_,rfl⟩
 rw[← hn]
 have cp:=R1.put w [] n (by omega) (by simp)
 obtain ⟨HN,H,HB,HR1⟩:=zh4 hn h hB R1
 have hn1:n≤1000000:=by omega
 have hcv:IntKind.u64.wrap (n:Int)=(n:Int):=by rw[IntKind.wrap_u64];omega
 obtain ⟨T,hT⟩:∃ T,T=str (lbS n 2):=⟨_,rfl⟩
 rw[List.nil_append,← hT] at cp
 have cp2:Calls Tryz.prog 82 #[.string ⟨#[]⟩,.int .u64 n,.int .i64 2] w fun e w'=>e = .returned (.string T)∧w.grownBy w' none:=cp
 have HT:=hide hT
 clear hn h hB hl R1 cp hT
 go_enter Tryz.func60,Tryz.ntmps60
 go_upto_region 2 with (go_at_call 82;refine cp2.mono ?_;rintro e w1 ⟨rfl,g1⟩;clear cp2;have HG1:=hide g1;clear g1)
 go_wp2
 go_loopw [3,4] (fun v i wr=>∃ j:Nat,i = .int .i64 j∧j≤n∧v = .string (str (lbS n 2++(l.take j).flatMap chB))∧Hid (w.grownBy wr none)) (fun _ i _=>n - (intOf i).toNat)
 case atStart=>exact ⟨0,rfl,Nat.zero_le _,by rw[uh HT];simp,HG1⟩
 case round =>
  obtain ⟨j,rfl,hj,rfl,HG⟩:=hrel
  clear HG1 HT
  obtain ⟨OUT,hOUT⟩:∃ O,O=lbS n 2++(l.take j).flatMap chB:=⟨_,rfl⟩
  obtain ⟨T0,hT0⟩:∃ T,T=str OUT:=⟨_,rfl⟩
  rw[← hOUT,← hT0]
  have hOl:OUT.length≤1099511627776:=by rw[hOUT,uh HN];exact Nat.le_trans (zjk l j) (uh HB)
  by_cases hlt:j<n
  ·have hji:(j:Int)<(n:Int):=by omega
   have hjw:IntKind.i64.wrap ((j:Int)+1)=(j:Int)+1:=by rw[IntKind.wrap_i64];omega
   have hjl:j<l.length:=by rw[← uh HN];exact hlt
   obtain ⟨b,o,hco,hrow⟩:=(uh H).at j hjl
   obtain ⟨c,hc⟩:∃ c,c=l[j]:=⟨_,rfl⟩
   rw[← hc] at hrow
   have hnx:lbS n 2++(l.take (j+1)).flatMap chB=OUT++chB c:=by rw[uh HN,zop l j hjl,← hc,hOUT,uh HN]
   have hbl:(OUT++chB c).length≤1099511627776:=by rw[← hnx,uh HN];exact Nat.le_trans (zjk l (j+1)) (uh HB)
   have hcl:(chB c).length=1+(4+c.key.length)+(4+c.norm.value.length):=by
    unfold chB sizS
    simp only[List.length_cons,List.length_append,zaw]
    omega
   rw[List.length_append,hcl] at hbl
   obtain ⟨TK,hTK⟩:∃ T,T=str c.key:=⟨_,rfl⟩
   obtain ⟨TV,hTV⟩:∃ T,T=str c.value:=⟨_,rfl⟩
   obtain ⟨fl,hfl⟩:∃ f:UInt8,f=if c.gone then 1 else 0:=⟨_,rfl⟩
   obtain ⟨T1,hT1⟩:∃ T,T=str (OUT++[fl]):=⟨_,rfl⟩
   obtain ⟨T2,hT2⟩:∃ T,T=str (OUT++[fl]++sizS c.key):=⟨_,rfl⟩
   obtain ⟨T3,hT3⟩:∃ T,T=str (OUT++[fl]++sizS c.key++sizS c.norm.value):=⟨_,rfl⟩
   have e3:T3=str (OUT++chB c):=by
    rw[hT3,hfl]
    unfold chB
    simp
   have q0:w.cell? ⟨b,o+j*3,none⟩=some (.string TK):=by have:=hrow 0 _ rfl;rw[hTK];simpa using this
   have q1:w.cell? ⟨b,o+j*3+1,none⟩=some (.string TV):=by have:=hrow 1 _ rfl;rw[hTV];exact this
   have q2:wr.cell? ⟨b,o+j*3+2,none⟩=some (.bool c.gone):=(uh HG).cell (by have:=hrow 2 _ rfl;exact this) (by simp)
   have q0r:wr.cell? ⟨b,o+j*3,none⟩=some (.string TK):=(uh HG).cell q0 (by simp)
   have hc1:∀ V,Calls Tryz.prog 83 #[.string T1,.string TK] V (fun e w'=>e = .returned (.string T2)∧V.grownBy w' none):=fun V=>by
    rw[hT1,hTK,hT2]
    exact (uh HR1).sized V _ _ (by rw[List.length_append];simp only[List.length_cons,List.length_nil];omega)
   have hc2:∀ V,Calls Tryz.prog 83 #[.string T2,.string (str c.norm.value)] V (fun e w'=>e = .returned (.string T3)∧V.grownBy w' none):=fun V=>by
    rw[hT2,hT3]
    exact (uh HR1).sized V _ _ (by unfold sizS;simp only[List.length_append,List.length_cons,List.length_nil,zaw];omega)
   have hz:T0.size=OUT.length:=by rw[hT0,zaq]
   have hz1:¬ 9223372036854775807<T0.size+1:=by omega
   have HNX:=hide (show str (lbS n 2++(l.take (j+1)).flatMap chB)=T3 by rw[hnx,e3])
   obtain ⟨gn,hgn⟩:∃ g,g=c.gone:=⟨_,rfl⟩
   rw[← hgn] at q2 hfl
   subst hco
   cases gn with
   | true =>
     have ha1:T0++(⟨#[1]⟩:ByteArray)=T1:=by rw[hT0,hT1,hfl,show (⟨#[1]⟩:ByteArray)=str [1] from rfl,zdx];rfl
     have hnv:c.norm.value=[]:=by unfold Chg.norm;rw[if_pos hgn.symm]
     have hc2e:∀ V,Calls Tryz.prog 83 #[.string T2,.string ⟨#[]⟩] V (fun e w'=>e = .returned (.string T3)∧V.grownBy w' none):=fun V=>by
      have:=hc2 V
      rw[hnv] at this
      exact this
     obtain ⟨HC1,HC2⟩:=zh2 hc1 hc2e
     clear hOUT hT0 hOl hrow hc hnx hbl hcl hTK hTV hfl hT1 hT2 hT3 e3 q0 q1 hc1 hc2 hz hgn hnv hc2e HR1 HB
     go_wp2_with (first
      | (go_at_call 83;refine (uh HC1 _).mono ?_;rintro e w2 ⟨rfl,g2⟩;clear HC1;have HG2:=hide (tn (uh HG) g2);clear g2)
      | (go_at_call 83;refine (uh HC2 _).mono ?_;rintro e w3 ⟨rfl,g3⟩;clear HC2;have HG3:=hide (tn (uh HG2) g3);clear g3))
     go_roundw
     case rel=>exact ⟨j+1,by go_num,by omega,by rw[uh HNX],HG3⟩
     case measure=>simp[intOf];omega
   | false =>
     have ha1:T0++(⟨#[0]⟩:ByteArray)=T1:=by rw[hT0,hT1,hfl,show (⟨#[0]⟩:ByteArray)=str [0] from rfl,zdx];rfl
     have hnv:c.norm=c:=by unfold Chg.norm;rw[if_neg (by rw[← hgn];decide)]
     have hc2e:∀ V,Calls Tryz.prog 83 #[.string T2,.string TV] V (fun e w'=>e = .returned (.string T3)∧V.grownBy w' none):=fun V=>by
      have:=hc2 V
      rw[hnv,← hTV] at this
      exact this
     obtain ⟨HC1,HC2,HA1,HZ1,HK,HV⟩:=zh6 hc1 hc2e ha1 hz1 q0 q1
     clear hOUT hT0 hOl hrow hc hnx hbl hcl hTK hTV hfl hT1 hT2 hT3 e3 q0 q1 hc1 hc2 hz hgn hnv hc2e HR1 HB ha1 hz1 q0r
     go_upto_region 7 with fail
     refine wp_region_noPanic ?_
     refine wp_region_held_drew (S:=fun V=>w.grownBy V none) (by kernel_rfl) (zaa (uh HG)) (fun _ => ?_)
     refine tq 0 29 (.move (.tmp 3)) ((.string T0)) (zaa (uh HG)) ?_
     refine tz 1 30 (.binOp .add 9 (.tmp 29) (.const (.string { data := #[0] })) 9) ((.string T1)) (zaa (uh HG)) ?_ (y:=(Or.inl ⟨by rfl,fun V hV=>by (have hv1:=uh HA1;have hv2:=uh HZ1;go_simp)⟩))
     refine tq 2 31 (.move (.tmp 0)) ((.slice (some ⟨b,o,none⟩) n cc)) (zaa (uh HG)) ?_
     refine tq 3 32 (.move (.tmp 4)) ((.int .i64 (j:Int))) (zaa (uh HG)) ?_
     (try simp only[pq])
     refine tq 4 33 (.indexAddr 40 (.tmp 31) (.tmp 32)) ((.pointer (some ⟨b,o+j*3,none⟩))) (zaa (uh HG)) ?_
     refine tq 5 34 (.fieldAddr 85 (.tmp 33) 0) ((.pointer (some ⟨b,o+j*3,none⟩))) (zaa (uh HG)) ?_
     refine tz 6 35 (.load 9 (.tmp 34)) ((.string TK)) (zaa (uh HG)) ?_ (y:=(Or.inl ⟨by rfl,fun V hV=>by (have hv1:=hV.cell (uh HK) (by simp);go_simp)⟩))
     refine tq 8 37 (.move (.tmp 0)) ((.slice (some ⟨b,o,none⟩) n cc)) (zaa (uh HG)) ?_
     (try simp only[pq])
     refine tq 9 38 (.move (.tmp 4)) ((.int .i64 (j:Int))) (zaa (uh HG)) ?_
     refine tq 10 39 (.indexAddr 40 (.tmp 37) (.tmp 38)) ((.pointer (some ⟨b,o+j*3,none⟩))) (zaa (uh HG)) ?_
     refine tq 11 40 (.fieldAddr 85 (.tmp 39) 1) ((.pointer (some ⟨b,o+j*3+1,none⟩))) (zaa (uh HG)) ?_
     refine tz 12 41 (.load 9 (.tmp 40)) ((.string TV)) (zaa (uh HG)) ?_ (y:=(Or.inl ⟨by rfl,fun V hV=>by (have hv1:=hV.cell (uh HV) (by simp);go_simp)⟩))
     (try simp only[pq])
     refine rdq 7 (some 36) (.call { callee := .value (.func 83),args := #[(.tmp 30),(.tmp 35)],argTypes := #[9,9] }) (fun K9 hK9 => ?_)
     go_simp
     go_at_call 83
     refine (uh HC1 _).mono ?_
     rintro e w2 ⟨rfl,g2⟩
     have HG2:=hide (tn (zaa (uh HG)) g2)
     clear g2
     go_wp2_with fail
     refine hK9.out _ _ (uh HG2) (fun _ => ?_)
     clear hK9 K9
     (try simp only[pq])
     refine rdq 13 (some 42) (.call { callee := .value (.func 83),args := #[(.tmp 36),(.tmp 41)],argTypes := #[9,9] }) (fun K9 hK9 => ?_)
     go_simp
     go_at_call 83
     refine (uh HC2 _).mono ?_
     rintro e w3 ⟨rfl,g3⟩
     have HG3:=hide (tn (uh HG2) g3)
     clear g3
     go_wp2_with fail
     refine hK9.out _ _ (uh HG3) (fun _ => ?_)
     clear hK9 K9
     refine tq 14 3 (.assign (.tmp 42)) ((.string T3)) (uh HG3) ?_
     (try simp only[pq])
     refine wpAnyH_done (by kernel_rfl) ?_ _
     refine NoPanic.normal ?_
     go_wp2
     go_roundw
     case rel=>exact ⟨j+1,by go_num,by omega,by rw[uh HNX],HG3⟩
     case measure=>simp[intOf];omega
  ·have hji:¬ (j:Int)<(n:Int):=by omega
   have hfin:T0=str (recB l):=by
    rw[hT0,hOUT]
    unfold recB
    rw[List.take_of_length_le (by have:=uh HN;omega),uh HN]
   have HF:=hide hfin
   clear hfin hT0 hOUT hOl
   go_wp2
   go_ret
   exact ⟨by rw[uh HF];rfl,uh HG⟩
theorem zfh (R1:Ref1C) (w:World) (co:Option Addr) (cc:Nat) (l:List Chg) (h:Rws w 3 crC co cc l) (hl:l.length≤1000000) (hB:(recB l).length≤1099511627776) :
  Calls Tryz.prog 34 #[.slice co l.length cc] w fun e w'=>e = .returned (.int .i64 (zbc l:Int))∧w.grownBy w' none:=by
 obtain ⟨n,hn⟩:∃ n,n=l.length:=⟨_,rfl⟩
 have cb:=zml R1 w co cc l h hl hB
 obtain ⟨T,hT⟩:∃ T,T=str (recB l):=⟨_,rfl⟩
 obtain ⟨z,hz⟩:∃ z,z=(recB l).length:=⟨_,rfl⟩
 have hTs:T.size=z:=by rw[hT,zaq,hz]
 rw[← hn,← hT] at cb
 rw[← hn]
 have hw1:IntKind.i64.wrap ((z:Int)+254)=(z:Int)+254:=by rw[IntKind.wrap_i64];omega
 have hw2:IntKind.i64.wrap (1+((z:Int)+254) / 255)=1+((z:Int)+254) / 255:=by rw[IntKind.wrap_i64];omega
 have HS:=hide (show ((zbc l:Nat):Int)=1+((z:Int)+254) / 255 by unfold zbc secN;rw[← hz];omega)
 have hzb:z≤1099511627776:=by omega
 clear hn hT hz h hl hB R1
 go_enter Tryz.func34,Tryz.ntmps34
 go_wp2_with (go_at_call 60;refine cb.mono ?_;rintro e w1 ⟨rfl,g1⟩;clear cb;have HG1:=hide g1;clear g1)
 go_ret
 exact ⟨by rw[uh HS];rfl,uh HG1⟩
end Go.Proofs.YtoilcpdhhlcidaaGreatDoor
