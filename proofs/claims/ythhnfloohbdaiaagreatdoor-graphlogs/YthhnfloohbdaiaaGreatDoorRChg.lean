/- Lemmas. -/
import Derived.Test.YthhnfloohbdaiaaGreatDoorRSized
import Derived.Test.YthhnfloohbdaiaaGreatDoorNPartR
import Derived.Test.YthhnfloohbdaiaaGreatDoorORdId
import Derived.Deep.RegionHeld3
import Derived.Deep.DrawnRows
import Derived.Deep.DeepCutAuto
namespace Go.Proofs.YthhnfloohbdaiaaGreatDoor
open Go.RowKit
set_option maxRecDepth 100000
def reC (e:EntL):List Value:=[.string (str e.name),.bool e.dir,.string (str e.id)]
structure Rens (w:World) (ao:Option Addr) (c:Nat) (es:List EntL):Prop where
 zip:ao=none→es.length=0∧c=0
 fits:es.length≤c
 most:c≤maxLen
 shape:∀ ad,ao=some ad→0<es.length→ad.spot=none
 row:∀ ad,ao=some ad→∀ i (h:i<es.length),w.rangeAt ad.block (ad.off+i*3) (reC es[i])
theorem Rens.none {w a:World} {ao:Option Addr} {c:Nat} {es:List EntL} (h:Rens w ao c es) (g:w.grownBy a Option.none):Rens a ao c es :=
 ⟨h.zip,h.fits,h.most,h.shape,fun ad e i hi=>zaf (h.row ad e i hi) g (by simp)⟩
theorem Rens.at {w:World} {ao:Option Addr} {c:Nat} {es:List EntL} (h:Rens w ao c es) (i:Nat) (hi:i<es.length):∃ b o,ao=some ⟨b,o,Option.none⟩∧∀ k (hk:k<es.length),w.rangeAt b (o+k*3) (reC es[k]):=by
 obtain ⟨ad,had⟩:∃ ad,ao=some ad:=by
  cases ao with
  | none=>have:=(h.zip rfl).1;omega
  | some ad=>exact ⟨ad,rfl⟩
 have hs:=h.shape ad had (by omega)
 have h0:=h.row ad had
 obtain ⟨b,o,s⟩:=ad
 simp only at hs h0
 subst hs
 exact ⟨b,o,had,h0⟩
theorem Rens.own {w:World} {base:Nat} {v:Value} {es:List EntL} (h:w.ownsRow base 182 3 v es.length (es.flatMap reC)):∃ ao c,v = .slice ao es.length c∧Rens w ao c es:=by
 obtain ⟨ao,c,h1,h2,h3,h4,h5,h6⟩:=ze8 reC 3 h (fun x _=>rfl)
 exact ⟨ao,c,h1,h2,h3,h4,fun ad e _=>(h5 ad e).1,h6⟩
def zlf (w w' : World) (K:Int) (r:Int × List UInt8) (e:Ending):Prop:=e = .returned (.tuple #[.agg #[.int .i64 (if r.1=0 then K else 0),.string (str r.2)],.int .i64 r.1])∧w.grownBy w' none
theorem zcl:(Tryz.prog.info? 47).map (·.size)=some 2:=by kernel_rfl
theorem zkf (w:World) (K:Int) (d:List UInt8) (hd:d.length≤100000000):Calls Tryz.prog 143 #[.int .i64 K,.string (str d)] w fun e w'=>zlf w w' K (fitB d) e:=by
 have hsz:=zao d
 obtain ⟨S,hS⟩:∃ S,S=str d:=⟨_,rfl⟩
 obtain ⟨n,hn⟩:∃ n,n=d.length:=⟨_,rfl⟩
 rw[← hS,← hn] at hsz
 by_cases h:16384<d.length
 ·have e1:fitB d=(3,[]):=by simp[fitB,h]
  have h1:(16384:Int)<(n:Int):=by omega
  rw[e1,← hS]
  clear hS hn h hd e1
  go_enter Tryz.func143,Tryz.ntmps143
  go_wp2
  exact bodyPost_ret (v := .tuple #[.agg #[.int .i64 0,.string ⟨#[]⟩],.int .i64 3]) (by simp[results,Tryz.results143,go_sem]) rfl ⟨rfl,zah (zab _ _) _⟩
 ·have e1:fitB d=(0,d):=by simp[fitB,h]
  have h1:¬ (16384:Int)<(n:Int):=by omega
  rw[e1,← hS]
  have HS:=hide hS
  clear hS hn h hd e1
  go_enter Tryz.func143,Tryz.ntmps143
  go_wp2
  exact bodyPost_ret (v := .tuple #[.agg #[.int .i64 K,.string S],.int .i64 0]) (by simp[results,Tryz.results143,go_sem]) rfl ⟨by rw[uh HS];rfl,zah (zab _ _) _⟩
theorem zrq (es:List EntL) (M:Nat) (hid:∀ e∈es,e.id.length≤M) (hs:∀ e∈es,e.name.length≤M):∀ j,j≤es.length→((es.take j).flatMap entB).length≤j*(M+M+5):=by
 intro j
 induction j with
 | zero=>intro _;simp
 | succ j ih =>
  intro hj
  have h1:=ih (by omega)
  have h2:=hid _ (List.getElem_mem (l:=es) (n:=j) (by omega))
  have h3:=hs _ (List.getElem_mem (l:=es) (n:=j) (by omega))
  rw[List.take_succ_eq_append_getElem (by omega),List.flatMap_append,List.length_append]
  simp only[List.flatMap_cons,List.flatMap_nil,List.append_nil,entB,List.length_append,zbs,zbt,Nat.succ_mul]
  omega
theorem zpb (es:List EntL) (j:Nat) (hj:j<es.length):zep es j=(zce es[j].name && (decide (j=0) || za8 (es[j - 1]'(by omega)).name es[j].name)):=by
 have h:j - 1<es.length:=by omega
 unfold zep
 rw[show es.getD j default=es[j] by simp[hj],show es.getD (j - 1) default=es[j - 1] by simp[h]]
theorem zgb (w:World):(zeroValue 47).run Tryz.prog w = .ok (.agg #[.int .i64 0,.string (str [])]) w:=by kernel_rfl
set_option maxHeartbeats 8000000 in
theorem zml (w:World) (ao:Option Addr) (c:Nat) (es:List EntL) (hE:Rens w ao c es) (hs:∀ e∈es,e.name.length≤100000) (hid:∀ e∈es,e.id.length≤100000) (hmany:es.length≤1000000) :
  Calls Tryz.prog 127 #[.slice ao es.length c] w fun e w'=>zlf w w' 2 (za9 es) e:=by
 have hB0:∃ W1,W1=w.alloc (.cells #[.int .i64 0,.string (str [])] 47)∧Blk W1 w.heap.size 47 [.int .i64 0,.string (str [])]∧w.grownBy W1 none:=zag w _ _
 obtain ⟨W0,hW0,hB0,g0⟩:=hB0
 obtain ⟨S0,hS0⟩:∃ S,S=str []:=⟨_,rfl⟩
 have hzv:=zgb
 rw[← hS0] at hW0 hB0 hzv
 obtain ⟨HW0,HB0,HS0⟩:=zh3 hW0 hB0 hS0
 clear hW0 hB0 hS0
 by_cases hn:32<es.length
 ·have hr:za9 es=(3,[]):=by simp[za9,hn]
  obtain ⟨n,hln⟩:∃ n,n=es.length:=⟨_,rfl⟩
  have hn2:(32:Int)<(n:Int):=by omega
  rw[← hln]
  have HR:=hide hr
  clear hln hn hE hs hid hmany hr HB0 g0 hzv
  go_enter Tryz.func127,Tryz.ntmps127
  go_wp2
  exact bodyPost_ret (v := .tuple #[.agg #[.int .i64 0,.string ⟨#[]⟩],.int .i64 3]) (by simp[results,Tryz.results127,go_sem]) rfl ⟨by rw[uh HR];rfl,zah (zab _ _) _⟩
 ·obtain ⟨n,hln⟩:∃ n,n=es.length:=⟨_,rfl⟩
  have hn2:¬ (32:Int)<(n:Int):=by omega
  have hn3:n≤32:=by omega
  have hsum:=zrq es 100000 hid hs
  have hcv:IntKind.u64.wrap (n:Int)=(n:Int):=by rw[IntKind.wrap_u64];omega
  have cp:=zfa W0 [] n 2 (by omega) (by simp)
  rw[show nb 2=2 from by decide,List.nil_append] at cp
  obtain ⟨HE,HM,HI,HL,HSUM⟩:=zh5 hE hs hid hln hsum
  have HN:Hid (¬ 32<es.length):=hn
  rw[← hln]
  rw[← hln] at HSUM
  obtain ⟨P,hP⟩:∃ P:Nat→List UInt8,∀ j,P j=lb n 2++(es.take j).flatMap entB:=⟨_,fun _=>rfl⟩
  have hP0:P 0=lb n 2:=by rw[hP];simp
  rw[← hP0] at cp
  have hPS:∀ j (hj:j<es.length),P (j+1)=((P j++lb (dirN es[j].dir) 1)++layS es[j].name)++es[j].id:=by
   intro j hj
   rw[hP,hP,List.take_succ_eq_append_getElem hj,List.flatMap_append]
   simp[entB]
  have hPl:∀ j,j≤es.length→(P j).length≤2+32*200005:=by
   intro j hj
   have h1:=hsum j hj
   rw[hP,List.length_append,zbs]
   have:j*(100000+100000+5)≤32*200005:=Nat.mul_le_mul (by omega) (Nat.le_refl _)
   omega
  have hPn:P es.length=zhx es:=by rw[hP,hln,List.take_of_length_le (Nat.le_refl _)];rfl
  obtain ⟨HPS,HPL,HPN⟩:=zh3 hPS hPl hPn
  clear hE hs hln hn hid hmany hsum hP hP0 hPS hPl hPn
  rw[show str []=(⟨#[]⟩:ByteArray) from rfl] at cp
  go_enter Tryz.func127,Tryz.ntmps127
  go_wp2_with (rw[← uh HW0])
  refine cp.mono ?_
  rintro e w1 ⟨rfl,g1⟩
  clear cp
  have HB1:=hide ((uh HB0).kept g1 (by simp))
  have HG1:=hide (tn g0 g1)
  clear g1
  go_wp2
  go_loopw [4,5] (fun t i wr=>∃ j:Nat,i = .int .i64 j∧t = .string (str (P j))∧j≤n∧Hid (zc2 es j=true)∧w1.grownBy wr none) (fun _ i _=>n - (intOf i).toNat)
  case atStart=>exact ⟨0,rfl,rfl,Nat.zero_le _,rfl,zab _ _⟩
  case round =>
   obtain ⟨j,rfl,rfl,hj,HG,hg⟩:=hrel
   by_cases hlt:j<n
   ·have hlt' : j<es.length:=by have:=uh HL;omega
    obtain ⟨b,o,hao,hrow⟩:=(uh HE).at j hlt'
    have GW:=tn (uh HG1) hg
    have hr:=zaf (hrow j hlt') GW (by simp)
    have hnl:=(uh HM) _ (List.getElem_mem hlt')
    have hil:=(uh HI) _ (List.getElem_mem hlt')
    have hgd:=zpb es j hlt'
    have hps:=uh HPS j hlt'
    have hpl:=uh HPL j (by omega)
    have hpl2:=uh HPL (j+1) (by omega)
    obtain ⟨q,hq⟩:∃ q,q=j - 1:=⟨_,rfl⟩
    have hq' : q<es.length:=by omega
    have hrp:=zaf (hrow q hq') GW (by simp)
    have hpnl:=(uh HM) _ (List.getElem_mem hq')
    obtain ⟨E,hEE⟩:∃ E,E=es[j]:=⟨_,rfl⟩
    obtain ⟨F,hFF⟩:∃ E,E=es[q]:=⟨_,rfl⟩
    have hFq:es[j - 1]'(by omega)=F:=by rw[hFF];congr 1;exact hq.symm
    rw[hFq,← hEE] at hgd
    rw[← hEE] at hr hnl hil hps
    rw[← hFF] at hrp hpnl
    clear hrow hEE hFF hFq hlt' hq'
    subst hao
    obtain ⟨nm,D,id⟩:=E
    obtain ⟨pn,PD,pid⟩:=F
    simp only at hnl hgd hil hps hpnl
    have hc0:wr.cell? ⟨b,o+j*3,none⟩=some (.string (str nm)):=hr 0 _ rfl
    have hc1:wr.cell? ⟨b,o+(j*3+1),none⟩=some (.bool D):=by rw[← Nat.add_assoc];exact hr 1 _ rfl
    have hc2:wr.cell? ⟨b,o+(j*3+2),none⟩=some (.string (str id)):=by rw[← Nat.add_assoc];exact hr 2 _ rfl
    have hcp:wr.cell? ⟨b,o+q*3,none⟩=some (.string (str pn)):=hrp 0 _ rfl
    have hc1' : wr.cell? ⟨b,o+j*3+1,none⟩=some (.bool D):=hr 1 _ rfl
    have hc2' : wr.cell? ⟨b,o+j*3+2,none⟩=some (.string (str id)):=hr 2 _ rfl
    have cpart:∀ V,Calls Tryz.prog 157 #[.string (str nm)] V fun e w'=>e = .returned (.bool (zce nm))∧V.grownBy w' none:=fun V=>zrg V nm hnl
    have cless:∀ V,Calls Tryz.prog 158 #[.string (str pn),.string (str nm)] V fun e w'=>e = .returned (.bool (za8 pn nm))∧V.grownBy w' none:=fun V=>zq4 V pn nm hpnl hnl
    obtain ⟨Q0,hQ0⟩:∃ Q,Q=P j:=⟨_,rfl⟩
    obtain ⟨Q1,hQ1⟩:∃ Q,Q=Q0++lb (dirN D) 1:=⟨_,rfl⟩
    obtain ⟨Q2,hQ2⟩:∃ Q,Q=Q1++layS nm:=⟨_,rfl⟩
    rw[← hQ0] at hpl hps
    have hq1l:Q1.length≤10000000:=by rw[hQ1,List.length_append,zbs];omega
    have cput:∀ V,Calls Tryz.prog 101 #[.string (str Q0),.int .u64 ((dirN D:Nat):Int),.int .i64 1] V fun e w'=>e = .returned (.string (str Q1))∧V.grownBy w' none:=fun V=>by
     have h1:=zfa V Q0 (dirN D) 1 (by unfold dirN;split <;> omega) (by omega)
     rw[show nb 1=1 from by decide,← hQ1] at h1
     exact h1
    have csz:∀ V,Calls Tryz.prog 144 #[.string (str Q1),.string (str nm)] V fun e w'=>e = .returned (.string (str Q2))∧V.grownBy w' none:=fun V=>by
     have h1:=zd8 V Q1 nm (by omega)
     rw[← hQ2] at h1
     exact h1
    rw[← hQ1,← hQ2] at hps
    have hz1:=zao Q2
    have hz2:=zao id
    have hcat:str Q2++str id=str (P (j+1)):=by rw[hps,zc3]
    have hq2l:Q2.length≤20000000:=by rw[hQ2,List.length_append,zbt];omega
    rw[← hQ0]
    obtain ⟨T0,hT0⟩:∃ T,T=str Q0:=⟨_,rfl⟩
    obtain ⟨T1,hT1⟩:∃ T,T=str Q1:=⟨_,rfl⟩
    obtain ⟨T2,hT2⟩:∃ T,T=str Q2:=⟨_,rfl⟩
    obtain ⟨T3,hT3⟩:∃ T,T=str (P (j+1)):=⟨_,rfl⟩
    obtain ⟨TI,hTI⟩:∃ T,T=str id:=⟨_,rfl⟩
    obtain ⟨TN,hTN⟩:∃ T,T=str nm:=⟨_,rfl⟩
    obtain ⟨TP,hTP⟩:∃ T,T=str pn:=⟨_,rfl⟩
    rw[← hT0] at cput ⊢
    rw[← hT1] at cput csz
    rw[← hT2] at csz hcat hz1
    rw[← hTI] at hc2 hc2' hcat hz2
    rw[← hTN] at hc0 cpart cless csz
    rw[← hTP] at hcp cless
    rw[← hT3] at hcat
    obtain ⟨z1,hz1'⟩:∃ z,z=Q2.length:=⟨_,rfl⟩
    obtain ⟨z2,hz2'⟩:∃ z,z=id.length:=⟨_,rfl⟩
    rw[← hz1'] at hz1
    rw[← hz2'] at hz2
    have hzz:¬ 9223372036854775807<z1+z2:=by omega
    obtain ⟨HGD,HQ,HT3⟩:=zh3 hgd hq hT3
    have h0:wr.grownBy wr.drew none:=zak (zab _ _)
    have HBr:=hide ((uh HB1).kept hg (by simp))
    clear hgd hr hrp hnl hil hpnl hq hps hpl hpl2 hQ0 hQ1 hQ2 hq1l hq2l hT0 hT1 hT2 hT3 hTI hTN hTP hz1' hz2'
    go_upto_region 7 with fail
    by_cases hp:zce nm=true
    ·rw[hp] at cpart
     by_cases hj0:j=0
     ·have hj1:¬ (0:Int)<(j:Int):=by omega
      have hj2:¬ 0<j:=by omega
      have hj3:decide (0<j)=false:=by simp[hj2]
      have hgt:zc2 es (j+1)=true:=by rw[zee,uh HG,uh HGD,hp];simp[hj0]
      have HGT:=hide hgt
      clear hj0 hgt hp cless hcp HGD HG
      refine wp_region_noPanic ?_
      refine wp_region_held_drew (S:=fun V=>wr.grownBy V none) (by kernel_rfl) h0 (fun _ => ?_)
      refine tq 0 21 (.move (.tmp 0)) (.slice (some ⟨b,o,none⟩) n c) h0 ?_
      refine tq 1 22 (.move (.tmp 5)) (.int .i64 (j:Int)) h0 ?_
      refine tq 2 23 (.indexAddr 166 (.tmp 21) (.tmp 22)) (.pointer (some ⟨b,o+j*3,none⟩)) h0 ?_
      refine tq 3 24 (.fieldAddr 182 (.tmp 23) 0) (.pointer (some ⟨b,o+j*3,none⟩)) h0 ?_
      (try simp only[pq])
      refine tz 4 25 (.load 9 (.tmp 24)) (.string TN) h0 ?_ (y:=(Or.inl ⟨by rfl,fun V hV=>by (have q9:=hV.cell hc0 (by simp);go_simp)⟩))
      (try simp only[pq])
      refine rd 5 (some 26) (.call { callee := .value (.func 157),args := #[(.tmp 25)],argTypes := #[9] }) (fun K9 hK9 => ?_)
      go_simp
      go_at_call 157
      refine (cpart _).mono ?_
      rintro e w2a ⟨rfl,g2b⟩
      have g2a:=tn h0 g2b
      clear g2b
      go_wp2_with fail
      refine hK9.out _ _ g2a (fun _ => ?_)
      clear hK9 K9
      refine tq 6 27 (.unOp .not 4 (.tmp 26)) (.bool false) g2a ?_
      refine tq 7 28 (.move (.tmp 27)) (.bool false) g2a ?_
      refine tq 8 29 (.move (.tmp 5)) (.int .i64 (j:Int)) g2a ?_
      (try simp only[pq])
      refine tq 9 30 (.binOp .gtr 3 (.tmp 29) (.const (.int .i64 0)) 3) (.bool false) g2a ?_
      refine tq 10 31 (.move (.tmp 30)) (.bool false) g2a ?_
      refine tz 11 32 (.move (.tmp 0)) undef g2a ?_ (y:=(Or.inr ⟨by rfl,rfl⟩))
      refine tz 12 33 (.move (.tmp 5)) undef g2a ?_ (y:=(Or.inr ⟨by rfl,rfl⟩))
      (try simp only[pq])
      refine tz 13 34 (.binOp .sub 3 (.tmp 33) (.const (.int .i64 1)) 3) undef g2a ?_ (y:=(Or.inr ⟨by rfl,rfl⟩))
      refine tz 14 35 (.indexAddr 166 (.tmp 32) (.tmp 34)) undef g2a ?_ (y:=(Or.inr ⟨by rfl,rfl⟩))
      refine tz 15 36 (.fieldAddr 182 (.tmp 35) 0) undef g2a ?_ (y:=(Or.inr ⟨by rfl,rfl⟩))
      refine tz 16 37 (.load 9 (.tmp 36)) undef g2a ?_ (y:=(Or.inr ⟨by rfl,rfl⟩))
      (try simp only[pq])
      refine tz 17 38 (.move (.tmp 0)) undef g2a ?_ (y:=(Or.inr ⟨by rfl,rfl⟩))
      refine tz 18 39 (.move (.tmp 5)) undef g2a ?_ (y:=(Or.inr ⟨by rfl,rfl⟩))
      refine tz 19 40 (.indexAddr 166 (.tmp 38) (.tmp 39)) undef g2a ?_ (y:=(Or.inr ⟨by rfl,rfl⟩))
      refine tz 20 41 (.fieldAddr 182 (.tmp 40) 0) undef g2a ?_ (y:=(Or.inr ⟨by rfl,rfl⟩))
      (try simp only[pq])
      refine tz 21 42 (.load 9 (.tmp 41)) undef g2a ?_ (y:=(Or.inr ⟨by rfl,rfl⟩))
      refine tz 22 43 (.call { callee := .value (.func 158),args := #[(.tmp 37),(.tmp 42)],argTypes := #[9,9] }) undef g2a ?_ (y:=(Or.inr ⟨by rfl,rfl⟩))
      refine tz 23 44 (.unOp .not 4 (.tmp 43)) undef g2a ?_ (y:=(Or.inr ⟨by rfl,rfl⟩))
      refine tq 24 45 (.pick (.tmp 31) (.tmp 44) (.const (.bool false))) (.bool false) g2a ?_
      (try simp only[pq])
      refine tq 25 46 (.pick (.tmp 28) (.const (.bool true)) (.tmp 45)) (.bool false) g2a ?_
      (try simp only[pq])
      refine wpAnyH_done (by kernel_rfl) ?_ _
      refine NoPanic.normal ?_
      obtain ⟨w2,hw2⟩:∃ V,V=w2a:=⟨_,rfl⟩
      rw[← hw2]
      have g2:wr.grownBy w2 none:=by rw[hw2];exact g2a
      clear hw2
      clear cpart h0
      cases D
      ·have hd1:=g2.cell hc1 (by simp)
       have hd1':=g2.cell hc1' (by simp)
       simp only[dirN,Bool.false_eq_true,if_false] at cput
       have h0b:w1.grownBy w2.drew none:=zak (tn hg g2)
       have hk0:=g2.cell hc0 (by simp)
       have hk2:=g2.cell hc2 (by simp)
       have hk2':=g2.cell hc2' (by simp)
       go_upto_region 12 with fail
       have h0c:w2.grownBy w2.drew none:=zak (zab _ _)
       refine wp_region_noPanic ?_
       refine wp_region_held_drew (S:=fun V=>w2.grownBy V none) (by kernel_rfl) h0c (fun _ => ?_)
       refine tq 0 53 (.move (.tmp 4)) (.string T0) h0c ?_
       refine tq 1 54 (.move (.tmp 6)) (.int .u64 0) h0c ?_
       refine tq 3 56 (.move (.tmp 0)) (.slice (some ⟨b,o,none⟩) n c) h0c ?_
       refine tq 4 57 (.move (.tmp 5)) (.int .i64 (j:Int)) h0c ?_
       (try simp only[pq])
       refine tq 5 58 (.indexAddr 166 (.tmp 56) (.tmp 57)) (.pointer (some ⟨b,o+j*3,none⟩)) h0c ?_
       refine tq 6 59 (.fieldAddr 182 (.tmp 58) 0) (.pointer (some ⟨b,o+j*3,none⟩)) h0c ?_
       refine tz 7 60 (.load 9 (.tmp 59)) (.string TN) h0c ?_ (y:=(Or.inl ⟨by rfl,fun V hV=>by (have q9:=hV.cell hk0 (by simp);go_simp)⟩))
       refine tq 9 62 (.move (.tmp 0)) (.slice (some ⟨b,o,none⟩) n c) h0c ?_
       (try simp only[pq])
       refine tq 10 63 (.move (.tmp 5)) (.int .i64 (j:Int)) h0c ?_
       refine tq 11 64 (.indexAddr 166 (.tmp 62) (.tmp 63)) (.pointer (some ⟨b,o+j*3,none⟩)) h0c ?_
       refine tq 12 65 (.fieldAddr 182 (.tmp 64) 2) (.pointer (some ⟨b,o+(j*3+2),none⟩)) h0c ?_
       refine tz 13 66 (.load 9 (.tmp 65)) (.string TI) h0c ?_ (y:=(Or.inl ⟨by rfl,fun V hV=>by (have q9:=hV.cell hk2 (by simp);have q8:=hV.cell hk2' (by simp);go_simp)⟩))
       (try simp only[pq])
       refine rd 2 (some 55) (.call { callee := .value (.func 101),args := #[(.tmp 53),(.tmp 54),.const (.int .i64 1)],argTypes := #[9,68,3] }) (fun K9 hK9 => ?_)
       go_simp
       go_at_call 101
       refine (cput _).mono ?_
       rintro e w4 ⟨rfl,g4a⟩
       have g4:=tn h0c g4a
       clear g4a
       go_wp2_with fail
       refine hK9.out _ _ g4 (fun _ => ?_)
       clear hK9 K9
       (try simp only[pq])
       refine rd 8 (some 61) (.call { callee := .value (.func 144),args := #[(.tmp 55),(.tmp 60)],argTypes := #[9,9] }) (fun K9 hK9 => ?_)
       go_simp
       go_at_call 144
       refine (csz _).mono ?_
       rintro e w5 ⟨rfl,g5a⟩
       have g5:=tn g4 g5a
       clear g5a
       go_wp2_with fail
       refine hK9.out _ _ g5 (fun _ => ?_)
       clear hK9 K9
       refine tq 14 67 (.binOp .add 9 (.tmp 61) (.tmp 66) 9) (.string T3) g5 ?_
       refine tq 15 4 (.assign (.tmp 67)) (.string T3) g5 ?_
       (try simp only[pq])
       refine wpAnyH_done (by kernel_rfl) ?_ _
       refine NoPanic.normal ?_
       have g6:w1.grownBy w5 none:=tn (tn hg g2) g5
       clear cput csz h0c h0b
       go_wp2
       go_roundw
       case rel=>exact ⟨j+1,by go_num,by rw[← uh HT3],by omega,HGT,g6⟩
       case measure=>simp[intOf];omega
      ·have hd1:=g2.cell hc1 (by simp)
       have hd1':=g2.cell hc1' (by simp)
       simp only[dirN,if_true] at cput
       have h0b:w1.grownBy w2.drew none:=zak (tn hg g2)
       have hk0:=g2.cell hc0 (by simp)
       have hk2:=g2.cell hc2 (by simp)
       have hk2':=g2.cell hc2' (by simp)
       go_upto_region 12 with fail
       have h0c:w2.grownBy w2.drew none:=zak (zab _ _)
       refine wp_region_noPanic ?_
       refine wp_region_held_drew (S:=fun V=>w2.grownBy V none) (by kernel_rfl) h0c (fun _ => ?_)
       refine tq 0 53 (.move (.tmp 4)) (.string T0) h0c ?_
       refine tq 1 54 (.move (.tmp 6)) (.int .u64 1) h0c ?_
       refine tq 3 56 (.move (.tmp 0)) (.slice (some ⟨b,o,none⟩) n c) h0c ?_
       refine tq 4 57 (.move (.tmp 5)) (.int .i64 (j:Int)) h0c ?_
       (try simp only[pq])
       refine tq 5 58 (.indexAddr 166 (.tmp 56) (.tmp 57)) (.pointer (some ⟨b,o+j*3,none⟩)) h0c ?_
       refine tq 6 59 (.fieldAddr 182 (.tmp 58) 0) (.pointer (some ⟨b,o+j*3,none⟩)) h0c ?_
       refine tz 7 60 (.load 9 (.tmp 59)) (.string TN) h0c ?_ (y:=(Or.inl ⟨by rfl,fun V hV=>by (have q9:=hV.cell hk0 (by simp);go_simp)⟩))
       refine tq 9 62 (.move (.tmp 0)) (.slice (some ⟨b,o,none⟩) n c) h0c ?_
       (try simp only[pq])
       refine tq 10 63 (.move (.tmp 5)) (.int .i64 (j:Int)) h0c ?_
       refine tq 11 64 (.indexAddr 166 (.tmp 62) (.tmp 63)) (.pointer (some ⟨b,o+j*3,none⟩)) h0c ?_
       refine tq 12 65 (.fieldAddr 182 (.tmp 64) 2) (.pointer (some ⟨b,o+(j*3+2),none⟩)) h0c ?_
       refine tz 13 66 (.load 9 (.tmp 65)) (.string TI) h0c ?_ (y:=(Or.inl ⟨by rfl,fun V hV=>by (have q9:=hV.cell hk2 (by simp);have q8:=hV.cell hk2' (by simp);go_simp)⟩))
       (try simp only[pq])
       refine rd 2 (some 55) (.call { callee := .value (.func 101),args := #[(.tmp 53),(.tmp 54),.const (.int .i64 1)],argTypes := #[9,68,3] }) (fun K9 hK9 => ?_)
       go_simp
       go_at_call 101
       refine (cput _).mono ?_
       rintro e w4 ⟨rfl,g4a⟩
       have g4:=tn h0c g4a
       clear g4a
       go_wp2_with fail
       refine hK9.out _ _ g4 (fun _ => ?_)
       clear hK9 K9
       (try simp only[pq])
       refine rd 8 (some 61) (.call { callee := .value (.func 144),args := #[(.tmp 55),(.tmp 60)],argTypes := #[9,9] }) (fun K9 hK9 => ?_)
       go_simp
       go_at_call 144
       refine (csz _).mono ?_
       rintro e w5 ⟨rfl,g5a⟩
       have g5:=tn g4 g5a
       clear g5a
       go_wp2_with fail
       refine hK9.out _ _ g5 (fun _ => ?_)
       clear hK9 K9
       refine tq 14 67 (.binOp .add 9 (.tmp 61) (.tmp 66) 9) (.string T3) g5 ?_
       refine tq 15 4 (.assign (.tmp 67)) (.string T3) g5 ?_
       (try simp only[pq])
       refine wpAnyH_done (by kernel_rfl) ?_ _
       refine NoPanic.normal ?_
       have g6:w1.grownBy w5 none:=tn (tn hg g2) g5
       clear cput csz h0c h0b
       go_wp2
       go_roundw
       case rel=>exact ⟨j+1,by go_num,by rw[← uh HT3],by omega,HGT,g6⟩
       case measure=>simp[intOf];omega
     ·have hj1:(0:Int)<(j:Int):=by omega
      have hj2:0<j:=by omega
      have hjq:(j:Int) - 1=(q:Int):=by have:=uh HQ;omega
      have hqn:q<n:=by have:=uh HQ;omega
      have hqw:IntKind.i64.wrap (q:Int)=(q:Int):=by rw[IntKind.wrap_i64];omega
      by_cases hls:za8 pn nm=true
      ·rw[hls] at cless
       have hgt:zc2 es (j+1)=true:=by rw[zee,uh HG,uh HGD,hp,hls];simp
       have HGT:=hide hgt
       clear hj0 hgt hp HGD HG hls
       refine wp_region_noPanic ?_
       refine wp_region_held_drew (S:=fun V=>wr.grownBy V none) (by kernel_rfl) h0 (fun _ => ?_)
       refine tq 0 21 (.move (.tmp 0)) (.slice (some ⟨b,o,none⟩) n c) h0 ?_
       refine tq 1 22 (.move (.tmp 5)) (.int .i64 (j:Int)) h0 ?_
       refine tq 2 23 (.indexAddr 166 (.tmp 21) (.tmp 22)) (.pointer (some ⟨b,o+j*3,none⟩)) h0 ?_
       refine tq 3 24 (.fieldAddr 182 (.tmp 23) 0) (.pointer (some ⟨b,o+j*3,none⟩)) h0 ?_
       (try simp only[pq])
       refine tz 4 25 (.load 9 (.tmp 24)) (.string TN) h0 ?_ (y:=(Or.inl ⟨by rfl,fun V hV=>by (have q9:=hV.cell hc0 (by simp);go_simp)⟩))
       (try simp only[pq])
       refine rd 5 (some 26) (.call { callee := .value (.func 157),args := #[(.tmp 25)],argTypes := #[9] }) (fun K9 hK9 => ?_)
       go_simp
       go_at_call 157
       refine (cpart _).mono ?_
       rintro e w2a ⟨rfl,g2b⟩
       have g2a:=tn h0 g2b
       clear g2b
       go_wp2_with fail
       refine hK9.out _ _ g2a (fun _ => ?_)
       clear hK9 K9
       refine tq 6 27 (.unOp .not 4 (.tmp 26)) (.bool false) g2a ?_
       refine tq 7 28 (.move (.tmp 27)) (.bool false) g2a ?_
       refine tq 8 29 (.move (.tmp 5)) (.int .i64 (j:Int)) g2a ?_
       (try simp only[pq])
       refine tq 9 30 (.binOp .gtr 3 (.tmp 29) (.const (.int .i64 0)) 3) (.bool true) g2a ?_
       refine tq 10 31 (.move (.tmp 30)) (.bool true) g2a ?_
       refine tq 11 32 (.move (.tmp 0)) (.slice (some ⟨b,o,none⟩) n c) g2a ?_
       refine tq 12 33 (.move (.tmp 5)) (.int .i64 (j:Int)) g2a ?_
       (try simp only[pq])
       refine tq 13 34 (.binOp .sub 3 (.tmp 33) (.const (.int .i64 1)) 3) (.int .i64 (q:Int)) g2a ?_
       refine tq 14 35 (.indexAddr 166 (.tmp 32) (.tmp 34)) (.pointer (some ⟨b,o+q*3,none⟩)) g2a ?_
       refine tq 15 36 (.fieldAddr 182 (.tmp 35) 0) (.pointer (some ⟨b,o+q*3,none⟩)) g2a ?_
       refine tz 16 37 (.load 9 (.tmp 36)) (.string TP) g2a ?_ (y:=(Or.inl ⟨by rfl,fun V hV=>by (have q9:=hV.cell hcp (by simp);go_simp)⟩))
       (try simp only[pq])
       refine tq 17 38 (.move (.tmp 0)) (.slice (some ⟨b,o,none⟩) n c) g2a ?_
       refine tq 18 39 (.move (.tmp 5)) (.int .i64 (j:Int)) g2a ?_
       refine tq 19 40 (.indexAddr 166 (.tmp 38) (.tmp 39)) (.pointer (some ⟨b,o+j*3,none⟩)) g2a ?_
       refine tq 20 41 (.fieldAddr 182 (.tmp 40) 0) (.pointer (some ⟨b,o+j*3,none⟩)) g2a ?_
       (try simp only[pq])
       refine tz 21 42 (.load 9 (.tmp 41)) (.string TN) g2a ?_ (y:=(Or.inl ⟨by rfl,fun V hV=>by (have q9:=hV.cell hc0 (by simp);go_simp)⟩))
       (try simp only[pq])
       refine rd 22 (some 43) (.call { callee := .value (.func 158),args := #[(.tmp 37),(.tmp 42)],argTypes := #[9,9] }) (fun K9 hK9 => ?_)
       go_simp
       go_at_call 158
       refine (cless _).mono ?_
       rintro e w3a ⟨rfl,g3b⟩
       have g3a:=tn g2a g3b
       clear g3b
       go_wp2_with fail
       refine hK9.out _ _ g3a (fun _ => ?_)
       clear hK9 K9
       refine tq 23 44 (.unOp .not 4 (.tmp 43)) (.bool false) g3a ?_
       refine tq 24 45 (.pick (.tmp 31) (.tmp 44) (.const (.bool false))) (.bool false) g3a ?_
       refine tq 25 46 (.pick (.tmp 28) (.const (.bool true)) (.tmp 45)) (.bool false) g3a ?_
       (try simp only[pq])
       refine wpAnyH_done (by kernel_rfl) ?_ _
       refine NoPanic.normal ?_
       obtain ⟨w2,hw2⟩:∃ V,V=w3a:=⟨_,rfl⟩
       rw[← hw2]
       have g2:wr.grownBy w2 none:=by rw[hw2];exact g3a
       clear hw2
       clear cpart cless h0
       cases D
       ·have hd1:=g2.cell hc1 (by simp)
        have hd1':=g2.cell hc1' (by simp)
        simp only[dirN,Bool.false_eq_true,if_false] at cput
        have h0b:w1.grownBy w2.drew none:=zak (tn hg g2)
        have hk0:=g2.cell hc0 (by simp)
        have hk2:=g2.cell hc2 (by simp)
        have hk2':=g2.cell hc2' (by simp)
        go_upto_region 12 with fail
        have h0c:w2.grownBy w2.drew none:=zak (zab _ _)
        refine wp_region_noPanic ?_
        refine wp_region_held_drew (S:=fun V=>w2.grownBy V none) (by kernel_rfl) h0c (fun _ => ?_)
        refine tq 0 53 (.move (.tmp 4)) (.string T0) h0c ?_
        refine tq 1 54 (.move (.tmp 6)) (.int .u64 0) h0c ?_
        refine tq 3 56 (.move (.tmp 0)) (.slice (some ⟨b,o,none⟩) n c) h0c ?_
        refine tq 4 57 (.move (.tmp 5)) (.int .i64 (j:Int)) h0c ?_
        (try simp only[pq])
        refine tq 5 58 (.indexAddr 166 (.tmp 56) (.tmp 57)) (.pointer (some ⟨b,o+j*3,none⟩)) h0c ?_
        refine tq 6 59 (.fieldAddr 182 (.tmp 58) 0) (.pointer (some ⟨b,o+j*3,none⟩)) h0c ?_
        refine tz 7 60 (.load 9 (.tmp 59)) (.string TN) h0c ?_ (y:=(Or.inl ⟨by rfl,fun V hV=>by (have q9:=hV.cell hk0 (by simp);go_simp)⟩))
        refine tq 9 62 (.move (.tmp 0)) (.slice (some ⟨b,o,none⟩) n c) h0c ?_
        (try simp only[pq])
        refine tq 10 63 (.move (.tmp 5)) (.int .i64 (j:Int)) h0c ?_
        refine tq 11 64 (.indexAddr 166 (.tmp 62) (.tmp 63)) (.pointer (some ⟨b,o+j*3,none⟩)) h0c ?_
        refine tq 12 65 (.fieldAddr 182 (.tmp 64) 2) (.pointer (some ⟨b,o+(j*3+2),none⟩)) h0c ?_
        refine tz 13 66 (.load 9 (.tmp 65)) (.string TI) h0c ?_ (y:=(Or.inl ⟨by rfl,fun V hV=>by (have q9:=hV.cell hk2 (by simp);have q8:=hV.cell hk2' (by simp);go_simp)⟩))
        (try simp only[pq])
        refine rd 2 (some 55) (.call { callee := .value (.func 101),args := #[(.tmp 53),(.tmp 54),.const (.int .i64 1)],argTypes := #[9,68,3] }) (fun K9 hK9 => ?_)
        go_simp
        go_at_call 101
        refine (cput _).mono ?_
        rintro e w4 ⟨rfl,g4a⟩
        have g4:=tn h0c g4a
        clear g4a
        go_wp2_with fail
        refine hK9.out _ _ g4 (fun _ => ?_)
        clear hK9 K9
        (try simp only[pq])
        refine rd 8 (some 61) (.call { callee := .value (.func 144),args := #[(.tmp 55),(.tmp 60)],argTypes := #[9,9] }) (fun K9 hK9 => ?_)
        go_simp
        go_at_call 144
        refine (csz _).mono ?_
        rintro e w5 ⟨rfl,g5a⟩
        have g5:=tn g4 g5a
        clear g5a
        go_wp2_with fail
        refine hK9.out _ _ g5 (fun _ => ?_)
        clear hK9 K9
        refine tq 14 67 (.binOp .add 9 (.tmp 61) (.tmp 66) 9) (.string T3) g5 ?_
        refine tq 15 4 (.assign (.tmp 67)) (.string T3) g5 ?_
        (try simp only[pq])
        refine wpAnyH_done (by kernel_rfl) ?_ _
        refine NoPanic.normal ?_
        have g6:w1.grownBy w5 none:=tn (tn hg g2) g5
        clear cput csz h0c h0b
        go_wp2
        go_roundw
        case rel=>exact ⟨j+1,by go_num,by rw[← uh HT3],by omega,HGT,g6⟩
        case measure=>simp[intOf];omega
       ·have hd1:=g2.cell hc1 (by simp)
        have hd1':=g2.cell hc1' (by simp)
        simp only[dirN,if_true] at cput
        have h0b:w1.grownBy w2.drew none:=zak (tn hg g2)
        have hk0:=g2.cell hc0 (by simp)
        have hk2:=g2.cell hc2 (by simp)
        have hk2':=g2.cell hc2' (by simp)
        go_upto_region 12 with fail
        have h0c:w2.grownBy w2.drew none:=zak (zab _ _)
        refine wp_region_noPanic ?_
        refine wp_region_held_drew (S:=fun V=>w2.grownBy V none) (by kernel_rfl) h0c (fun _ => ?_)
        refine tq 0 53 (.move (.tmp 4)) (.string T0) h0c ?_
        refine tq 1 54 (.move (.tmp 6)) (.int .u64 1) h0c ?_
        refine tq 3 56 (.move (.tmp 0)) (.slice (some ⟨b,o,none⟩) n c) h0c ?_
        refine tq 4 57 (.move (.tmp 5)) (.int .i64 (j:Int)) h0c ?_
        (try simp only[pq])
        refine tq 5 58 (.indexAddr 166 (.tmp 56) (.tmp 57)) (.pointer (some ⟨b,o+j*3,none⟩)) h0c ?_
        refine tq 6 59 (.fieldAddr 182 (.tmp 58) 0) (.pointer (some ⟨b,o+j*3,none⟩)) h0c ?_
        refine tz 7 60 (.load 9 (.tmp 59)) (.string TN) h0c ?_ (y:=(Or.inl ⟨by rfl,fun V hV=>by (have q9:=hV.cell hk0 (by simp);go_simp)⟩))
        refine tq 9 62 (.move (.tmp 0)) (.slice (some ⟨b,o,none⟩) n c) h0c ?_
        (try simp only[pq])
        refine tq 10 63 (.move (.tmp 5)) (.int .i64 (j:Int)) h0c ?_
        refine tq 11 64 (.indexAddr 166 (.tmp 62) (.tmp 63)) (.pointer (some ⟨b,o+j*3,none⟩)) h0c ?_
        refine tq 12 65 (.fieldAddr 182 (.tmp 64) 2) (.pointer (some ⟨b,o+(j*3+2),none⟩)) h0c ?_
        refine tz 13 66 (.load 9 (.tmp 65)) (.string TI) h0c ?_ (y:=(Or.inl ⟨by rfl,fun V hV=>by (have q9:=hV.cell hk2 (by simp);have q8:=hV.cell hk2' (by simp);go_simp)⟩))
        (try simp only[pq])
        refine rd 2 (some 55) (.call { callee := .value (.func 101),args := #[(.tmp 53),(.tmp 54),.const (.int .i64 1)],argTypes := #[9,68,3] }) (fun K9 hK9 => ?_)
        go_simp
        go_at_call 101
        refine (cput _).mono ?_
        rintro e w4 ⟨rfl,g4a⟩
        have g4:=tn h0c g4a
        clear g4a
        go_wp2_with fail
        refine hK9.out _ _ g4 (fun _ => ?_)
        clear hK9 K9
        (try simp only[pq])
        refine rd 8 (some 61) (.call { callee := .value (.func 144),args := #[(.tmp 55),(.tmp 60)],argTypes := #[9,9] }) (fun K9 hK9 => ?_)
        go_simp
        go_at_call 144
        refine (csz _).mono ?_
        rintro e w5 ⟨rfl,g5a⟩
        have g5:=tn g4 g5a
        clear g5a
        go_wp2_with fail
        refine hK9.out _ _ g5 (fun _ => ?_)
        clear hK9 K9
        refine tq 14 67 (.binOp .add 9 (.tmp 61) (.tmp 66) 9) (.string T3) g5 ?_
        refine tq 15 4 (.assign (.tmp 67)) (.string T3) g5 ?_
        (try simp only[pq])
        refine wpAnyH_done (by kernel_rfl) ?_ _
        refine NoPanic.normal ?_
        have g6:w1.grownBy w5 none:=tn (tn hg g2) g5
        clear cput csz h0c h0b
        go_wp2
        go_roundw
        case rel=>exact ⟨j+1,by go_num,by rw[← uh HT3],by omega,HGT,g6⟩
        case measure=>simp[intOf];omega
      ·have hlf:za8 pn nm=false:=by simpa using hls
       rw[hlf] at cless
       have hgf:zep es j=false:=by rw[uh HGD,hp,hlf];simp[hj0]
       have hres:za9 es=(2,[]):=by
        have h1:zc2 es es.length=false:=zgr (by have:=uh HL;omega) hgf
        simp[za9,uh HN,h1]
       have HRS:=hide hres
       clear hj0 hp HGD HG hls hlf hgf hres
       refine wp_region_noPanic ?_
       refine wp_region_held_drew (S:=fun V=>wr.grownBy V none) (by kernel_rfl) h0 (fun _ => ?_)
       refine tq 0 21 (.move (.tmp 0)) (.slice (some ⟨b,o,none⟩) n c) h0 ?_
       refine tq 1 22 (.move (.tmp 5)) (.int .i64 (j:Int)) h0 ?_
       refine tq 2 23 (.indexAddr 166 (.tmp 21) (.tmp 22)) (.pointer (some ⟨b,o+j*3,none⟩)) h0 ?_
       refine tq 3 24 (.fieldAddr 182 (.tmp 23) 0) (.pointer (some ⟨b,o+j*3,none⟩)) h0 ?_
       (try simp only[pq])
       refine tz 4 25 (.load 9 (.tmp 24)) (.string TN) h0 ?_ (y:=(Or.inl ⟨by rfl,fun V hV=>by (have q9:=hV.cell hc0 (by simp);go_simp)⟩))
       (try simp only[pq])
       refine rd 5 (some 26) (.call { callee := .value (.func 157),args := #[(.tmp 25)],argTypes := #[9] }) (fun K9 hK9 => ?_)
       go_simp
       go_at_call 157
       refine (cpart _).mono ?_
       rintro e w2a ⟨rfl,g2b⟩
       have g2a:=tn h0 g2b
       clear g2b
       go_wp2_with fail
       refine hK9.out _ _ g2a (fun _ => ?_)
       clear hK9 K9
       refine tq 6 27 (.unOp .not 4 (.tmp 26)) (.bool false) g2a ?_
       refine tq 7 28 (.move (.tmp 27)) (.bool false) g2a ?_
       refine tq 8 29 (.move (.tmp 5)) (.int .i64 (j:Int)) g2a ?_
       (try simp only[pq])
       refine tq 9 30 (.binOp .gtr 3 (.tmp 29) (.const (.int .i64 0)) 3) (.bool true) g2a ?_
       refine tq 10 31 (.move (.tmp 30)) (.bool true) g2a ?_
       refine tq 11 32 (.move (.tmp 0)) (.slice (some ⟨b,o,none⟩) n c) g2a ?_
       refine tq 12 33 (.move (.tmp 5)) (.int .i64 (j:Int)) g2a ?_
       (try simp only[pq])
       refine tq 13 34 (.binOp .sub 3 (.tmp 33) (.const (.int .i64 1)) 3) (.int .i64 (q:Int)) g2a ?_
       refine tq 14 35 (.indexAddr 166 (.tmp 32) (.tmp 34)) (.pointer (some ⟨b,o+q*3,none⟩)) g2a ?_
       refine tq 15 36 (.fieldAddr 182 (.tmp 35) 0) (.pointer (some ⟨b,o+q*3,none⟩)) g2a ?_
       refine tz 16 37 (.load 9 (.tmp 36)) (.string TP) g2a ?_ (y:=(Or.inl ⟨by rfl,fun V hV=>by (have q9:=hV.cell hcp (by simp);go_simp)⟩))
       (try simp only[pq])
       refine tq 17 38 (.move (.tmp 0)) (.slice (some ⟨b,o,none⟩) n c) g2a ?_
       refine tq 18 39 (.move (.tmp 5)) (.int .i64 (j:Int)) g2a ?_
       refine tq 19 40 (.indexAddr 166 (.tmp 38) (.tmp 39)) (.pointer (some ⟨b,o+j*3,none⟩)) g2a ?_
       refine tq 20 41 (.fieldAddr 182 (.tmp 40) 0) (.pointer (some ⟨b,o+j*3,none⟩)) g2a ?_
       (try simp only[pq])
       refine tz 21 42 (.load 9 (.tmp 41)) (.string TN) g2a ?_ (y:=(Or.inl ⟨by rfl,fun V hV=>by (have q9:=hV.cell hc0 (by simp);go_simp)⟩))
       (try simp only[pq])
       refine rd 22 (some 43) (.call { callee := .value (.func 158),args := #[(.tmp 37),(.tmp 42)],argTypes := #[9,9] }) (fun K9 hK9 => ?_)
       go_simp
       go_at_call 158
       refine (cless _).mono ?_
       rintro e w3a ⟨rfl,g3b⟩
       have g3a:=tn g2a g3b
       clear g3b
       go_wp2_with fail
       refine hK9.out _ _ g3a (fun _ => ?_)
       clear hK9 K9
       refine tq 23 44 (.unOp .not 4 (.tmp 43)) (.bool true) g3a ?_
       refine tq 24 45 (.pick (.tmp 31) (.tmp 44) (.const (.bool false))) (.bool true) g3a ?_
       refine tq 25 46 (.pick (.tmp 28) (.const (.bool true)) (.tmp 45)) (.bool true) g3a ?_
       (try simp only[pq])
       refine wpAnyH_done (by kernel_rfl) ?_ _
       refine NoPanic.normal ?_
       obtain ⟨w2,hw2⟩:∃ V,V=w3a:=⟨_,rfl⟩
       rw[← hw2]
       have g2:wr.grownBy w2 none:=by rw[hw2];exact g3a
       clear hw2
       have hBr:=(uh HBr).kept g2 (by simp)
       have hf0:=hBr.fz 0
       have hf1:=hBr.fz 1
       have hd0:=hBr.cell 0
       have hd1:=hBr.cell 1
       simp only[List.getElem?_cons_zero,List.getElem?_cons_succ] at hd0 hd1
       go_wp2
       refine bodyPost_ret (zai rfl _ _ _ _ _ _ _ rfl ((hBr.set 0 (.int .i64 0)).set 1 _) Tryz.underlying47 rfl zcl) rfl ?_
       refine ⟨by rw[uh HRS,uh HS0];rfl,zad (zad (tn (tn (uh HG1) hg) g2) _ _ (Or.inl (Nat.le_refl _))) _ _ (Or.inl (Nat.le_refl _))⟩
    ·have hpf:zce nm=false:=by simpa using hp
     rw[hpf] at cpart
     have hgf:zep es j=false:=by rw[uh HGD,hpf];rfl
     have hres:za9 es=(2,[]):=by
      have h1:zc2 es es.length=false:=zgr (by have:=uh HL;omega) hgf
      simp[za9,uh HN,h1]
     have HRS:=hide hres
     clear hp HGD HG hpf hgf hres
     refine wp_region_noPanic ?_
     refine wp_region_held_drew (S:=fun V=>wr.grownBy V none) (by kernel_rfl) h0 (fun _ => ?_)
     refine tq 0 21 (.move (.tmp 0)) (.slice (some ⟨b,o,none⟩) n c) h0 ?_
     refine tq 1 22 (.move (.tmp 5)) (.int .i64 (j:Int)) h0 ?_
     refine tq 2 23 (.indexAddr 166 (.tmp 21) (.tmp 22)) (.pointer (some ⟨b,o+j*3,none⟩)) h0 ?_
     refine tq 3 24 (.fieldAddr 182 (.tmp 23) 0) (.pointer (some ⟨b,o+j*3,none⟩)) h0 ?_
     (try simp only[pq])
     refine tz 4 25 (.load 9 (.tmp 24)) (.string TN) h0 ?_ (y:=(Or.inl ⟨by rfl,fun V hV=>by (have q9:=hV.cell hc0 (by simp);go_simp)⟩))
     (try simp only[pq])
     refine rd 5 (some 26) (.call { callee := .value (.func 157),args := #[(.tmp 25)],argTypes := #[9] }) (fun K9 hK9 => ?_)
     go_simp
     go_at_call 157
     refine (cpart _).mono ?_
     rintro e w2a ⟨rfl,g2b⟩
     have g2a:=tn h0 g2b
     clear g2b
     go_wp2_with fail
     refine hK9.out _ _ g2a (fun _ => ?_)
     clear hK9 K9
     refine tq 6 27 (.unOp .not 4 (.tmp 26)) (.bool true) g2a ?_
     refine tq 7 28 (.move (.tmp 27)) (.bool true) g2a ?_
     refine tz 8 29 (.move (.tmp 5)) undef g2a ?_ (y:=(Or.inr ⟨by rfl,rfl⟩))
     (try simp only[pq])
     refine tz 9 30 (.binOp .gtr 3 (.tmp 29) (.const (.int .i64 0)) 3) undef g2a ?_ (y:=(Or.inr ⟨by rfl,rfl⟩))
     refine tz 10 31 (.move (.tmp 30)) undef g2a ?_ (y:=(Or.inr ⟨by rfl,rfl⟩))
     refine tz 11 32 (.move (.tmp 0)) undef g2a ?_ (y:=(Or.inr ⟨by rfl,rfl⟩))
     refine tz 12 33 (.move (.tmp 5)) undef g2a ?_ (y:=(Or.inr ⟨by rfl,rfl⟩))
     (try simp only[pq])
     refine tz 13 34 (.binOp .sub 3 (.tmp 33) (.const (.int .i64 1)) 3) undef g2a ?_ (y:=(Or.inr ⟨by rfl,rfl⟩))
     refine tz 14 35 (.indexAddr 166 (.tmp 32) (.tmp 34)) undef g2a ?_ (y:=(Or.inr ⟨by rfl,rfl⟩))
     refine tz 15 36 (.fieldAddr 182 (.tmp 35) 0) undef g2a ?_ (y:=(Or.inr ⟨by rfl,rfl⟩))
     refine tz 16 37 (.load 9 (.tmp 36)) undef g2a ?_ (y:=(Or.inr ⟨by rfl,rfl⟩))
     (try simp only[pq])
     refine tz 17 38 (.move (.tmp 0)) undef g2a ?_ (y:=(Or.inr ⟨by rfl,rfl⟩))
     refine tz 18 39 (.move (.tmp 5)) undef g2a ?_ (y:=(Or.inr ⟨by rfl,rfl⟩))
     refine tz 19 40 (.indexAddr 166 (.tmp 38) (.tmp 39)) undef g2a ?_ (y:=(Or.inr ⟨by rfl,rfl⟩))
     refine tz 20 41 (.fieldAddr 182 (.tmp 40) 0) undef g2a ?_ (y:=(Or.inr ⟨by rfl,rfl⟩))
     (try simp only[pq])
     refine tz 21 42 (.load 9 (.tmp 41)) undef g2a ?_ (y:=(Or.inr ⟨by rfl,rfl⟩))
     refine tz 22 43 (.call { callee := .value (.func 158),args := #[(.tmp 37),(.tmp 42)],argTypes := #[9,9] }) undef g2a ?_ (y:=(Or.inr ⟨by rfl,rfl⟩))
     refine tz 23 44 (.unOp .not 4 (.tmp 43)) undef g2a ?_ (y:=(Or.inr ⟨by rfl,rfl⟩))
     refine tz 24 45 (.pick (.tmp 31) (.tmp 44) (.const (.bool false))) undef g2a ?_ (y:=(Or.inr ⟨by rfl,rfl⟩))
     (try simp only[pq])
     refine tq 25 46 (.pick (.tmp 28) (.const (.bool true)) (.tmp 45)) (.bool true) g2a ?_
     (try simp only[pq])
     refine wpAnyH_done (by kernel_rfl) ?_ _
     refine NoPanic.normal ?_
     obtain ⟨w2,hw2⟩:∃ V,V=w2a:=⟨_,rfl⟩
     rw[← hw2]
     have g2:wr.grownBy w2 none:=by rw[hw2];exact g2a
     clear hw2
     have hBr:=(uh HBr).kept g2 (by simp)
     have hf0:=hBr.fz 0
     have hf1:=hBr.fz 1
     have hd0:=hBr.cell 0
     have hd1:=hBr.cell 1
     simp only[List.getElem?_cons_zero,List.getElem?_cons_succ] at hd0 hd1
     go_wp2
     refine bodyPost_ret (zai rfl _ _ _ _ _ _ _ rfl ((hBr.set 0 (.int .i64 0)).set 1 _) Tryz.underlying47 rfl zcl) rfl ?_
     refine ⟨by rw[uh HRS,uh HS0];rfl,zad (zad (tn (tn (uh HG1) hg) g2) _ _ (Or.inl (Nat.le_refl _))) _ _ (Or.inl (Nat.le_refl _))⟩
   ·have hjn:j=es.length:=by have:=uh HL;omega
    have hres:za9 es=fitB (zhx es):=by
     have h1:zc2 es es.length=true:=by rw[← hjn];exact uh HG
     simp[za9,uh HN,h1]
    have hpl:=uh HPL j (by omega)
    have cf:=zkf wr 2 (P j) (by omega)
    obtain ⟨r,hr⟩:∃ r,r=fitB (P j):=⟨_,rfl⟩
    have hrr:za9 es=r:=by rw[hr,hjn,uh HPN];exact hres
    rw[← hr] at cf
    have HRR:=hide hrr
    have HBr:=hide ((uh HB1).kept hg (by simp))
    clear hjn hres hpl hr hrr HG
    go_wp2_with fail
    refine cf.mono ?_
    rintro e w2 ⟨rfl,g2⟩
    have hBr:=(uh HBr).kept g2 (by simp)
    have hf0:=hBr.fz 0
    have hf1:=hBr.fz 1
    have hd0:=hBr.cell 0
    have hd1:=hBr.cell 1
    simp only[List.getElem?_cons_zero,List.getElem?_cons_succ] at hd0 hd1
    obtain ⟨K,hK⟩:∃ K:Int,K=(if r.1=0 then 2 else 0):=⟨_,rfl⟩
    obtain ⟨x,hx⟩:∃ x:Int,x=r.1:=⟨_,rfl⟩
    obtain ⟨SS,hSS⟩:∃ S,S=str r.2:=⟨_,rfl⟩
    rw[← hK,← hx,← hSS]
    obtain ⟨HK,HX,HSS⟩:=zh3 hK hx hSS
    clear cf hK hx hSS
    go_wp2
    refine bodyPost_ret (zai rfl _ _ _ _ _ _ _ rfl ((hBr.set 0 (.int .i64 K)).set 1 (.string SS)) Tryz.underlying47 rfl zcl) rfl ?_
    refine ⟨?_,zad (zad (tn (tn (uh HG1) hg) g2) _ _ (Or.inl (Nat.le_refl _))) _ _ (Or.inl (Nat.le_refl _))⟩
    rw[uh HRR,← uh HK,← uh HX,← uh HSS]
    rfl
def rcC (c:ChgL) (po:Option Addr) (pc:Nat):List Value:=[.string (str c.tree),.slice po c.pars.length pc,.int .u64 (c.time:Int),.string (str c.author),.string (str c.text)]
theorem zpc (ps:List (List UInt8)) (j:Nat) (hj:j<ps.length):zg8 ps j = !((ps.take j).contains ps[j]):=by
 unfold zg8
 rw[show ps.getD j []=ps[j] by simp[hj]]
theorem zfh (ps:List (List UInt8)) (x:List UInt8) (j:Nat) (hj:j<ps.length):(ps.take (j+1)).contains x=((ps.take j).contains x || (x == ps[j])):=by
 rw[List.take_succ_eq_append_getElem hj,Bool.eq_iff_iff]
 simp only[List.contains_iff_mem,List.mem_append,List.mem_singleton,Bool.or_eq_true,beq_iff_eq]
theorem zjb {ps:List (List UInt8)} {x:List UInt8} {a b:Nat} (h:(ps.take a).contains x=true) (hab:a≤b):(ps.take b).contains x=true:=by
 simp only[List.contains_iff_mem] at h ⊢
 have:ps.take a=(ps.take b).take a:=by rw[List.take_take,Nat.min_eq_left hab]
 rw[this] at h
 exact List.mem_of_mem_take h
theorem zuz (ps:List (List UInt8)) (M:Nat) (hid:∀ x∈ps,x.length≤M):∀ j,j≤ps.length→((ps.take j).flatten).length≤j*M:=by
 intro j
 induction j with
 | zero=>intro _;simp
 | succ j ih =>
  intro hj
  have h1:=ih (by omega)
  have h2:=hid _ (List.getElem_mem (l:=ps) (n:=j) (by omega))
  rw[List.take_succ_eq_append_getElem (by omega),List.flatten_append,List.length_append,Nat.succ_mul,show ([ps[j]]:List (List UInt8)).flatten=ps[j] by simp]
  omega
set_option maxHeartbeats 8000000 in
theorem zpd (w:World) (c:ChgL) (po:Option Addr) (pc base:Nat) (hP:Stl w base po pc c.pars) (ht:c.tree.length≤100000) (hid:∀ x∈c.pars,x.length≤100000) (hm:c.pars.length≤1000000) (htm:c.time<18446744073709551616) (ha:c.author.length≤1000000) (hx:c.text.length≤1000000) :
  Calls Tryz.prog 111 #[.agg (rcC c po pc).toArray] w fun e w'=>zlf w w' 3 (zcf c) e:=by
 obtain ⟨tree,ps,time,author,text⟩:=c
 simp only at hP ht hid hm htm ha hx
 show Calls Tryz.prog 111 #[.agg #[.string (str tree),.slice po ps.length pc,.int .u64 (time:Int),.string (str author),.string (str text)]] w _
 obtain ⟨n,hln⟩:∃ n,n=ps.length:=⟨_,rfl⟩
 rw[← hln]
 obtain ⟨TT,hTT⟩:∃ T,T=str tree:=⟨_,rfl⟩
 obtain ⟨TA,hTA⟩:∃ T,T=str author:=⟨_,rfl⟩
 obtain ⟨TX,hTX⟩:∃ T,T=str text:=⟨_,rfl⟩
 obtain ⟨C,hC⟩:∃ C:List Value,C=[.string TT,.slice po n pc,.int .u64 (time:Int),.string TA,.string TX]:=⟨_,rfl⟩
 obtain ⟨W0,hW0,hB0,g0⟩:∃ W1,W1=w.alloc (.cells #[.string TT,.slice po n pc,.int .u64 (time:Int),.string TA,.string TX] 151)∧Blk W1 w.heap.size 151 C∧w.grownBy W1 none:=by rw[hC];exact zag w _ _
 obtain ⟨S0,hS0⟩:∃ S,S=str []:=⟨_,rfl⟩
 have hzv:=zgb
 rw[← hS0] at hzv
 obtain ⟨W1,hW1,hB1,g1⟩:∃ W1,W1=W0.alloc (.cells #[.int .i64 0,.string S0] 47)∧Blk W1 W0.heap.size 47 [.int .i64 0,.string S0]∧W0.grownBy W1 none:=zag W0 _ _
 have hs0:W0.heap.size=w.heap.size+1:=by rw[hW0];simp
 rw[hs0] at hB1
 have hBo:=hB0.kept g1 (by simp)
 have G1:=tn g0 g1
 have hW:W1=(w.alloc (.cells #[.string TT,.slice po n pc,.int .u64 (time:Int),.string TA,.string TX] 151)).alloc (.cells #[.int .i64 0,.string S0] 47):=by rw[hW1,hW0]
 have cell5:∀ V:World,Blk V w.heap.size 151 C→V.cell? ⟨w.heap.size,0,none⟩=some (.string TT)∧V.cell? ⟨w.heap.size,1,none⟩=some (.slice po n pc)∧V.cell? ⟨w.heap.size,2,none⟩=some (.int .u64 (time:Int))∧V.cell? ⟨w.heap.size,3,none⟩=some (.string TA)∧V.cell? ⟨w.heap.size,4,none⟩=some (.string TX):=fun V h=>by
  refine ⟨?_,?_,?_,?_,?_⟩ <;> rw[h.cell,hC] <;> rfl
 obtain ⟨c0,c1,c2,c3,c4⟩:=cell5 _ hBo
 obtain ⟨HW,HB1,HBO,HG1,HS0,HC5⟩:=zh6 hW hB1 hBo G1 hS0 cell5
 rw[← hTT,← hTA,← hTX]
 have hza:=zao author
 have hzx:=zao text
 rw[← hTA] at hza
 rw[← hTX] at hzx
 obtain ⟨na,hna⟩:∃ n,n=author.length:=⟨_,rfl⟩
 obtain ⟨nx,hnx⟩:∃ n,n=text.length:=⟨_,rfl⟩
 rw[← hna] at hza
 rw[← hnx] at hzx
 obtain ⟨R,hR⟩:∃ R,R=zcf ⟨tree,ps,time,author,text⟩:=⟨_,rfl⟩
 have hof:R=(if 4<ps.length then (3,[]) else if zdv ps ps.length=true then fitB (chgB ⟨tree,ps,time,author,text⟩) else (2,[])):=hR
 rw[← hR]
 obtain ⟨HOF,HTT,HTA,HTX⟩:=zh4 hof hTT hTA hTX
 clear hW hW0 hW1 hB0 hB1 g0 g1 hs0 G1 hS0 hBo hof hR hC cell5 hTT hTA hTX
 by_cases hn:4<ps.length
 ·have hn2:(4:Int)<(n:Int):=by omega
  have hres:R=(3,[]):=by rw[uh HOF,if_pos hn]
  have HRS:=hide hres
  have hBr:=uh HB1
  have hf0:=hBr.fz 0
  have hf1:=hBr.fz 1
  have hd0:=hBr.cell 0
  have hd1:=hBr.cell 1
  simp only[List.getElem?_cons_zero,List.getElem?_cons_succ] at hd0 hd1
  clear hln hn hres hP ht hid hm htm ha hx hza hzx hna hnx
  go_enter Tryz.func111,Tryz.ntmps111
  go_wp2_with (rw[← uh HW])
  refine bodyPost_ret (zai rfl _ _ _ _ _ _ _ rfl ((hBr.set 0 (.int .i64 0)).set 1 _) Tryz.underlying47 rfl zcl) rfl ?_
  refine ⟨by rw[uh HRS,uh HS0];rfl,zad (zad (uh HG1) _ _ (Or.inl (Nat.le_succ _))) _ _ (Or.inl (Nat.le_succ _))⟩
 ·have hn2:¬ (4:Int)<(n:Int):=by omega
  have hn3:n≤4:=by omega
  have hcv:IntKind.u64.wrap (n:Int)=(n:Int):=by rw[IntKind.wrap_u64];omega
  have hsum:=zuz ps 100000 hid
  have cp:∀ V,Calls Tryz.prog 101 #[.string TT,.int .u64 (n:Int),.int .i64 1] V fun e w'=>e = .returned (.string (str (tree++lb n 1)))∧V.grownBy w' none:=fun V=>by
   have h1:=zfa V tree n 1 (by omega) (by omega)
   rw[show nb 1=1 from by decide,← uh HTT] at h1
   exact h1
  obtain ⟨P,hPd⟩:∃ P:Nat→List UInt8,∀ j,P j=(tree++lb n 1)++(ps.take j).flatten:=⟨_,fun _=>rfl⟩
  have hP0:P 0=tree++lb n 1:=by rw[hPd];simp
  rw[← hP0] at cp
  have hPS:∀ j (hj:j<ps.length),P (j+1)=P j++ps[j]:=by
   intro j hj
   rw[hPd,hPd,List.take_succ_eq_append_getElem hj,List.flatten_append]
   simp
  have hPl:∀ j,j≤ps.length→(P j).length≤600000:=by
   intro j hj
   have h1:=hsum j hj
   rw[hPd,List.length_append,List.length_append,zbs]
   have:j*100000≤4*100000:=Nat.mul_le_mul (by omega) (Nat.le_refl _)
   omega
  have hPn:chgB ⟨tree,ps,time,author,text⟩=((P n++lb time 8)++layS author)++layS text:=by
   rw[hPd,hln,List.take_of_length_le (Nat.le_refl _)]
   simp[chgB]
  obtain ⟨Q0,hQ0⟩:∃ Q,Q=P n++lb time 8:=⟨_,rfl⟩
  obtain ⟨Q1,hQ1⟩:∃ Q,Q=Q0++layS author:=⟨_,rfl⟩
  obtain ⟨Q2,hQ2⟩:∃ Q,Q=Q1++layS text:=⟨_,rfl⟩
  rw[← hQ0,← hQ1,← hQ2] at hPn
  have hpn:=hPl n (by omega)
  have hq0:Q0.length≤700000:=by rw[hQ0,List.length_append,zbs];omega
  have hq1:Q1.length≤2000000:=by rw[hQ1,List.length_append,zbt];omega
  have hq2:Q2.length≤4000000:=by rw[hQ2,List.length_append,zbt];omega
  have cs0:∀ V,Calls Tryz.prog 101 #[.string (str (P n)),.int .u64 (time:Int),.int .i64 8] V fun e w'=>e = .returned (.string (str Q0))∧V.grownBy w' none:=fun V=>by
   have h1:=zfa V (P n) time 8 htm (by omega)
   rw[show nb 8=8 from by decide,← hQ0] at h1
   exact h1
  have cs1:∀ V,Calls Tryz.prog 144 #[.string (str Q0),.string TA] V fun e w'=>e = .returned (.string (str Q1))∧V.grownBy w' none:=fun V=>by rw[hQ1,uh HTA];exact zd8 V Q0 author (by omega)
  have cs2:∀ V,Calls Tryz.prog 144 #[.string (str Q1),.string TX] V fun e w'=>e = .returned (.string (str Q2))∧V.grownBy w' none:=fun V=>by rw[hQ2,uh HTX];exact zd8 V Q1 text (by omega)
  have cf:∀ V,Calls Tryz.prog 143 #[.int .i64 3,.string (str Q2)] V fun e w'=>zlf V w' 3 (fitB Q2) e:=fun V=>zkf V 3 Q2 (by omega)
  have hbig:fitB Q2=(3,[])∨(na≤16384∧nx≤16384):=by
   by_cases h:na≤16384∧nx≤16384
   ·exact Or.inr h
   ·left
    have:16384<Q2.length:=by rw[hQ2,List.length_append,zbt,hQ1,List.length_append,zbt];omega
    simp[fitB,this]
  obtain ⟨T0,hT0⟩:∃ T,T=str Q0:=⟨_,rfl⟩
  obtain ⟨T1,hT1⟩:∃ T,T=str Q1:=⟨_,rfl⟩
  obtain ⟨T2,hT2⟩:∃ T,T=str Q2:=⟨_,rfl⟩
  rw[← hT0] at cs0 cs1
  rw[← hT1] at cs1 cs2
  rw[← hT2] at cs2 cf
  obtain ⟨HBIG,HPN,HPS,HPL⟩:=zh4 hbig hPn hPS hPl
  have HN:Hid (¬ 4<ps.length):=hn
  obtain ⟨HL,HP,HCS0,HCS1,HCS2,HCF⟩:=zh6 hln hP cs0 cs1 cs2 cf
  have cpw:=cp W1
  clear hln hn hP ht hid hm htm ha hx hna hnx hsum cp hPd hP0 hPS hPl hPn hQ0 hQ1 hQ2 hpn hq0 hq1 hq2 hbig hT0 hT1 hT2 cs0 cs1 cs2 cf
  go_enter Tryz.func111,Tryz.ntmps111
  go_wp2_with (rw[← uh HW])
  refine cpw.mono ?_
  rintro e w1 ⟨rfl,g1⟩
  have HB2:=hide ((uh HB1).kept g1 (by simp))
  have HBO2:=hide ((uh HBO).kept g1 (by simp))
  have HG2:=hide (tn (uh HG1) g1)
  obtain ⟨b0,b1,b2,b3,b4⟩:=uh HC5 _ (uh HBO2)
  clear cpw c0 c1 c2 c3 c4 g1
  go_wp2
  go_loopw [4,5] (fun t i wr=>∃ j:Nat,i = .int .i64 j∧t = .string (str (P j))∧j≤n∧Hid (zdv ps j=true)∧w1.grownBy wr none) (fun _ i _=>n - (intOf i).toNat)
  case atStart=>exact ⟨0,rfl,rfl,Nat.zero_le _,rfl,zab _ _⟩
  case round =>
   obtain ⟨j,rfl,rfl,hj,HG,hg⟩:=hrel
   by_cases hlt:j<n
   ·have hlt' : j<ps.length:=by have:=uh HL;omega
    have d1:=hg.cell b1 (by simp)
    have hgd:=zpc ps j hlt'
    have hcs:=zfh ps
    have HGD:=hide hgd
    clear hgd
    go_wp2
    go_loopw [6] (fun i wr=>∃ k:Nat,i = .int .i64 k∧k≤j∧Hid ((ps.take k).contains ps[j]=false)∧w1.grownBy wr none) (fun i _=>j - (intOf i).toNat)
    case atStart=>exact ⟨0,rfl,Nat.zero_le _,rfl,hg⟩
    case round =>
     obtain ⟨k,rfl,hk,HC,hgi⟩:=hrel
     have hne0:j<ps.length:=hlt'
     obtain ⟨b,hpo,hcj⟩:=(uh HP).at j hlt'
     have hcE:=(uh HG2).cell hcj (by simp)
     have hpl:=uh HPL j (by omega)
     have hpl2:=uh HPL (j+1) (by omega)
     have hps:=uh HPS j hlt'
     obtain ⟨E,hEE⟩:∃ E,E=ps[j]:=⟨_,rfl⟩
     rw[← hEE] at hcE hps
     obtain ⟨TE,hTE⟩:∃ T,T=str E:=⟨_,rfl⟩
     rw[← hTE] at hcE
     by_cases hkj:k<j
     ·have hk' : k<ps.length:=by omega
      obtain ⟨b',hpo',hck⟩:=(uh HP).at k hk'
      have hbb:b'=b:=by rw[hpo] at hpo';injection hpo' with h;injection h with h;exact h.symm
      subst hbb
      have hcF:=(uh HG2).cell hck (by simp)
      have hsn:=zfh ps E k hk'
      obtain ⟨F,hFF⟩:∃ E,E=ps[k]:=⟨_,rfl⟩
      rw[← hFF] at hcF hsn
      obtain ⟨TF,hTF⟩:∃ T,T=str F:=⟨_,rfl⟩
      rw[← hTF] at hcF
      have hLE:TE.toList=E:=by rw[hTE,za5]
      have hLF:TF.toList=F:=by rw[hTF,za5]
      have h0:w1.grownBy _ none:=zak hgi
      obtain ⟨HEE,HSN⟩:=zh2 hEE hsn
      have hkn:k<n:=by omega
      subst hpo
      by_cases hFE:F=E
      ·have hTT2:TF=TE:=by rw[hTF,hTE,hFE]
       have hcon:(ps.take j).contains ps[j]=true:=by
        rw[← hEE]
        refine zjb (a:=k+1) ?_ (by omega)
        rw[hsn,hFE]
        simp
       have hgf:zg8 ps j=false:=by rw[uh HGD,hcon];rfl
       have hres:R=(2,[]):=by
        have h1:zdv ps ps.length=false:=zgr hlt' hgf
        rw[uh HOF,if_neg (uh HN),if_neg (by rw[h1];decide)]
       have HRS:=hide hres
       subst hTT2
       clear hcon hgf hres hLE hLF hTE hTF hEE hFF hFE hpl hpl2 hps hsn hck hcj hpo' hcs
       go_upto_region 10 with fail
       refine wp_region_noPanic ?_
       refine wp_region_held_drew (S:=fun V=>w1.grownBy V none) (by kernel_rfl) h0 (fun _ => ?_)
       refine tq 0 31 (.fieldAddr 151 (.tmp 1) 1) (.pointer (some ⟨w.heap.size,1,none⟩)) h0 ?_
       refine tz 1 32 (.load 25 (.tmp 31)) (.slice (some ⟨b',0,none⟩) n pc) h0 ?_ (y:=(Or.inl ⟨by rfl,fun V hV=>by (have q9:=hV.cell b1 (by simp);go_simp)⟩))
       refine tq 2 33 (.move (.tmp 6)) (.int .i64 (k:Int)) h0 ?_
       refine tq 3 34 (.indexAddr 25 (.tmp 32) (.tmp 33)) (.pointer (some ⟨b',k,none⟩)) h0 ?_
       (try simp only[pq])
       refine tz 4 35 (.load 9 (.tmp 34)) (.string TF) h0 ?_ (y:=(Or.inl ⟨by rfl,fun V hV=>by (have q9:=hV.cell hcF (by simp);go_simp)⟩))
       refine tq 5 36 (.fieldAddr 151 (.tmp 1) 1) (.pointer (some ⟨w.heap.size,1,none⟩)) h0 ?_
       refine tz 6 37 (.load 25 (.tmp 36)) (.slice (some ⟨b',0,none⟩) n pc) h0 ?_ (y:=(Or.inl ⟨by rfl,fun V hV=>by (have q9:=hV.cell b1 (by simp);go_simp)⟩))
       refine tq 7 38 (.move (.tmp 5)) (.int .i64 (j:Int)) h0 ?_
       (try simp only[pq])
       refine tq 8 39 (.indexAddr 25 (.tmp 37) (.tmp 38)) (.pointer (some ⟨b',j,none⟩)) h0 ?_
       refine tz 9 40 (.load 9 (.tmp 39)) (.string TF) h0 ?_ (y:=(Or.inl ⟨by rfl,fun V hV=>by (have q9:=hV.cell hcE (by simp);go_simp)⟩))
       refine tq 10 41 (.binOp .eql 9 (.tmp 35) (.tmp 40) 9) (.bool true) h0 ?_
       (try simp only[pq])
       refine wpAnyH_done (by kernel_rfl) ?_ _
       refine NoPanic.normal ?_
       have hB9:=(uh HB2).kept hgi (by simp)
       have hBr:=hB9.drew
       have hf0:=hB9.fz 0
       have hf1:=hB9.fz 1
       have hd0:=hB9.cell 0
       have hd1:=hB9.cell 1
       simp only[List.getElem?_cons_zero,List.getElem?_cons_succ] at hd0 hd1
       go_wp2
       refine bodyPost_ret (zai rfl _ _ _ _ _ _ _ rfl ((hBr.set 0 (.int .i64 0)).set 1 _) Tryz.underlying47 rfl zcl) rfl ?_
       refine ⟨by rw[uh HRS,uh HS0];rfl,zad (zad (tn (uh HG2) (zak hgi)) _ _ (Or.inl (Nat.le_succ _))) _ _ (Or.inl (Nat.le_succ _))⟩
      ·have hne:¬ TF.toList=TE.toList:=by rw[hLF,hLE];exact hFE
       have hne2:(F == E)=false:=by simpa using hFE
       have hnew:(ps.take (k+1)).contains E=false:=by
        rw[hsn,show (ps.take k).contains E=false by rw[hEE];exact uh HC]
        simpa using fun h=>hFE h.symm
       have HNW:Hid ((ps.take (k+1)).contains ps[j]=false):=by rw[← hEE];exact hnew
       clear hTE hTF hEE hFF hpl hpl2 hps hsn hck hcj hpo' hcs hnew
       go_upto_region 10 with fail
       refine wp_region_noPanic ?_
       refine wp_region_held_drew (S:=fun V=>w1.grownBy V none) (by kernel_rfl) h0 (fun _ => ?_)
       refine tq 0 31 (.fieldAddr 151 (.tmp 1) 1) (.pointer (some ⟨w.heap.size,1,none⟩)) h0 ?_
       refine tz 1 32 (.load 25 (.tmp 31)) (.slice (some ⟨b',0,none⟩) n pc) h0 ?_ (y:=(Or.inl ⟨by rfl,fun V hV=>by (have q9:=hV.cell b1 (by simp);go_simp)⟩))
       refine tq 2 33 (.move (.tmp 6)) (.int .i64 (k:Int)) h0 ?_
       refine tq 3 34 (.indexAddr 25 (.tmp 32) (.tmp 33)) (.pointer (some ⟨b',k,none⟩)) h0 ?_
       (try simp only[pq])
       refine tz 4 35 (.load 9 (.tmp 34)) (.string TF) h0 ?_ (y:=(Or.inl ⟨by rfl,fun V hV=>by (have q9:=hV.cell hcF (by simp);go_simp)⟩))
       refine tq 5 36 (.fieldAddr 151 (.tmp 1) 1) (.pointer (some ⟨w.heap.size,1,none⟩)) h0 ?_
       refine tz 6 37 (.load 25 (.tmp 36)) (.slice (some ⟨b',0,none⟩) n pc) h0 ?_ (y:=(Or.inl ⟨by rfl,fun V hV=>by (have q9:=hV.cell b1 (by simp);go_simp)⟩))
       refine tq 7 38 (.move (.tmp 5)) (.int .i64 (j:Int)) h0 ?_
       (try simp only[pq])
       refine tq 8 39 (.indexAddr 25 (.tmp 37) (.tmp 38)) (.pointer (some ⟨b',j,none⟩)) h0 ?_
       refine tz 9 40 (.load 9 (.tmp 39)) (.string TE) h0 ?_ (y:=(Or.inl ⟨by rfl,fun V hV=>by (have q9:=hV.cell hcE (by simp);go_simp)⟩))
       refine tq 10 41 (.binOp .eql 9 (.tmp 35) (.tmp 40) 9) (.bool false) h0 ?_
       (try simp only[pq])
       refine wpAnyH_done (by kernel_rfl) ?_ _
       refine NoPanic.normal ?_
       go_wp2
       go_roundw
       case rel=>exact ⟨k+1,by go_num,by omega,HNW,zak hgi⟩
       case measure=>simp[intOf];omega
     ·have hkj2:k=j:=by omega
      have hcon:(ps.take j).contains ps[j]=false:=by have:=uh HC;rwa [hkj2] at this
      have hgt:zdv ps (j+1)=true:=by rw[zhy,uh HG,uh HGD,hcon];rfl
      have HGT:=hide hgt
      have hcEr:=hgi.cell hcE (by simp)
      have d1r:=hgi.cell b1 (by simp)
      obtain ⟨T0a,hT0a⟩:∃ T,T=str (P j):=⟨_,rfl⟩
      have hcat:T0a++TE=str (P (j+1)):=by rw[hT0a,hTE,hps,zc3]
      have hz1:T0a.size=(P j).length:=by rw[hT0a,zao]
      have hz2:TE.size=E.length:=by rw[hTE,zao]
      have hEl:E.length≤600000:=by rw[hps,List.length_append] at hpl2;omega
      obtain ⟨z1,hz1'⟩:∃ z,z=(P j).length:=⟨_,rfl⟩
      obtain ⟨z2,hz2'⟩:∃ z,z=E.length:=⟨_,rfl⟩
      rw[← hz1'] at hz1
      rw[← hz2'] at hz2
      have hzz:¬ 9223372036854775807<z1+z2:=by omega
      rw[← hT0a]
      obtain ⟨T3,hT3⟩:∃ T,T=str (P (j+1)):=⟨_,rfl⟩
      rw[← hT3] at hcat
      have HT3:=hide hT3
      clear hcon hgt hcs hkj2 hT0a hTE hps hpl hpl2 hEl hz1' hz2' hT3 hEE hcE hcj d1 HC HGD HG
      subst hpo
      go_wp2
      go_roundw
      case rel=>exact ⟨j+1,by go_num,by rw[← uh HT3],by omega,HGT,hgi⟩
      case measure=>simp[intOf];omega
   ·have hjn:j=ps.length:=by have:=uh HL;omega
    have hjn2:j=n:=by omega
    have hone:zdv ps ps.length=true:=by rw[← hjn];exact uh HG
    have hres:R=fitB Q2:=by rw[uh HOF,if_neg (uh HN),if_pos hone,uh HPN]
    have HRS:=hide hres
    have HB3:=hide ((uh HB2).kept hg (by simp))
    have hBo3:=(uh HBO2).kept hg (by simp)
    obtain ⟨e0,e1,e2,e3,e4⟩:=uh HC5 _ hBo3
    have G3:=tn (uh HG2) hg
    have cs0:=uh HCS0
    rw[← hjn2] at cs0
    have hBr:=uh HB3
    have hf0:=hBr.fz 0
    have hf1:=hBr.fz 1
    have hd0:=hBr.cell 0
    have hd1:=hBr.cell 1
    simp only[List.getElem?_cons_zero,List.getElem?_cons_succ] at hd0 hd1
    obtain ⟨TP,hTP⟩:∃ T,T=str (P j):=⟨_,rfl⟩
    rw[← hTP] at cs0 ⊢
    clear hjn hone hres hTP HG b0 b1 b2 b3 b4
    by_cases hna1:na≤16384
    ·have hna2:¬ (16384:Int)<(na:Int):=by omega
     by_cases hnx1:nx≤16384
     ·have hnx2:¬ (16384:Int)<(nx:Int):=by omega
      clear hna1 hnx1 hd0 hd1 hf0 hf1
      have h0:w.grownBy wr.drew none∧Blk wr.drew w.heap.size 151 C:=⟨zak G3,hBo3.drew⟩
      have cs1:=uh HCS1
      have cs2:=uh HCS2
      have cf:=uh HCF
      go_upto_region 15 with fail
      refine wp_region_noPanic ?_
      refine wp_region_held_drew (S:=fun V=>w.grownBy V none∧Blk V w.heap.size 151 C) (by kernel_rfl) h0 (fun _ => ?_)
      refine tq 0 61 (.move (.tmp 4)) (.string TP) h0 ?_
      refine tq 1 62 (.fieldAddr 151 (.tmp 1) 2) (.pointer (some ⟨w.heap.size,2,none⟩)) h0 ?_
      refine tz 2 63 (.load 68 (.tmp 62)) (.int .u64 (time:Int)) h0 ?_ (y:=(Or.inl ⟨by rfl,fun V hV=>by (have q9:=(uh HC5 V hV.2).2.2.1;go_simp)⟩))
      refine tq 4 65 (.fieldAddr 151 (.tmp 1) 3) (.pointer (some ⟨w.heap.size,3,none⟩)) h0 ?_
      (try simp only[pq])
      refine tz 5 66 (.load 9 (.tmp 65)) (.string TA) h0 ?_ (y:=(Or.inl ⟨by rfl,fun V hV=>by (have q9:=(uh HC5 V hV.2).2.2.2.1;go_simp)⟩))
      refine tq 7 68 (.fieldAddr 151 (.tmp 1) 4) (.pointer (some ⟨w.heap.size,4,none⟩)) h0 ?_
      refine tz 8 69 (.load 9 (.tmp 68)) (.string TX) h0 ?_ (y:=(Or.inl ⟨by rfl,fun V hV=>by (have q9:=(uh HC5 V hV.2).2.2.2.2;go_simp)⟩))
      (try simp only[pq])
      refine rd 3 (some 64) (.call { callee := .value (.func 101),args := #[(.tmp 61),(.tmp 63),.const (.int .i64 8)],argTypes := #[9,68,3] }) (fun K9 hK9 => ?_)
      go_simp
      go_at_call 101
      refine (cs0 _).mono ?_
      rintro e w2 ⟨rfl,g2a⟩
      have h2:w.grownBy w2 none∧Blk w2 w.heap.size 151 C:=⟨tn h0.1 g2a,h0.2.kept g2a (by simp)⟩
      go_wp2_with fail
      refine hK9.out _ _ h2 (fun _ => ?_)
      clear hK9 K9
      (try simp only[pq])
      refine rd 6 (some 67) (.call { callee := .value (.func 144),args := #[(.tmp 64),(.tmp 66)],argTypes := #[9,9] }) (fun K9 hK9 => ?_)
      go_simp
      go_at_call 144
      refine (cs1 _).mono ?_
      rintro e w3 ⟨rfl,g3a⟩
      have h3:w.grownBy w3 none∧Blk w3 w.heap.size 151 C:=⟨tn h2.1 g3a,h2.2.kept g3a (by simp)⟩
      go_wp2_with fail
      refine hK9.out _ _ h3 (fun _ => ?_)
      clear hK9 K9
      (try simp only[pq])
      refine rd 9 (some 70) (.call { callee := .value (.func 144),args := #[(.tmp 67),(.tmp 69)],argTypes := #[9,9] }) (fun K9 hK9 => ?_)
      go_simp
      go_at_call 144
      refine (cs2 _).mono ?_
      rintro e w4 ⟨rfl,g4a⟩
      have h4:w.grownBy w4 none∧Blk w4 w.heap.size 151 C:=⟨tn h3.1 g4a,h3.2.kept g4a (by simp)⟩
      go_wp2_with fail
      refine hK9.out _ _ h4 (fun _ => ?_)
      clear hK9 K9
      (try simp only[pq])
      refine rd 10 (some 71) (.call { callee := .value (.func 143),args := #[.const (.int .i64 3),(.tmp 70)],argTypes := #[3,9] }) (fun K9 hK9 => ?_)
      go_simp
      go_at_call 143
      refine (cf _).mono ?_
      rintro e w5 ⟨rfl,g5a⟩
      have h5:w.grownBy w5 none∧Blk w5 w.heap.size 151 C:=⟨tn h4.1 g5a,h4.2.kept g5a (by simp)⟩
      obtain ⟨K,hK⟩:∃ K:Int,K=(if (fitB Q2).1=0 then 3 else 0):=⟨_,rfl⟩
      obtain ⟨x,hx⟩:∃ x:Int,x=(fitB Q2).1:=⟨_,rfl⟩
      obtain ⟨SS,hSS⟩:∃ S,S=str (fitB Q2).2:=⟨_,rfl⟩
      rw[← hK,← hx,← hSS]
      obtain ⟨HK,HX,HSS⟩:=zh3 hK hx hSS
      clear hK hx hSS
      go_wp2_with fail
      refine hK9.out _ _ h5 (fun _ => ?_)
      clear hK9 K9
      (try simp only[pq])
      have hR5:=(((hBr.drew.kept g2a (by simp)).kept g3a (by simp)).kept g4a (by simp)).kept g5a (by simp)
      have k0:=hR5.cell 0
      have k1:=hR5.cell 1
      have z0:=hR5.fz 0
      have z1:=hR5.fz 1
      simp only[List.getElem?_cons_zero,List.getElem?_cons_succ] at k0 k1
      clear g2a g3a g4a g5a
      refine tq 11 72 (.extract (.tmp 71) 0) (.agg #[.int .i64 K,.string SS]) h5 ?_
      refine tq 12 73 (.extract (.tmp 71) 1) (.int .i64 x) h5 ?_
      (try simp only[pq])
      have h6:w.grownBy ((w5.setCell ⟨w.heap.size+1,0,none⟩ (.int .i64 K)).setCell ⟨w.heap.size+1,1,none⟩ (.string SS)) none∧Blk ((w5.setCell ⟨w.heap.size+1,0,none⟩ (.int .i64 K)).setCell ⟨w.heap.size+1,1,none⟩ (.string SS)) w.heap.size 151 C:=⟨zad (zad h5.1 _ _ (Or.inl (Nat.le_succ _))) _ _ (Or.inl (Nat.le_succ _)),(h5.2.other _ _ (by simp)).other _ _ (by simp)⟩
      refine rd 13 none (.store 47 (.tmp 2) (.tmp 72)) (fun K9 hK9 => ?_)
      go_simp
      refine hK9.out _ _ h6 (fun _ => ?_)
      clear hK9 K9
      refine tq 14 3 (.assign (.tmp 73)) (.int .i64 x) h6 ?_
      (try simp only[pq])
      refine wpAnyH_done (by kernel_rfl) ?_ _
      refine NoPanic.normal ?_
      clear k0 k1 z0 z1 h6
      go_wp2
      refine bodyPost_ret (zai rfl _ _ _ _ _ _ _ rfl ((hR5.set 0 (.int .i64 K)).set 1 (.string SS)) Tryz.underlying47 rfl zcl) rfl ?_
      refine ⟨?_,zad (zad h5.1 _ _ (Or.inl (Nat.le_succ _))) _ _ (Or.inl (Nat.le_succ _))⟩
      rw[uh HRS,← uh HK,← uh HX,← uh HSS]
      rfl
     ·have hnx2:(16384:Int)<(nx:Int):=by omega
      have hres3:R=(3,[]):=by
       rw[uh HRS]
       rcases uh HBIG with h | h
       ·exact h
       ·exact absurd h.2 hnx1
      have HR3:=hide hres3
      clear hna1 hnx1 hres3
      go_wp2
      refine bodyPost_ret (zai rfl _ _ _ _ _ _ _ rfl ((hBr.set 0 (.int .i64 0)).set 1 _) Tryz.underlying47 rfl zcl) rfl ?_
      refine ⟨by rw[uh HR3,uh HS0];rfl,zad (zad G3 _ _ (Or.inl (Nat.le_succ _))) _ _ (Or.inl (Nat.le_succ _))⟩
    ·have hna2:(16384:Int)<(na:Int):=by omega
     have hres3:R=(3,[]):=by
      rw[uh HRS]
      rcases uh HBIG with h | h
      ·exact h
      ·exact absurd h.1 hna1
     have HR3:=hide hres3
     clear hna1 hres3
     go_wp2
     refine bodyPost_ret (zai rfl _ _ _ _ _ _ _ rfl ((hBr.set 0 (.int .i64 0)).set 1 _) Tryz.underlying47 rfl zcl) rfl ?_
     refine ⟨by rw[uh HR3,uh HS0];rfl,zad (zad G3 _ _ (Or.inl (Nat.le_succ _))) _ _ (Or.inl (Nat.le_succ _))⟩
end Go.Proofs.YthhnfloohbdaiaaGreatDoor
