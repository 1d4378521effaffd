/- Lemmas. -/
import Derived.Test.YtegbbkgmiklhcaaGreatDoorRSized
import Derived.Test.YtegbbkgmiklhcaaGreatDoorNRefP
import Derived.Test.YtegbbkgmiklhcaaGreatDoorMObs
import Derived.Deep.RegionHeld3
import Derived.Deep.DrawnRows
import Derived.Deep.DeepCutAuto
namespace Go.Proofs.YtegbbkgmiklhcaaGreatDoor
open Go.RowKit
def reC (e:EntL):List Value:=[.string (str e.name),.bool e.dir,.string (str e.id)]
structure Rens (w:World) (ao:Option Addr) (c:Nat) (es:List EntL):Prop where
 zip:ao=none→es.length=0∧c=0
 fits:es.length≤c
 most:c≤maxLen
 shape:∀ ad,ao=some ad→0<es.length→ad.spot=none
 row:∀ ad,ao=some ad→∀ i (h:i<es.length),w.rangeAt ad.block (ad.off+i*3) (reC es[i])
theorem Rens.none {w a:World} {ao:Option Addr} {c:Nat} {es:List EntL} (h:Rens w ao c es) (g:w.grownBy a Option.none):Rens a ao c es :=
 ⟨h.zip,h.fits,h.most,h.shape,fun ad e i hi=>zah (h.row ad e i hi) g (by simp)⟩
theorem Rens.at {w:World} {ao:Option Addr} {c:Nat} {es:List EntL} (h:Rens w ao c es) (i:Nat) (hi:i<es.length):∃ b o,ao=some ⟨b,o,Option.none⟩∧∀ k (hk:k<es.length),w.rangeAt b (o+k*3) (reC es[k]):=by
 obtain ⟨ad,had⟩:∃ ad,ao=some ad:=by
  cases ao with
  | none=>have:=(h.zip rfl).1;omega
  | some ad=>exact ⟨ad,rfl⟩
 have hs:=h.shape ad had (by omega)
 have h0:=h.row ad had
 obtain ⟨b,o,s⟩:=ad
 simp only at hs h0
 subst hs
 exact ⟨b,o,had,h0⟩
theorem Rens.own {w:World} {base:Nat} {v:Value} {es:List EntL} (h:w.ownsRow base 135 3 v es.length (es.flatMap reC)):∃ ao c,v = .slice ao es.length c∧Rens w ao c es:=by
 obtain ⟨ao,c,h1,h2,h3,h4,h5,h6⟩:=zeh reC 3 h (fun x _=>rfl)
 exact ⟨ao,c,h1,h2,h3,h4,fun ad e _=>(h5 ad e).1,h6⟩
def zjp (w w' : World) (K:Int) (r:Int × List UInt8) (e:Ending):Prop:=e = .returned (.tuple #[.agg #[.int .i64 (if r.1=0 then K else 0),.string (str r.2)],.int .i64 r.1])∧w.grownBy w' none
theorem zb3:(Tryz.prog.info? 44).map (·.size)=some 2:=by kernel_rfl
theorem ziv (w:World) (K:Int) (d:List UInt8) (hd:d.length≤100000000):Calls Tryz.prog 105 #[.int .i64 K,.string (str d)] w fun e w'=>zjp w w' K (fitB d) e:=by
 have hsz:=zaj d
 obtain ⟨S,hS⟩:∃ S,S=str d:=⟨_,rfl⟩
 obtain ⟨n,hn⟩:∃ n,n=d.length:=⟨_,rfl⟩
 rw[← hS,← hn] at hsz
 by_cases h:16384<d.length
 ·have e1:fitB d=(3,[]):=by simp[fitB,h]
  have h1:(16384:Int)<(n:Int):=by omega
  rw[e1,← hS]
  clear hS hn h hd e1
  go_enter Tryz.func105,Tryz.ntmps105
  go_wp2
  exact bodyPost_ret (v := .tuple #[.agg #[.int .i64 0,.string ⟨#[]⟩],.int .i64 3]) (by simp[results,Tryz.results105,go_sem]) rfl ⟨rfl,zad (zaa _ _) _⟩
 ·have e1:fitB d=(0,d):=by simp[fitB,h]
  have h1:¬ (16384:Int)<(n:Int):=by omega
  rw[e1,← hS]
  have HS:=hide hS
  clear hS hn h hd e1
  go_enter Tryz.func105,Tryz.ntmps105
  go_wp2
  exact bodyPost_ret (v := .tuple #[.agg #[.int .i64 K,.string S],.int .i64 0]) (by simp[results,Tryz.results105,go_sem]) rfl ⟨by rw[uh HS];rfl,zad (zaa _ _) _⟩
theorem zpi (es:List EntL) (M:Nat) (hid:∀ e∈es,e.id.length≤M) (hs:∀ e∈es,e.name.length≤M):∀ j,j≤es.length→((es.take j).flatMap entB).length≤j*(M+M+5):=by
 intro j
 induction j with
 | zero=>intro _;simp
 | succ j ih =>
  intro hj
  have h1:=ih (by omega)
  have h2:=hid _ (List.getElem_mem (l:=es) (n:=j) (by omega))
  have h3:=hs _ (List.getElem_mem (l:=es) (n:=j) (by omega))
  rw[List.take_succ_eq_append_getElem (by omega),List.flatMap_append,List.length_append]
  simp only[List.flatMap_cons,List.flatMap_nil,List.append_nil,entB,List.length_append,zbc,zbg,Nat.succ_mul]
  omega
theorem znh (es:List EntL) (j:Nat) (hj:j<es.length):zd2 es j=(zbv es[j].name && (decide (j=0) || zay (es[j - 1]'(by omega)).name es[j].name)):=by
 have h:j - 1<es.length:=by omega
 unfold zd2
 rw[show es.getD j default=es[j] by simp[hj],show es.getD (j - 1) default=es[j - 1] by simp[h]]
theorem zfd (w:World):(zeroValue 44).run Tryz.prog w = .ok (.agg #[.int .i64 0,.string (str [])]) w:=by kernel_rfl
set_option maxRecDepth 100000 in
set_option maxHeartbeats 8000000 in
theorem zkx (w:World) (ao:Option Addr) (c:Nat) (es:List EntL) (hE:Rens w ao c es) (hs:∀ e∈es,e.name.length≤100000) (hid:∀ e∈es,e.id.length≤100000) (hmany:es.length≤1000000) :
  Calls Tryz.prog 71 #[.slice ao es.length c] w fun e w'=>zjp w w' 2 (za4 es) e:=by
 have hB0:∃ W1,W1=w.alloc (.cells #[.int .i64 0,.string (str [])] 44)∧Blk W1 w.heap.size 44 [.int .i64 0,.string (str [])]∧w.grownBy W1 none:=zag w _ _
 obtain ⟨W0,hW0,hB0,g0⟩:=hB0
 obtain ⟨S0,hS0⟩:∃ S,S=str []:=⟨_,rfl⟩
 have hzv:=zfd
 rw[← hS0] at hW0 hB0 hzv
 obtain ⟨HW0,HB0,HS0⟩:=zh3 hW0 hB0 hS0
 clear hW0 hB0 hS0
 by_cases hn:32<es.length
 ·have hr:za4 es=(3,[]):=by simp[za4,hn]
  obtain ⟨n,hln⟩:∃ n,n=es.length:=⟨_,rfl⟩
  have hn2:(32:Int)<(n:Int):=by omega
  rw[← hln]
  have HR:=hide hr
  clear hln hn hE hs hid hmany hr HB0 g0 hzv
  go_enter Tryz.func71,Tryz.ntmps71
  go_wp2
  exact bodyPost_ret (v := .tuple #[.agg #[.int .i64 0,.string ⟨#[]⟩],.int .i64 3]) (by simp[results,Tryz.results71,go_sem]) rfl ⟨by rw[uh HR];rfl,zad (zaa _ _) _⟩
 ·obtain ⟨n,hln⟩:∃ n,n=es.length:=⟨_,rfl⟩
  have hn2:¬ (32:Int)<(n:Int):=by omega
  have hn3:n≤32:=by omega
  have hsum:=zpi es 100000 hid hs
  have hcv:IntKind.u64.wrap (n:Int)=(n:Int):=by rw[IntKind.wrap_u64];omega
  have cp:=zdz W0 [] n 2 (by omega) (by simp)
  rw[show nb 2=2 from by decide,List.nil_append] at cp
  obtain ⟨HE,HM,HI,HL,HSUM⟩:=zh5 hE hs hid hln hsum
  have HN:Hid (¬ 32<es.length):=hn
  rw[← hln]
  rw[← hln] at HSUM
  obtain ⟨P,hP⟩:∃ P:Nat→List UInt8,∀ j,P j=lb n 2++(es.take j).flatMap entB:=⟨_,fun _=>rfl⟩
  have hP0:P 0=lb n 2:=by rw[hP];simp
  rw[← hP0] at cp
  have hPS:∀ j (hj:j<es.length),P (j+1)=((P j++lb (dirN es[j].dir) 1)++layS es[j].name)++es[j].id:=by
   intro j hj
   rw[hP,hP,List.take_succ_eq_append_getElem hj,List.flatMap_append]
   simp[entB]
  have hPl:∀ j,j≤es.length→(P j).length≤2+32*200005:=by
   intro j hj
   have h1:=hsum j hj
   rw[hP,List.length_append,zbc]
   have:j*(100000+100000+5)≤32*200005:=Nat.mul_le_mul (by omega) (Nat.le_refl _)
   omega
  have hPn:P es.length=zid es:=by rw[hP,hln,List.take_of_length_le (Nat.le_refl _)];rfl
  obtain ⟨HPS,HPL,HPN⟩:=zh3 hPS hPl hPn
  clear hE hs hln hn hid hmany hsum hP hP0 hPS hPl hPn
  rw[show str []=(⟨#[]⟩:ByteArray) from rfl] at cp
  go_enter Tryz.func71,Tryz.ntmps71
  go_wp2_with (rw[← uh HW0])
  refine cp.mono ?_
  rintro e w1 ⟨rfl,g1⟩
  clear cp
  have HB1:=hide ((uh HB0).kept g1 (by simp))
  have HG1:=hide (tn g0 g1)
  clear g1
  go_wp2
  go_loopw [4,5] (fun t i wr=>∃ j:Nat,i = .int .i64 j∧t = .string (str (P j))∧j≤n∧Hid (zck es j=true)∧w1.grownBy wr none) (fun _ i _=>n - (intOf i).toNat)
  case atStart=>exact ⟨0,rfl,rfl,Nat.zero_le _,rfl,zaa _ _⟩
  case round =>
   obtain ⟨j,rfl,rfl,hj,HG,hg⟩:=hrel
   by_cases hlt:j<n
   ·have hlt' : j<es.length:=by have:=uh HL;omega
    obtain ⟨b,o,hao,hrow⟩:=(uh HE).at j hlt'
    have GW:=tn (uh HG1) hg
    have hr:=zah (hrow j hlt') GW (by simp)
    have hnl:=(uh HM) _ (List.getElem_mem hlt')
    have hil:=(uh HI) _ (List.getElem_mem hlt')
    have hgd:=znh es j hlt'
    have hps:=uh HPS j hlt'
    have hpl:=uh HPL j (by omega)
    have hpl2:=uh HPL (j+1) (by omega)
    obtain ⟨q,hq⟩:∃ q,q=j - 1:=⟨_,rfl⟩
    have hq' : q<es.length:=by omega
    have hrp:=zah (hrow q hq') GW (by simp)
    have hpnl:=(uh HM) _ (List.getElem_mem hq')
    obtain ⟨E,hEE⟩:∃ E,E=es[j]:=⟨_,rfl⟩
    obtain ⟨F,hFF⟩:∃ E,E=es[q]:=⟨_,rfl⟩
    have hFq:es[j - 1]'(by omega)=F:=by rw[hFF];congr 1;exact hq.symm
    rw[hFq,← hEE] at hgd
    rw[← hEE] at hr hnl hil hps
    rw[← hFF] at hrp hpnl
    clear hrow hEE hFF hFq hlt' hq'
    subst hao
    obtain ⟨nm,D,id⟩:=E
    obtain ⟨pn,PD,pid⟩:=F
    simp only at hnl hgd hil hps hpnl
    have hc0:wr.cell? ⟨b,o+j*3,none⟩=some (.string (str nm)):=hr 0 _ rfl
    have hc1:wr.cell? ⟨b,o+(j*3+1),none⟩=some (.bool D):=by rw[← Nat.add_assoc];exact hr 1 _ rfl
    have hc2:wr.cell? ⟨b,o+(j*3+2),none⟩=some (.string (str id)):=by rw[← Nat.add_assoc];exact hr 2 _ rfl
    have hcp:wr.cell? ⟨b,o+q*3,none⟩=some (.string (str pn)):=hrp 0 _ rfl
    have hc1' : wr.cell? ⟨b,o+j*3+1,none⟩=some (.bool D):=hr 1 _ rfl
    have hc2' : wr.cell? ⟨b,o+j*3+2,none⟩=some (.string (str id)):=hr 2 _ rfl
    have cpart:∀ V,Calls Tryz.prog 103 #[.string (str nm)] V fun e w'=>e = .returned (.bool (zbv nm))∧V.grownBy w' none:=fun V=>zo3 V nm hnl
    have cless:∀ V,Calls Tryz.prog 104 #[.string (str pn),.string (str nm)] V fun e w'=>e = .returned (.bool (zay pn nm))∧V.grownBy w' none:=fun V=>zos V pn nm hpnl hnl
    obtain ⟨Q0,hQ0⟩:∃ Q,Q=P j:=⟨_,rfl⟩
    obtain ⟨Q1,hQ1⟩:∃ Q,Q=Q0++lb (dirN D) 1:=⟨_,rfl⟩
    obtain ⟨Q2,hQ2⟩:∃ Q,Q=Q1++layS nm:=⟨_,rfl⟩
    rw[← hQ0] at hpl hps
    have hq1l:Q1.length≤10000000:=by rw[hQ1,List.length_append,zbc];omega
    have cput:∀ V,Calls Tryz.prog 27 #[.string (str Q0),.int .u64 ((dirN D:Nat):Int),.int .i64 1] V fun e w'=>e = .returned (.string (str Q1))∧V.grownBy w' none:=fun V=>by
     have h1:=zdz V Q0 (dirN D) 1 (by unfold dirN;split <;> omega) (by omega)
     rw[show nb 1=1 from by decide,← hQ1] at h1
     exact h1
    have csz:∀ V,Calls Tryz.prog 52 #[.string (str Q1),.string (str nm)] V fun e w'=>e = .returned (.string (str Q2))∧V.grownBy w' none:=fun V=>by
     have h1:=zc8 V Q1 nm (by omega)
     rw[← hQ2] at h1
     exact h1
    rw[← hQ1,← hQ2] at hps
    have hz1:=zaj Q2
    have hz2:=zaj id
    have hcat:str Q2++str id=str (P (j+1)):=by rw[hps,zcf]
    have hq2l:Q2.length≤20000000:=by rw[hQ2,List.length_append,zbg];omega
    rw[← hQ0]
    obtain ⟨T0,hT0⟩:∃ T,T=str Q0:=⟨_,rfl⟩
    obtain ⟨T1,hT1⟩:∃ T,T=str Q1:=⟨_,rfl⟩
    obtain ⟨T2,hT2⟩:∃ T,T=str Q2:=⟨_,rfl⟩
    obtain ⟨T3,hT3⟩:∃ T,T=str (P (j+1)):=⟨_,rfl⟩
    obtain ⟨TI,hTI⟩:∃ T,T=str id:=⟨_,rfl⟩
    obtain ⟨TN,hTN⟩:∃ T,T=str nm:=⟨_,rfl⟩
    obtain ⟨TP,hTP⟩:∃ T,T=str pn:=⟨_,rfl⟩
    rw[← hT0] at cput ⊢
    rw[← hT1] at cput csz
    rw[← hT2] at csz hcat hz1
    rw[← hTI] at hc2 hc2' hcat hz2
    rw[← hTN] at hc0 cpart cless csz
    rw[← hTP] at hcp cless
    rw[← hT3] at hcat
    obtain ⟨z1,hz1'⟩:∃ z,z=Q2.length:=⟨_,rfl⟩
    obtain ⟨z2,hz2'⟩:∃ z,z=id.length:=⟨_,rfl⟩
    rw[← hz1'] at hz1
    rw[← hz2'] at hz2
    have hzz:¬ 9223372036854775807<z1+z2:=by omega
    obtain ⟨HGD,HQ,HT3⟩:=zh3 hgd hq hT3
    have h0:wr.grownBy wr.drew none:=zam (zaa _ _)
    have HBr:=hide ((uh HB1).kept hg (by simp))
    clear hgd hr hrp hnl hil hpnl hq hps hpl hpl2 hQ0 hQ1 hQ2 hq1l hq2l hT0 hT1 hT2 hT3 hTI hTN hTP hz1' hz2'
    go_upto_region 7 with fail
    by_cases hp:zbv nm=true
    ·rw[hp] at cpart
     by_cases hj0:j=0
     ·have hj1:¬ (0:Int)<(j:Int):=by omega
      have hj2:¬ 0<j:=by omega
      have hj3:decide (0<j)=false:=by simp[hj2]
      have hgt:zck es (j+1)=true:=by rw[zdx,uh HG,uh HGD,hp];simp[hj0]
      have HGT:=hide hgt
      clear hj0 hgt hp cless hcp HGD HG
      refine wp_region_noPanic ?_
      refine wp_region_held_drew (S:=fun V=>wr.grownBy V none) (by kernel_rfl) h0 (fun _ => ?_)
      refine tq 0 21 (.move (.tmp 0)) (.slice (some ⟨b,o,none⟩) n c) h0 ?_
      refine tq 1 22 (.move (.tmp 5)) (.int .i64 (j:Int)) h0 ?_
      refine tq 2 23 (.indexAddr 96 (.tmp 21) (.tmp 22)) (.pointer (some ⟨b,o+j*3,none⟩)) h0 ?_
      refine tq 3 24 (.fieldAddr 135 (.tmp 23) 0) (.pointer (some ⟨b,o+j*3,none⟩)) h0 ?_
      (try simp only[pq])
      refine tz 4 25 (.load 9 (.tmp 24)) (.string TN) h0 ?_ (y:=(Or.inl ⟨by rfl,fun V hV=>by (have q9:=hV.cell hc0 (by simp);go_simp)⟩))
      (try simp only[pq])
      refine rdq 5 (some 26) (.call { callee := .value (.func 103),args := #[(.tmp 25)],argTypes := #[9] }) (fun K9 hK9 => ?_)
      go_simp
      go_at_call 103
      refine (cpart _).mono ?_
      rintro e w2a ⟨rfl,g2b⟩
      have g2a:=tn h0 g2b
      clear g2b
      go_wp2_with fail
      refine hK9.out _ _ g2a (fun _ => ?_)
      clear hK9 K9
      refine tq 6 27 (.unOp .not 4 (.tmp 26)) (.bool false) g2a ?_
      refine tq 7 28 (.move (.tmp 27)) (.bool false) g2a ?_
      refine tq 8 29 (.move (.tmp 5)) (.int .i64 (j:Int)) g2a ?_
      (try simp only[pq])
      refine tq 9 30 (.binOp .gtr 3 (.tmp 29) (.const (.int .i64 0)) 3) (.bool false) g2a ?_
      refine tq 10 31 (.move (.tmp 30)) (.bool false) g2a ?_
      refine tz 11 32 (.move (.tmp 0)) undef g2a ?_ (y:=(Or.inr ⟨by rfl,rfl⟩))
      refine tz 12 33 (.move (.tmp 5)) undef g2a ?_ (y:=(Or.inr ⟨by rfl,rfl⟩))
      (try simp only[pq])
      refine tz 13 34 (.binOp .sub 3 (.tmp 33) (.const (.int .i64 1)) 3) undef g2a ?_ (y:=(Or.inr ⟨by rfl,rfl⟩))
      refine tz 14 35 (.indexAddr 96 (.tmp 32) (.tmp 34)) undef g2a ?_ (y:=(Or.inr ⟨by rfl,rfl⟩))
      refine tz 15 36 (.fieldAddr 135 (.tmp 35) 0) undef g2a ?_ (y:=(Or.inr ⟨by rfl,rfl⟩))
      refine tz 16 37 (.load 9 (.tmp 36)) undef g2a ?_ (y:=(Or.inr ⟨by rfl,rfl⟩))
      (try simp only[pq])
      refine tz 17 38 (.move (.tmp 0)) undef g2a ?_ (y:=(Or.inr ⟨by rfl,rfl⟩))
      refine tz 18 39 (.move (.tmp 5)) undef g2a ?_ (y:=(Or.inr ⟨by rfl,rfl⟩))
      refine tz 19 40 (.indexAddr 96 (.tmp 38) (.tmp 39)) undef g2a ?_ (y:=(Or.inr ⟨by rfl,rfl⟩))
      refine tz 20 41 (.fieldAddr 135 (.tmp 40) 0) undef g2a ?_ (y:=(Or.inr ⟨by rfl,rfl⟩))
      (try simp only[pq])
      refine tz 21 42 (.load 9 (.tmp 41)) undef g2a ?_ (y:=(Or.inr ⟨by rfl,rfl⟩))
      refine tz 22 43 (.call { callee := .value (.func 104),args := #[(.tmp 37),(.tmp 42)],argTypes := #[9,9] }) undef g2a ?_ (y:=(Or.inr ⟨by rfl,rfl⟩))
      refine tz 23 44 (.unOp .not 4 (.tmp 43)) undef g2a ?_ (y:=(Or.inr ⟨by rfl,rfl⟩))
      refine tq 24 45 (.pick (.tmp 31) (.tmp 44) (.const (.bool false))) (.bool false) g2a ?_
      (try simp only[pq])
      refine tq 25 46 (.pick (.tmp 28) (.const (.bool true)) (.tmp 45)) (.bool false) g2a ?_
      (try simp only[pq])
      refine wpAnyH_done (by kernel_rfl) ?_ _
      refine NoPanic.normal ?_
      obtain ⟨w2,hw2⟩:∃ V,V=w2a:=⟨_,rfl⟩
      rw[← hw2]
      have g2:wr.grownBy w2 none:=by rw[hw2];exact g2a
      clear hw2
      clear cpart h0
      cases D
      ·have hd1:=g2.cell hc1 (by simp)
       have hd1':=g2.cell hc1' (by simp)
       simp only[dirN,Bool.false_eq_true,if_false] at cput
       have h0b:w1.grownBy w2.drew none:=zam (tn hg g2)
       have hk0:=g2.cell hc0 (by simp)
       have hk2:=g2.cell hc2 (by simp)
       have hk2':=g2.cell hc2' (by simp)
       go_upto_region 12 with fail
       have h0c:w2.grownBy w2.drew none:=zam (zaa _ _)
       refine wp_region_noPanic ?_
       refine wp_region_held_drew (S:=fun V=>w2.grownBy V none) (by kernel_rfl) h0c (fun _ => ?_)
       refine tq 0 53 (.move (.tmp 4)) (.string T0) h0c ?_
       refine tq 1 54 (.move (.tmp 6)) (.int .u64 0) h0c ?_
       refine tq 3 56 (.move (.tmp 0)) (.slice (some ⟨b,o,none⟩) n c) h0c ?_
       refine tq 4 57 (.move (.tmp 5)) (.int .i64 (j:Int)) h0c ?_
       (try simp only[pq])
       refine tq 5 58 (.indexAddr 96 (.tmp 56) (.tmp 57)) (.pointer (some ⟨b,o+j*3,none⟩)) h0c ?_
       refine tq 6 59 (.fieldAddr 135 (.tmp 58) 0) (.pointer (some ⟨b,o+j*3,none⟩)) h0c ?_
       refine tz 7 60 (.load 9 (.tmp 59)) (.string TN) h0c ?_ (y:=(Or.inl ⟨by rfl,fun V hV=>by (have q9:=hV.cell hk0 (by simp);go_simp)⟩))
       refine tq 9 62 (.move (.tmp 0)) (.slice (some ⟨b,o,none⟩) n c) h0c ?_
       (try simp only[pq])
       refine tq 10 63 (.move (.tmp 5)) (.int .i64 (j:Int)) h0c ?_
       refine tq 11 64 (.indexAddr 96 (.tmp 62) (.tmp 63)) (.pointer (some ⟨b,o+j*3,none⟩)) h0c ?_
       refine tq 12 65 (.fieldAddr 135 (.tmp 64) 2) (.pointer (some ⟨b,o+(j*3+2),none⟩)) h0c ?_
       refine tz 13 66 (.load 9 (.tmp 65)) (.string TI) h0c ?_ (y:=(Or.inl ⟨by rfl,fun V hV=>by (have q9:=hV.cell hk2 (by simp);have q8:=hV.cell hk2' (by simp);go_simp)⟩))
       (try simp only[pq])
       refine rdq 2 (some 55) (.call { callee := .value (.func 27),args := #[(.tmp 53),(.tmp 54),.const (.int .i64 1)],argTypes := #[9,64,3] }) (fun K9 hK9 => ?_)
       go_simp
       go_at_call 27
       refine (cput _).mono ?_
       rintro e w4 ⟨rfl,g4a⟩
       have g4:=tn h0c g4a
       clear g4a
       go_wp2_with fail
       refine hK9.out _ _ g4 (fun _ => ?_)
       clear hK9 K9
       (try simp only[pq])
       refine rdq 8 (some 61) (.call { callee := .value (.func 52),args := #[(.tmp 55),(.tmp 60)],argTypes := #[9,9] }) (fun K9 hK9 => ?_)
       go_simp
       go_at_call 52
       refine (csz _).mono ?_
       rintro e w5 ⟨rfl,g5a⟩
       have g5:=tn g4 g5a
       clear g5a
       go_wp2_with fail
       refine hK9.out _ _ g5 (fun _ => ?_)
       clear hK9 K9
       refine tq 14 67 (.binOp .add 9 (.tmp 61) (.tmp 66) 9) (.string T3) g5 ?_
       refine tq 15 4 (.assign (.tmp 67)) (.string T3) g5 ?_
       (try simp only[pq])
       refine wpAnyH_done (by kernel_rfl) ?_ _
       refine NoPanic.normal ?_
       have g6:w1.grownBy w5 none:=tn (tn hg g2) g5
       clear cput csz h0c h0b
       go_wp2
       go_roundw
       case rel=>exact ⟨j+1,by go_num,by rw[← uh HT3],by omega,HGT,g6⟩
       case measure=>simp[intOf];omega
      ·have hd1:=g2.cell hc1 (by simp)
       have hd1':=g2.cell hc1' (by simp)
       simp only[dirN,if_true] at cput
       have h0b:w1.grownBy w2.drew none:=zam (tn hg g2)
       have hk0:=g2.cell hc0 (by simp)
       have hk2:=g2.cell hc2 (by simp)
       have hk2':=g2.cell hc2' (by simp)
       go_upto_region 12 with fail
       have h0c:w2.grownBy w2.drew none:=zam (zaa _ _)
       refine wp_region_noPanic ?_
       refine wp_region_held_drew (S:=fun V=>w2.grownBy V none) (by kernel_rfl) h0c (fun _ => ?_)
       refine tq 0 53 (.move (.tmp 4)) (.string T0) h0c ?_
       refine tq 1 54 (.move (.tmp 6)) (.int .u64 1) h0c ?_
       refine tq 3 56 (.move (.tmp 0)) (.slice (some ⟨b,o,none⟩) n c) h0c ?_
       refine tq 4 57 (.move (.tmp 5)) (.int .i64 (j:Int)) h0c ?_
       (try simp only[pq])
       refine tq 5 58 (.indexAddr 96 (.tmp 56) (.tmp 57)) (.pointer (some ⟨b,o+j*3,none⟩)) h0c ?_
       refine tq 6 59 (.fieldAddr 135 (.tmp 58) 0) (.pointer (some ⟨b,o+j*3,none⟩)) h0c ?_
       refine tz 7 60 (.load 9 (.tmp 59)) (.string TN) h0c ?_ (y:=(Or.inl ⟨by rfl,fun V hV=>by (have q9:=hV.cell hk0 (by simp);go_simp)⟩))
       refine tq 9 62 (.move (.tmp 0)) (.slice (some ⟨b,o,none⟩) n c) h0c ?_
       (try simp only[pq])
       refine tq 10 63 (.move (.tmp 5)) (.int .i64 (j:Int)) h0c ?_
       refine tq 11 64 (.indexAddr 96 (.tmp 62) (.tmp 63)) (.pointer (some ⟨b,o+j*3,none⟩)) h0c ?_
       refine tq 12 65 (.fieldAddr 135 (.tmp 64) 2) (.pointer (some ⟨b,o+(j*3+2),none⟩)) h0c ?_
       refine tz 13 66 (.load 9 (.tmp 65)) (.string TI) h0c ?_ (y:=(Or.inl ⟨by rfl,fun V hV=>by (have q9:=hV.cell hk2 (by simp);have q8:=hV.cell hk2' (by simp);go_simp)⟩))
       (try simp only[pq])
       refine rdq 2 (some 55) (.call { callee := .value (.func 27),args := #[(.tmp 53),(.tmp 54),.const (.int .i64 1)],argTypes := #[9,64,3] }) (fun K9 hK9 => ?_)
       go_simp
       go_at_call 27
       refine (cput _).mono ?_
       rintro e w4 ⟨rfl,g4a⟩
       have g4:=tn h0c g4a
       clear g4a
       go_wp2_with fail
       refine hK9.out _ _ g4 (fun _ => ?_)
       clear hK9 K9
       (try simp only[pq])
       refine rdq 8 (some 61) (.call { callee := .value (.func 52),args := #[(.tmp 55),(.tmp 60)],argTypes := #[9,9] }) (fun K9 hK9 => ?_)
       go_simp
       go_at_call 52
       refine (csz _).mono ?_
       rintro e w5 ⟨rfl,g5a⟩
       have g5:=tn g4 g5a
       clear g5a
       go_wp2_with fail
       refine hK9.out _ _ g5 (fun _ => ?_)
       clear hK9 K9
       refine tq 14 67 (.binOp .add 9 (.tmp 61) (.tmp 66) 9) (.string T3) g5 ?_
       refine tq 15 4 (.assign (.tmp 67)) (.string T3) g5 ?_
       (try simp only[pq])
       refine wpAnyH_done (by kernel_rfl) ?_ _
       refine NoPanic.normal ?_
       have g6:w1.grownBy w5 none:=tn (tn hg g2) g5
       clear cput csz h0c h0b
       go_wp2
       go_roundw
       case rel=>exact ⟨j+1,by go_num,by rw[← uh HT3],by omega,HGT,g6⟩
       case measure=>simp[intOf];omega
     ·have hj1:(0:Int)<(j:Int):=by omega
      have hj2:0<j:=by omega
      have hjq:(j:Int) - 1=(q:Int):=by have:=uh HQ;omega
      have hqn:q<n:=by have:=uh HQ;omega
      have hqw:IntKind.i64.wrap (q:Int)=(q:Int):=by rw[IntKind.wrap_i64];omega
      by_cases hls:zay pn nm=true
      ·rw[hls] at cless
       have hgt:zck es (j+1)=true:=by rw[zdx,uh HG,uh HGD,hp,hls];simp
       have HGT:=hide hgt
       clear hj0 hgt hp HGD HG hls
       refine wp_region_noPanic ?_
       refine wp_region_held_drew (S:=fun V=>wr.grownBy V none) (by kernel_rfl) h0 (fun _ => ?_)
       refine tq 0 21 (.move (.tmp 0)) (.slice (some ⟨b,o,none⟩) n c) h0 ?_
       refine tq 1 22 (.move (.tmp 5)) (.int .i64 (j:Int)) h0 ?_
       refine tq 2 23 (.indexAddr 96 (.tmp 21) (.tmp 22)) (.pointer (some ⟨b,o+j*3,none⟩)) h0 ?_
       refine tq 3 24 (.fieldAddr 135 (.tmp 23) 0) (.pointer (some ⟨b,o+j*3,none⟩)) h0 ?_
       (try simp only[pq])
       refine tz 4 25 (.load 9 (.tmp 24)) (.string TN) h0 ?_ (y:=(Or.inl ⟨by rfl,fun V hV=>by (have q9:=hV.cell hc0 (by simp);go_simp)⟩))
       (try simp only[pq])
       refine rdq 5 (some 26) (.call { callee := .value (.func 103),args := #[(.tmp 25)],argTypes := #[9] }) (fun K9 hK9 => ?_)
       go_simp
       go_at_call 103
       refine (cpart _).mono ?_
       rintro e w2a ⟨rfl,g2b⟩
       have g2a:=tn h0 g2b
       clear g2b
       go_wp2_with fail
       refine hK9.out _ _ g2a (fun _ => ?_)
       clear hK9 K9
       refine tq 6 27 (.unOp .not 4 (.tmp 26)) (.bool false) g2a ?_
       refine tq 7 28 (.move (.tmp 27)) (.bool false) g2a ?_
       refine tq 8 29 (.move (.tmp 5)) (.int .i64 (j:Int)) g2a ?_
       (try simp only[pq])
       refine tq 9 30 (.binOp .gtr 3 (.tmp 29) (.const (.int .i64 0)) 3) (.bool true) g2a ?_
       refine tq 10 31 (.move (.tmp 30)) (.bool true) g2a ?_
       refine tq 11 32 (.move (.tmp 0)) (.slice (some ⟨b,o,none⟩) n c) g2a ?_
       refine tq 12 33 (.move (.tmp 5)) (.int .i64 (j:Int)) g2a ?_
       (try simp only[pq])
       refine tq 13 34 (.binOp .sub 3 (.tmp 33) (.const (.int .i64 1)) 3) (.int .i64 (q:Int)) g2a ?_
       refine tq 14 35 (.indexAddr 96 (.tmp 32) (.tmp 34)) (.pointer (some ⟨b,o+q*3,none⟩)) g2a ?_
       refine tq 15 36 (.fieldAddr 135 (.tmp 35) 0) (.pointer (some ⟨b,o+q*3,none⟩)) g2a ?_
       refine tz 16 37 (.load 9 (.tmp 36)) (.string TP) g2a ?_ (y:=(Or.inl ⟨by rfl,fun V hV=>by (have q9:=hV.cell hcp (by simp);go_simp)⟩))
       (try simp only[pq])
       refine tq 17 38 (.move (.tmp 0)) (.slice (some ⟨b,o,none⟩) n c) g2a ?_
       refine tq 18 39 (.move (.tmp 5)) (.int .i64 (j:Int)) g2a ?_
       refine tq 19 40 (.indexAddr 96 (.tmp 38) (.tmp 39)) (.pointer (some ⟨b,o+j*3,none⟩)) g2a ?_
       refine tq 20 41 (.fieldAddr 135 (.tmp 40) 0) (.pointer (some ⟨b,o+j*3,none⟩)) g2a ?_
       (try simp only[pq])
       refine tz 21 42 (.load 9 (.tmp 41)) (.string TN) g2a ?_ (y:=(Or.inl ⟨by rfl,fun V hV=>by (have q9:=hV.cell hc0 (by simp);go_simp)⟩))
       (try simp only[pq])
       refine rdq 22 (some 43) (.call { callee := .value (.func 104),args := #[(.tmp 37),(.tmp 42)],argTypes := #[9,9] }) (fun K9 hK9 => ?_)
       go_simp
       go_at_call 104
       refine (cless _).mono ?_
       rintro e w3a ⟨rfl,g3b⟩
       have g3a:=tn g2a g3b
       clear g3b
       go_wp2_with fail
       refine hK9.out _ _ g3a (fun _ => ?_)
       clear hK9 K9
       refine tq 23 44 (.unOp .not 4 (.tmp 43)) (.bool false) g3a ?_
       refine tq 24 45 (.pick (.tmp 31) (.tmp 44) (.const (.bool false))) (.bool false) g3a ?_
       refine tq 25 46 (.pick (.tmp 28) (.const (.bool true)) (.tmp 45)) (.bool false) g3a ?_
       (try simp only[pq])
       refine wpAnyH_done (by kernel_rfl) ?_ _
       refine NoPanic.normal ?_
       obtain ⟨w2,hw2⟩:∃ V,V=w3a:=⟨_,rfl⟩
       rw[← hw2]
       have g2:wr.grownBy w2 none:=by rw[hw2];exact g3a
       clear hw2
       clear cpart cless h0
       cases D
       ·have hd1:=g2.cell hc1 (by simp)
        have hd1':=g2.cell hc1' (by simp)
        simp only[dirN,Bool.false_eq_true,if_false] at cput
        have h0b:w1.grownBy w2.drew none:=zam (tn hg g2)
        have hk0:=g2.cell hc0 (by simp)
        have hk2:=g2.cell hc2 (by simp)
        have hk2':=g2.cell hc2' (by simp)
        go_upto_region 12 with fail
        have h0c:w2.grownBy w2.drew none:=zam (zaa _ _)
        refine wp_region_noPanic ?_
        refine wp_region_held_drew (S:=fun V=>w2.grownBy V none) (by kernel_rfl) h0c (fun _ => ?_)
        refine tq 0 53 (.move (.tmp 4)) (.string T0) h0c ?_
        refine tq 1 54 (.move (.tmp 6)) (.int .u64 0) h0c ?_
        refine tq 3 56 (.move (.tmp 0)) (.slice (some ⟨b,o,none⟩) n c) h0c ?_
        refine tq 4 57 (.move (.tmp 5)) (.int .i64 (j:Int)) h0c ?_
        (try simp only[pq])
        refine tq 5 58 (.indexAddr 96 (.tmp 56) (.tmp 57)) (.pointer (some ⟨b,o+j*3,none⟩)) h0c ?_
        refine tq 6 59 (.fieldAddr 135 (.tmp 58) 0) (.pointer (some ⟨b,o+j*3,none⟩)) h0c ?_
        refine tz 7 60 (.load 9 (.tmp 59)) (.string TN) h0c ?_ (y:=(Or.inl ⟨by rfl,fun V hV=>by (have q9:=hV.cell hk0 (by simp);go_simp)⟩))
        refine tq 9 62 (.move (.tmp 0)) (.slice (some ⟨b,o,none⟩) n c) h0c ?_
        (try simp only[pq])
        refine tq 10 63 (.move (.tmp 5)) (.int .i64 (j:Int)) h0c ?_
        refine tq 11 64 (.indexAddr 96 (.tmp 62) (.tmp 63)) (.pointer (some ⟨b,o+j*3,none⟩)) h0c ?_
        refine tq 12 65 (.fieldAddr 135 (.tmp 64) 2) (.pointer (some ⟨b,o+(j*3+2),none⟩)) h0c ?_
        refine tz 13 66 (.load 9 (.tmp 65)) (.string TI) h0c ?_ (y:=(Or.inl ⟨by rfl,fun V hV=>by (have q9:=hV.cell hk2 (by simp);have q8:=hV.cell hk2' (by simp);go_simp)⟩))
        (try simp only[pq])
        refine rdq 2 (some 55) (.call { callee := .value (.func 27),args := #[(.tmp 53),(.tmp 54),.const (.int .i64 1)],argTypes := #[9,64,3] }) (fun K9 hK9 => ?_)
        go_simp
        go_at_call 27
        refine (cput _).mono ?_
        rintro e w4 ⟨rfl,g4a⟩
        have g4:=tn h0c g4a
        clear g4a
        go_wp2_with fail
        refine hK9.out _ _ g4 (fun _ => ?_)
        clear hK9 K9
        (try simp only[pq])
        refine rdq 8 (some 61) (.call { callee := .value (.func 52),args := #[(.tmp 55),(.tmp 60)],argTypes := #[9,9] }) (fun K9 hK9 => ?_)
        go_simp
        go_at_call 52
        refine (csz _).mono ?_
        rintro e w5 ⟨rfl,g5a⟩
        have g5:=tn g4 g5a
        clear g5a
        go_wp2_with fail
        refine hK9.out _ _ g5 (fun _ => ?_)
        clear hK9 K9
        refine tq 14 67 (.binOp .add 9 (.tmp 61) (.tmp 66) 9) (.string T3) g5 ?_
        refine tq 15 4 (.assign (.tmp 67)) (.string T3) g5 ?_
        (try simp only[pq])
        refine wpAnyH_done (by kernel_rfl) ?_ _
        refine NoPanic.normal ?_
        have g6:w1.grownBy w5 none:=tn (tn hg g2) g5
        clear cput csz h0c h0b
        go_wp2
        go_roundw
        case rel=>exact ⟨j+1,by go_num,by rw[← uh HT3],by omega,HGT,g6⟩
        case measure=>simp[intOf];omega
       ·have hd1:=g2.cell hc1 (by simp)
        have hd1':=g2.cell hc1' (by simp)
        simp only[dirN,if_true] at cput
        have h0b:w1.grownBy w2.drew none:=zam (tn hg g2)
        have hk0:=g2.cell hc0 (by simp)
        have hk2:=g2.cell hc2 (by simp)
        have hk2':=g2.cell hc2' (by simp)
        go_upto_region 12 with fail
        have h0c:w2.grownBy w2.drew none:=zam (zaa _ _)
        refine wp_region_noPanic ?_
        refine wp_region_held_drew (S:=fun V=>w2.grownBy V none) (by kernel_rfl) h0c (fun _ => ?_)
        refine tq 0 53 (.move (.tmp 4)) (.string T0) h0c ?_
        refine tq 1 54 (.move (.tmp 6)) (.int .u64 1) h0c ?_
        refine tq 3 56 (.move (.tmp 0)) (.slice (some ⟨b,o,none⟩) n c) h0c ?_
        refine tq 4 57 (.move (.tmp 5)) (.int .i64 (j:Int)) h0c ?_
        (try simp only[pq])
        refine tq 5 58 (.indexAddr 96 (.tmp 56) (.tmp 57)) (.pointer (some ⟨b,o+j*3,none⟩)) h0c ?_
        refine tq 6 59 (.fieldAddr 135 (.tmp 58) 0) (.pointer (some ⟨b,o+j*3,none⟩)) h0c ?_
        refine tz 7 60 (.load 9 (.tmp 59)) (.string TN) h0c ?_ (y:=(Or.inl ⟨by rfl,fun V hV=>by (have q9:=hV.cell hk0 (by simp);go_simp)⟩))
        refine tq 9 62 (.move (.tmp 0)) (.slice (some ⟨b,o,none⟩) n c) h0c ?_
        (try simp only[pq])
        refine tq 10 63 (.move (.tmp 5)) (.int .i64 (j:Int)) h0c ?_
        refine tq 11 64 (.indexAddr 96 (.tmp 62) (.tmp 63)) (.pointer (some ⟨b,o+j*3,none⟩)) h0c ?_
        refine tq 12 65 (.fieldAddr 135 (.tmp 64) 2) (.pointer (some ⟨b,o+(j*3+2),none⟩)) h0c ?_
        refine tz 13 66 (.load 9 (.tmp 65)) (.string TI) h0c ?_ (y:=(Or.inl ⟨by rfl,fun V hV=>by (have q9:=hV.cell hk2 (by simp);have q8:=hV.cell hk2' (by simp);go_simp)⟩))
        (try simp only[pq])
        refine rdq 2 (some 55) (.call { callee := .value (.func 27),args := #[(.tmp 53),(.tmp 54),.const (.int .i64 1)],argTypes := #[9,64,3] }) (fun K9 hK9 => ?_)
        go_simp
        go_at_call 27
        refine (cput _).mono ?_
        rintro e w4 ⟨rfl,g4a⟩
        have g4:=tn h0c g4a
        clear g4a
        go_wp2_with fail
        refine hK9.out _ _ g4 (fun _ => ?_)
        clear hK9 K9
        (try simp only[pq])
        refine rdq 8 (some 61) (.call { callee := .value (.func 52),args := #[(.tmp 55),(.tmp 60)],argTypes := #[9,9] }) (fun K9 hK9 => ?_)
        go_simp
        go_at_call 52
        refine (csz _).mono ?_
        rintro e w5 ⟨rfl,g5a⟩
        have g5:=tn g4 g5a
        clear g5a
        go_wp2_with fail
        refine hK9.out _ _ g5 (fun _ => ?_)
        clear hK9 K9
        refine tq 14 67 (.binOp .add 9 (.tmp 61) (.tmp 66) 9) (.string T3) g5 ?_
        refine tq 15 4 (.assign (.tmp 67)) (.string T3) g5 ?_
        (try simp only[pq])
        refine wpAnyH_done (by kernel_rfl) ?_ _
        refine NoPanic.normal ?_
        have g6:w1.grownBy w5 none:=tn (tn hg g2) g5
        clear cput csz h0c h0b
        go_wp2
        go_roundw
        case rel=>exact ⟨j+1,by go_num,by rw[← uh HT3],by omega,HGT,g6⟩
        case measure=>simp[intOf];omega
      ·have hlf:zay pn nm=false:=by simpa using hls
       rw[hlf] at cless
       have hgf:zd2 es j=false:=by rw[uh HGD,hp,hlf];simp[hj0]
       have hres:za4 es=(2,[]):=by
        have h1:zck es es.length=false:=zfp (by have:=uh HL;omega) hgf
        simp[za4,uh HN,h1]
       have HRS:=hide hres
       clear hj0 hp HGD HG hls hlf hgf hres
       refine wp_region_noPanic ?_
       refine wp_region_held_drew (S:=fun V=>wr.grownBy V none) (by kernel_rfl) h0 (fun _ => ?_)
       refine tq 0 21 (.move (.tmp 0)) (.slice (some ⟨b,o,none⟩) n c) h0 ?_
       refine tq 1 22 (.move (.tmp 5)) (.int .i64 (j:Int)) h0 ?_
       refine tq 2 23 (.indexAddr 96 (.tmp 21) (.tmp 22)) (.pointer (some ⟨b,o+j*3,none⟩)) h0 ?_
       refine tq 3 24 (.fieldAddr 135 (.tmp 23) 0) (.pointer (some ⟨b,o+j*3,none⟩)) h0 ?_
       (try simp only[pq])
       refine tz 4 25 (.load 9 (.tmp 24)) (.string TN) h0 ?_ (y:=(Or.inl ⟨by rfl,fun V hV=>by (have q9:=hV.cell hc0 (by simp);go_simp)⟩))
       (try simp only[pq])
       refine rdq 5 (some 26) (.call { callee := .value (.func 103),args := #[(.tmp 25)],argTypes := #[9] }) (fun K9 hK9 => ?_)
       go_simp
       go_at_call 103
       refine (cpart _).mono ?_
       rintro e w2a ⟨rfl,g2b⟩
       have g2a:=tn h0 g2b
       clear g2b
       go_wp2_with fail
       refine hK9.out _ _ g2a (fun _ => ?_)
       clear hK9 K9
       refine tq 6 27 (.unOp .not 4 (.tmp 26)) (.bool false) g2a ?_
       refine tq 7 28 (.move (.tmp 27)) (.bool false) g2a ?_
       refine tq 8 29 (.move (.tmp 5)) (.int .i64 (j:Int)) g2a ?_
       (try simp only[pq])
       refine tq 9 30 (.binOp .gtr 3 (.tmp 29) (.const (.int .i64 0)) 3) (.bool true) g2a ?_
       refine tq 10 31 (.move (.tmp 30)) (.bool true) g2a ?_
       refine tq 11 32 (.move (.tmp 0)) (.slice (some ⟨b,o,none⟩) n c) g2a ?_
       refine tq 12 33 (.move (.tmp 5)) (.int .i64 (j:Int)) g2a ?_
       (try simp only[pq])
       refine tq 13 34 (.binOp .sub 3 (.tmp 33) (.const (.int .i64 1)) 3) (.int .i64 (q:Int)) g2a ?_
       refine tq 14 35 (.indexAddr 96 (.tmp 32) (.tmp 34)) (.pointer (some ⟨b,o+q*3,none⟩)) g2a ?_
       refine tq 15 36 (.fieldAddr 135 (.tmp 35) 0) (.pointer (some ⟨b,o+q*3,none⟩)) g2a ?_
       refine tz 16 37 (.load 9 (.tmp 36)) (.string TP) g2a ?_ (y:=(Or.inl ⟨by rfl,fun V hV=>by (have q9:=hV.cell hcp (by simp);go_simp)⟩))
       (try simp only[pq])
       refine tq 17 38 (.move (.tmp 0)) (.slice (some ⟨b,o,none⟩) n c) g2a ?_
       refine tq 18 39 (.move (.tmp 5)) (.int .i64 (j:Int)) g2a ?_
       refine tq 19 40 (.indexAddr 96 (.tmp 38) (.tmp 39)) (.pointer (some ⟨b,o+j*3,none⟩)) g2a ?_
       refine tq 20 41 (.fieldAddr 135 (.tmp 40) 0) (.pointer (some ⟨b,o+j*3,none⟩)) g2a ?_
       (try simp only[pq])
       refine tz 21 42 (.load 9 (.tmp 41)) (.string TN) g2a ?_ (y:=(Or.inl ⟨by rfl,fun V hV=>by (have q9:=hV.cell hc0 (by simp);go_simp)⟩))
       (try simp only[pq])
       refine rdq 22 (some 43) (.call { callee := .value (.func 104),args := #[(.tmp 37),(.tmp 42)],argTypes := #[9,9] }) (fun K9 hK9 => ?_)
       go_simp
       go_at_call 104
       refine (cless _).mono ?_
       rintro e w3a ⟨rfl,g3b⟩
       have g3a:=tn g2a g3b
       clear g3b
       go_wp2_with fail
       refine hK9.out _ _ g3a (fun _ => ?_)
       clear hK9 K9
       refine tq 23 44 (.unOp .not 4 (.tmp 43)) (.bool true) g3a ?_
       refine tq 24 45 (.pick (.tmp 31) (.tmp 44) (.const (.bool false))) (.bool true) g3a ?_
       refine tq 25 46 (.pick (.tmp 28) (.const (.bool true)) (.tmp 45)) (.bool true) g3a ?_
       (try simp only[pq])
       refine wpAnyH_done (by kernel_rfl) ?_ _
       refine NoPanic.normal ?_
       obtain ⟨w2,hw2⟩:∃ V,V=w3a:=⟨_,rfl⟩
       rw[← hw2]
       have g2:wr.grownBy w2 none:=by rw[hw2];exact g3a
       clear hw2
       have hBr:=(uh HBr).kept g2 (by simp)
       have hf0:=hBr.fz 0
       have hf1:=hBr.fz 1
       have hd0:=hBr.cell 0
       have hd1:=hBr.cell 1
       simp only[List.getElem?_cons_zero,List.getElem?_cons_succ] at hd0 hd1
       go_wp2
       refine bodyPost_ret (zaf rfl _ _ _ _ _ _ _ rfl ((hBr.set 0 (.int .i64 0)).set 1 _) Tryz.underlying44 rfl zb3) rfl ?_
       refine ⟨by rw[uh HRS,uh HS0];rfl,zab (zab (tn (tn (uh HG1) hg) g2) _ _ (Or.inl (Nat.le_refl _))) _ _ (Or.inl (Nat.le_refl _))⟩
    ·have hpf:zbv nm=false:=by simpa using hp
     rw[hpf] at cpart
     have hgf:zd2 es j=false:=by rw[uh HGD,hpf];rfl
     have hres:za4 es=(2,[]):=by
      have h1:zck es es.length=false:=zfp (by have:=uh HL;omega) hgf
      simp[za4,uh HN,h1]
     have HRS:=hide hres
     clear hp HGD HG hpf hgf hres
     refine wp_region_noPanic ?_
     refine wp_region_held_drew (S:=fun V=>wr.grownBy V none) (by kernel_rfl) h0 (fun _ => ?_)
     refine tq 0 21 (.move (.tmp 0)) (.slice (some ⟨b,o,none⟩) n c) h0 ?_
     refine tq 1 22 (.move (.tmp 5)) (.int .i64 (j:Int)) h0 ?_
     refine tq 2 23 (.indexAddr 96 (.tmp 21) (.tmp 22)) (.pointer (some ⟨b,o+j*3,none⟩)) h0 ?_
     refine tq 3 24 (.fieldAddr 135 (.tmp 23) 0) (.pointer (some ⟨b,o+j*3,none⟩)) h0 ?_
     (try simp only[pq])
     refine tz 4 25 (.load 9 (.tmp 24)) (.string TN) h0 ?_ (y:=(Or.inl ⟨by rfl,fun V hV=>by (have q9:=hV.cell hc0 (by simp);go_simp)⟩))
     (try simp only[pq])
     refine rdq 5 (some 26) (.call { callee := .value (.func 103),args := #[(.tmp 25)],argTypes := #[9] }) (fun K9 hK9 => ?_)
     go_simp
     go_at_call 103
     refine (cpart _).mono ?_
     rintro e w2a ⟨rfl,g2b⟩
     have g2a:=tn h0 g2b
     clear g2b
     go_wp2_with fail
     refine hK9.out _ _ g2a (fun _ => ?_)
     clear hK9 K9
     refine tq 6 27 (.unOp .not 4 (.tmp 26)) (.bool true) g2a ?_
     refine tq 7 28 (.move (.tmp 27)) (.bool true) g2a ?_
     refine tz 8 29 (.move (.tmp 5)) undef g2a ?_ (y:=(Or.inr ⟨by rfl,rfl⟩))
     (try simp only[pq])
     refine tz 9 30 (.binOp .gtr 3 (.tmp 29) (.const (.int .i64 0)) 3) undef g2a ?_ (y:=(Or.inr ⟨by rfl,rfl⟩))
     refine tz 10 31 (.move (.tmp 30)) undef g2a ?_ (y:=(Or.inr ⟨by rfl,rfl⟩))
     refine tz 11 32 (.move (.tmp 0)) undef g2a ?_ (y:=(Or.inr ⟨by rfl,rfl⟩))
     refine tz 12 33 (.move (.tmp 5)) undef g2a ?_ (y:=(Or.inr ⟨by rfl,rfl⟩))
     (try simp only[pq])
     refine tz 13 34 (.binOp .sub 3 (.tmp 33) (.const (.int .i64 1)) 3) undef g2a ?_ (y:=(Or.inr ⟨by rfl,rfl⟩))
     refine tz 14 35 (.indexAddr 96 (.tmp 32) (.tmp 34)) undef g2a ?_ (y:=(Or.inr ⟨by rfl,rfl⟩))
     refine tz 15 36 (.fieldAddr 135 (.tmp 35) 0) undef g2a ?_ (y:=(Or.inr ⟨by rfl,rfl⟩))
     refine tz 16 37 (.load 9 (.tmp 36)) undef g2a ?_ (y:=(Or.inr ⟨by rfl,rfl⟩))
     (try simp only[pq])
     refine tz 17 38 (.move (.tmp 0)) undef g2a ?_ (y:=(Or.inr ⟨by rfl,rfl⟩))
     refine tz 18 39 (.move (.tmp 5)) undef g2a ?_ (y:=(Or.inr ⟨by rfl,rfl⟩))
     refine tz 19 40 (.indexAddr 96 (.tmp 38) (.tmp 39)) undef g2a ?_ (y:=(Or.inr ⟨by rfl,rfl⟩))
     refine tz 20 41 (.fieldAddr 135 (.tmp 40) 0) undef g2a ?_ (y:=(Or.inr ⟨by rfl,rfl⟩))
     (try simp only[pq])
     refine tz 21 42 (.load 9 (.tmp 41)) undef g2a ?_ (y:=(Or.inr ⟨by rfl,rfl⟩))
     refine tz 22 43 (.call { callee := .value (.func 104),args := #[(.tmp 37),(.tmp 42)],argTypes := #[9,9] }) undef g2a ?_ (y:=(Or.inr ⟨by rfl,rfl⟩))
     refine tz 23 44 (.unOp .not 4 (.tmp 43)) undef g2a ?_ (y:=(Or.inr ⟨by rfl,rfl⟩))
     refine tz 24 45 (.pick (.tmp 31) (.tmp 44) (.const (.bool false))) undef g2a ?_ (y:=(Or.inr ⟨by rfl,rfl⟩))
     (try simp only[pq])
     refine tq 25 46 (.pick (.tmp 28) (.const (.bool true)) (.tmp 45)) (.bool true) g2a ?_
     (try simp only[pq])
     refine wpAnyH_done (by kernel_rfl) ?_ _
     refine NoPanic.normal ?_
     obtain ⟨w2,hw2⟩:∃ V,V=w2a:=⟨_,rfl⟩
     rw[← hw2]
     have g2:wr.grownBy w2 none:=by rw[hw2];exact g2a
     clear hw2
     have hBr:=(uh HBr).kept g2 (by simp)
     have hf0:=hBr.fz 0
     have hf1:=hBr.fz 1
     have hd0:=hBr.cell 0
     have hd1:=hBr.cell 1
     simp only[List.getElem?_cons_zero,List.getElem?_cons_succ] at hd0 hd1
     go_wp2
     refine bodyPost_ret (zaf rfl _ _ _ _ _ _ _ rfl ((hBr.set 0 (.int .i64 0)).set 1 _) Tryz.underlying44 rfl zb3) rfl ?_
     refine ⟨by rw[uh HRS,uh HS0];rfl,zab (zab (tn (tn (uh HG1) hg) g2) _ _ (Or.inl (Nat.le_refl _))) _ _ (Or.inl (Nat.le_refl _))⟩
   ·have hjn:j=es.length:=by have:=uh HL;omega
    have hres:za4 es=fitB (zid es):=by
     have h1:zck es es.length=true:=by rw[← hjn];exact uh HG
     simp[za4,uh HN,h1]
    have hpl:=uh HPL j (by omega)
    have cf:=ziv wr 2 (P j) (by omega)
    obtain ⟨r,hr⟩:∃ r,r=fitB (P j):=⟨_,rfl⟩
    have hrr:za4 es=r:=by rw[hr,hjn,uh HPN];exact hres
    rw[← hr] at cf
    have HRR:=hide hrr
    have HBr:=hide ((uh HB1).kept hg (by simp))
    clear hjn hres hpl hr hrr HG
    go_wp2_with fail
    refine cf.mono ?_
    rintro e w2 ⟨rfl,g2⟩
    have hBr:=(uh HBr).kept g2 (by simp)
    have hf0:=hBr.fz 0
    have hf1:=hBr.fz 1
    have hd0:=hBr.cell 0
    have hd1:=hBr.cell 1
    simp only[List.getElem?_cons_zero,List.getElem?_cons_succ] at hd0 hd1
    obtain ⟨K,hK⟩:∃ K:Int,K=(if r.1=0 then 2 else 0):=⟨_,rfl⟩
    obtain ⟨x,hx⟩:∃ x:Int,x=r.1:=⟨_,rfl⟩
    obtain ⟨SS,hSS⟩:∃ S,S=str r.2:=⟨_,rfl⟩
    rw[← hK,← hx,← hSS]
    obtain ⟨HK,HX,HSS⟩:=zh3 hK hx hSS
    clear cf hK hx hSS
    go_wp2
    refine bodyPost_ret (zaf rfl _ _ _ _ _ _ _ rfl ((hBr.set 0 (.int .i64 K)).set 1 (.string SS)) Tryz.underlying44 rfl zb3) rfl ?_
    refine ⟨?_,zab (zab (tn (tn (uh HG1) hg) g2) _ _ (Or.inl (Nat.le_refl _))) _ _ (Or.inl (Nat.le_refl _))⟩
    rw[uh HRR,← uh HK,← uh HX,← uh HSS]
    rfl
end Go.Proofs.YtegbbkgmiklhcaaGreatDoor
