/- Lemmas. -/
import Derived.Test.YtoilcpdhhlcidaaGreatDoorSpSe
import Derived.Test.YtoilcpdhhlcidaaGreatDoorDkL
namespace Go.Proofs.YtoilcpdhhlcidaaGreatDoor
open Go.RowKit
def za6 (p:Nat):Dsk→Nat→List (List UInt8)→Dsk × Int
 | D,_,[]=>(D,0)
 | D,i,s::ss=>if (wrD D ((p:Int)+1+(i:Int)) s).2=0 then za6 p (wrD D ((p:Int)+1+(i:Int)) s).1 (i+1) ss else wrD D ((p:Int)+1+(i:Int)) s
def ze2 (D:Dsk) (p:Nat) (mk:List UInt8) (ss:List (List UInt8)):Dsk × Int :=
 if (za6 p D 0 ss).2=0 then
  (if (syD (za6 p D 0 ss).1).2=0 then
   (if (wrD (syD (za6 p D 0 ss).1).1 (p:Int) mk).2=0 then syD (wrD (syD (za6 p D 0 ss).1).1 (p:Int) mk).1 else wrD (syD (za6 p D 0 ss).1).1 (p:Int) mk)
  else syD (za6 p D 0 ss).1)
 else za6 p D 0 ss
theorem zdu (p:Nat):∀ (a b:List (List UInt8)) (D:Dsk) (i:Nat),za6 p D i (a++b)=if (za6 p D i a).2=0 then za6 p (za6 p D i a).1 (i+a.length) b else za6 p D i a
 | [],b,D,i=>by simp[za6]
 | s::a,b,D,i=>by
   rw[List.cons_append,za6,za6]
   by_cases h:(wrD D ((p:Int)+1+(i:Int)) s).2=0
   ·simp only[if_pos h]
    rw[zdu p a b,List.length_cons,show i+1+a.length=i+(a.length+1) by omega]
   ·simp only[if_neg h]
theorem zoi (D:Dsk) (i:Int) (s:List UInt8):(wrD D i s).1.U.length≤D.U.length+1:=by
 unfold wrD
 split
 ·simp
 ·split
  ·unfold cntD
   repeat' split
   all_goals simp
  ·simp
theorem zrp (D:Dsk):(syD D).1.U.length≤D.U.length:=by
 unfold syD cntD
 repeat' split
 all_goals simp[zbl]
theorem zhd (p:Nat):∀ (ss:List (List UInt8)) (D:Dsk) (i:Nat),(za6 p D i ss).1.U.length≤D.U.length+ss.length
 | [],D,i=>by simp[za6]
 | s::ss,D,i=>by
   have h1:=zoi D ((p:Int)+1+(i:Int)) s
   rw[za6,List.length_cons]
   split
   ·have:=zhd p ss (wrD D ((p:Int)+1+(i:Int)) s).1 (i+1)
    omega
   ·omega
theorem Lf.trans {u w a b:World} {F F' : List Nat} {d:Nat} {D:Dsk} (h1:Fr w a F) (h2:∀ x∈F',x∈F∨w.heap.size≤x) (h:Lf u a b F' d D):Lf u w b F d D:=by
 obtain ⟨F2,q1,q2,q3⟩:=h
 refine ⟨F2,q1,h1.trans q2 h2,fun x hx => ?_⟩
 rcases q3 x hx with h4 | h4
 ·exact h2 x h4
 ·exact Or.inr (Nat.le_trans h1.size h4)
theorem Sect.read {w a:World} {base:Nat} {v:Value} {L:List (List UInt8)} {F:List Nat} (h:Sect w base v L) (hL:0<L.length) (fr:Fr w a F) (hF:∀ x∈F,x<base) :
  ∃ g cap,v = .slice (some ⟨g,0,none⟩) L.length cap∧L.length≤cap∧cap≤maxLen∧∀ (i:Nat) (u:List UInt8),L[i]? = some u→∃ p c,a.cell? ⟨g,i,none⟩=some (.slice (some ⟨p,0,none⟩) 256 c)∧Bts a (some ⟨p,0,none⟩) c u∧u.length=256:=by
 obtain ⟨Vs,h1,h2⟩:=h
 rcases h1.2 with ⟨_,h0⟩ | ⟨g,cap,cur,hv,hb,hh,hn,hm,_⟩
 ·omega
 subst hv
 refine ⟨g,cap,rfl,hn,hm,fun i u hu => ?_⟩
 obtain ⟨p,c,e,q1,q2,q3⟩:=h2 i u hu
 have hc:=h1.cells (g:=g) rfl i _ e
 rw[Addr.add_lit] at hc
 have hc2:w.cell? ⟨g,i,none⟩=some (Value.slice (some ⟨p,0,none⟩) 256 c):=by simpa using hc
 exact ⟨p,c,fr.cell hc2 (fun hf=>by have:=hF _ hf;simp only at this;omega),fr.bts q2 (fun ad e2 hf=>by cases e2;have:=hF _ hf;simp only at this;omega),q3⟩
set_option maxRecDepth 100000 in
set_option maxHeartbeats 4000000 in
theorem zjh {u w:World} {F:List Nat} {d:Nat} {D:Dsk} (h:Dw u w F d D) (hU:D.U.length≤1000) (g n:Nat) (sl:List UInt8) (h32:sl.length=32) (b o c:Nat) (x:List UInt8) (hb:Bts w (some ⟨b,o,none⟩) c x) (hx:0<x.length) (h4:x.length≤1000000) (p:Nat) (hp:p<4294967296) :
  Calls Tryz.prog 59 #[.agg (rcC g n x.length sl (.slice (some ⟨b,o,none⟩) x.length c)).toArray,.pointer (some ⟨d,0,none⟩),.int .i64 (p:Int)] w fun e w' =>
   e = .returned (.int .i64 (ze2 D p (za8 (mkB g n x.length sl)) ((List.range (secN x.length)).map (secB x))).2)∧Lf u w w' F d (ze2 D p (za8 (mkB g n x.length sl)) ((List.range (secN x.length)).map (secB x))).1:=by
 obtain ⟨R,hR⟩:∃ R,R=rcC g n x.length sl (.slice (some ⟨b,o,none⟩) x.length c):=⟨_,rfl⟩
 obtain ⟨W1,hW1,hB1,g1⟩:=zah w 106 R
 have cs:=zgi W1 g n sl h32 b o c x (hb.kept g1 (fun _ e=>by cases e)) hx (by omega)
 obtain ⟨mk,hmk⟩:∃ mk,mk=za8 (mkB g n x.length sl):=⟨_,rfl⟩
 obtain ⟨ss,hss⟩:∃ ss,ss=(List.range (secN x.length)).map (secB x):=⟨_,rfl⟩
 rw[← hR,← hmk,← hss] at cs
 rw[← hR,← hmk,← hss]
 have hmr:=zan hB1
 have HRI:=hide (show (Tryz.prog.info? 106).map (·.size)=some R.length by rw[hR,zbn h32];exact zbj)
 have hsl:0<ss.length∧ss.length≤4000:=by rw[hss];simp[secN];omega
 obtain ⟨N,hN⟩:∃ N,N=ss.length:=⟨_,rfl⟩
 have hN0:0<N:=by omega
 have hN1:N≤4000:=by omega
 obtain ⟨HW1,HG1,HN,HD,HUU,HPP⟩:=zh6 hW1 g1 hN h hU hp
 clear hR hB1 hW1 g1 hmk hss hb hx h4 hsl hN h hU h32 hp
 go_enter Tryz.func59,Tryz.ntmps59
 go_wp2_with (first
  | (rw[← uh HW1])
  | (refine wpList_load_mid rfl 106 _ rfl w.heap.size 0 rfl R _ hmr Tryz.underlying106 rfl (uh HRI) ?_;clear hmr)
  | (go_at_call 74;refine cs.mono ?_;rintro e w2 ⟨v2,rfl,hs2,g2⟩;fail))
 refine cs.mono ?_
 rintro e w2 ⟨v2,rfl,hs2,g2⟩
 have hdw:Dw u w2 F d D:=(uh HD).nn (tn (uh HG1) g2)
 have hlo:∀ y∈F,y<W1.heap.size:=fun y hy=>Nat.lt_of_lt_of_le ((uh HD).lo y hy).2 (uh HG1).size
 obtain ⟨g0,k0,hv2,hk1,hk2,hrd0⟩:=hs2.read (by simp) (Fr.refl w2 F) hlo
 have hrd:∀ a,Fr w2 a F→∀ (i:Nat) (z:List UInt8),(mk::ss)[i]? = some z→∃ p c,a.cell? ⟨g0,i,none⟩=some (Value.slice (some ⟨p,0,none⟩) 256 c)∧Bts a (some ⟨p,0,none⟩) c z∧z.length=256:=fun a fr=>by
  obtain ⟨g',k',e',_,_,q⟩:=hs2.read (by simp) fr hlo
  rw[hv2] at e'
  injection e' with e'
  injection e' with e'
  injection e' with e'
  subst e'
  exact q
 rw[List.length_cons,← uh HN] at hk1
 have hv3:=hv2
 rw[List.length_cons,← uh HN] at hv3
 subst hv3
 have hsl1:∀ V,(Instr.slice 126 (.slice (some ⟨g0,0,none⟩) (N+1) k0) (some (.int .i64 1)) none none).run Tryz.prog V = .ok (.slice (some ⟨g0,1,none⟩) N (k0 - 1)) V:=fun V=>by
  have:=zb1 (P:=Tryz.prog) V 126 53 Tryz.underlying126 (fun w=>by kernel_rfl) (some ⟨g0,0,none⟩) (N+1) k0 1 (by omega)
  rw[show cutA (some ⟨g0,0,none⟩) k0 1=some ⟨g0,1,none⟩ by unfold cutA;rw[if_neg (by omega)];rfl,show N+1 - 1=N by omega] at this
  exact this
 obtain ⟨HDW,HLO,HRD⟩:=zh3 hdw hlo hrd
 have HG2:=hide (tn (uh HG1) g2)
 have hk3:N≤k0 - 1:=by omega
 clear cs hdw hlo hs2 g2 hrd hrd0 hk1 hk2 hv2
 have hp:=uh HPP
 have hpw:IntKind.i64.wrap ((p:Int)+1)=(p:Int)+1:=by rw[IntKind.wrap_i64];omega
 have HLF0:=hide (show Lf u w2 w2 F d D from ⟨F,uh HDW,Fr.refl _ _,fun y hy=>Or.inl hy⟩)
 clear hp
 go_wp2
 go_loopw [18] (fun i wr=>∃ (j:Nat) (D' : Dsk),i = .int .i64 j∧j≤N∧Hid (za6 p D 0 (ss.take j)=(D',0))∧Hid (Lf u w2 wr F d D')) (fun i _=>N - (intOf i).toNat)
 case atStart=>exact ⟨0,D,rfl,Nat.zero_le _,by simp[za6,Hid],uh HLF0⟩
 case round =>
  clear HLF0
  obtain ⟨j,D',rfl,hj,HS,HL⟩:=hrel
  obtain ⟨F',hdw',fr',hF'⟩:=uh HL
  have hUj:D'.U.length≤5000:=by
   have h9:=zhd p (ss.take j) D 0
   rw[uh HS,List.length_take] at h9
   have h10:D'.U.length≤D.U.length+min j ss.length:=h9
   have h11:=uh HUU
   omega
  by_cases hlt:j<N
  ·have hjl:j<ss.length:=by rw[← uh HN];exact hlt
   obtain ⟨s,hs⟩:∃ s,s=ss[j]:=⟨_,rfl⟩
   obtain ⟨q,cq,hc,hbs,hsl⟩:=uh HRD _ fr' (1+j) s (by rw[Nat.add_comm,List.getElem?_cons_succ,List.getElem?_eq_getElem hjl,hs])
   have cw:=zqu hdw' ((p:Int)+1+(j:Int)) (some ⟨q,0,none⟩) cq s hbs (by omega)
   rw[hsl] at cw
   have hp:=uh HPP
   have hjw:IntKind.i64.wrap ((j:Int)+1)=(j:Int)+1:=by rw[IntKind.wrap_i64];omega
   have hw2:IntKind.i64.wrap ((p:Int)+1+(j:Int))=(p:Int)+1+(j:Int):=by rw[IntKind.wrap_i64];omega
   have hji:(j:Int)<(N:Int):=by omega
   have hsp:ss=ss.take j++s::ss.drop (j+1):=by rw[hs,← List.drop_eq_getElem_cons hjl,List.take_append_drop]
   have htk:ss.take (j+1)=ss.take j++[s]:=by rw[hs];exact List.take_succ_eq_append_getElem hjl
   have hlt2:(ss.take j).length=j:=by rw[List.length_take];omega
   obtain ⟨r,hr⟩:∃ r,r=(wrD D' ((p:Int)+1+(j:Int)) s).2:=⟨_,rfl⟩
   rw[← hr] at cw
   by_cases h0:r=0
   ·subst h0
    have HS1:=hide (show za6 p D 0 (ss.take (j+1))=((wrD D' ((p:Int)+1+(j:Int)) s).1,0) by
     rw[htk,zdu,uh HS]
     simp only[if_pos,hlt2,Nat.zero_add,za6]
     rw[if_pos hr.symm])
    have HFR:=hide fr'
    have HF2:=hide hF'
    clear hs hbs hsl hsp htk hlt2 hr hp hjl hdw' fr' hF' HS HL hUj
    go_wp2_with (go_at_call 80;refine cw.mono ?_;rintro e w4 ⟨rfl,hl4⟩;have HL4:=hide (Lf.trans (uh HFR) (uh HF2) hl4);clear cw hl4 hc)
    go_roundw
    case rel=>exact ⟨j+1,_,by go_num,by omega,uh HS1,uh HL4⟩
    case measure=>simp[intOf];omega
   ·have h0b:(r == 0)=false:=beq_eq_false_iff_ne.2 h0
    have hfin:ze2 D p mk ss=wrD D' ((p:Int)+1+(j:Int)) s:=by
     have e1:za6 p D 0 ss=wrD D' ((p:Int)+1+(j:Int)) s:=by
      rw[hsp,zdu,uh HS]
      simp only[if_pos,hlt2,Nat.zero_add,za6]
      rw[if_neg (by rw[← hr];exact h0)]
     unfold ze2
     rw[e1,if_neg (by rw[← hr];exact h0)]
    obtain ⟨HF1,HR⟩:=zh2 hfin hr
    have HFR:=hide fr'
    have HF2:=hide hF'
    clear hs hbs hsl hsp htk hlt2 hr hp hjl hdw' fr' hF' HS HL hUj hfin
    go_wp2_with (go_at_call 80;refine cw.mono ?_;rintro e w4 ⟨rfl,hl4⟩;have HL4:=hide (Lf.trans (uh HFR) (uh HF2) hl4);clear cw hl4 hc)
    go_ret
    exact ⟨by rw[uh HF1,← uh HR];rfl,by rw[uh HF1];exact Lf.trans (Fr.none (uh HG2) F) (fun y hy=>Or.inl hy) (uh HL4)⟩
  ·have hjN:j=N:=by omega
   have hji:¬ (j:Int)<(N:Int):=by omega
   have hall:ss.take j=ss:=List.take_of_length_le (by rw[← uh HN];omega)
   have hS:za6 p D 0 ss=(D',0):=by rw[← hall];exact uh HS
   have hdw':=hdw'
   have cy:=zsc hdw' (by omega)
   obtain ⟨r2,hr2⟩:∃ r,r=(syD D').2:=⟨_,rfl⟩
   rw[← hr2] at cy
   have HFR:=hide fr'
   have HF2:=hide hF'
   obtain ⟨HU1,HSS,HR2⟩:=zh3 hUj hS hr2
   by_cases h0:r2=0
   ·subst h0
    clear hjN hall hS hr2 hdw' fr' hF' HS HL hUj hlt
    go_wp2_with fail
    refine cy.mono ?_
    rintro e w3 ⟨rfl,hl3⟩
    have hl3':=Lf.trans (uh HFR) (uh HF2) hl3
    obtain ⟨F3,hdw3,fr3,hF3⟩:=hl3'
    obtain ⟨q,cq,hc,hbs,hsl⟩:=uh HRD _ fr3 0 mk rfl
    have hu3:=zrp D'
    have cw:=zqu hdw3 (p:Int) (some ⟨q,0,none⟩) cq mk hbs (by have:=uh HU1;omega)
    rw[hsl] at cw
    obtain ⟨D3,hD3⟩:∃ D3,D3=(syD D').1:=⟨_,rfl⟩
    rw[← hD3] at cw hdw3 hu3
    obtain ⟨r,hr⟩:∃ r,r=(wrD D3 (p:Int) mk).2:=⟨_,rfl⟩
    rw[← hr] at cw
    obtain ⟨HFR3,HF3,HR,HD3,HU3⟩:=zh5 fr3 hF3 hr hD3 hu3
    by_cases h1:r=0
    ·subst h1
     clear cy hl3 fr3 hF3 hbs hsl hr hD3 hdw3 hu3
     go_wp2_with fail
     refine cw.mono ?_
     rintro e w4 ⟨rfl,hl4⟩
     have hl4':=Lf.trans (uh HFR3) (uh HF3) hl4
     obtain ⟨F4,hdw4,fr4,hF4⟩:=hl4'
     have hu4:=zoi D3 (p:Int) mk
     have cz:=zsc hdw4 (by have:=uh HU3;have:=uh HU1;omega)
     obtain ⟨HFR4,HF4⟩:=zh2 fr4 hF4
     clear cw hl4 hdw4 fr4 hF4 hu4 hc
     go_wp2_with fail
     refine cz.mono ?_
     rintro e w5 ⟨rfl,hl5⟩
     have HL5:=hide (Lf.trans (uh HFR4) (uh HF4) hl5)
     have HF1:=hide (show ze2 D p mk ss=syD (wrD D3 (p:Int) mk).1 by
      unfold ze2
      rw[uh HSS]
      simp only
      rw[if_pos trivial,if_pos (uh HR2).symm,← uh HD3,if_pos (uh HR).symm])
     clear cz hl5
     go_wp2
     go_ret
     exact ⟨by rw[uh HF1];rfl,by rw[uh HF1];exact Lf.trans (Fr.none (uh HG2) F) (fun y hy=>Or.inl hy) (uh HL5)⟩
    ·have h1b:(r == 0)=false:=beq_eq_false_iff_ne.2 h1
     have HF1:=hide (show ze2 D p mk ss=wrD D3 (p:Int) mk by
      unfold ze2
      rw[uh HSS]
      simp only
      rw[if_pos trivial,if_pos (uh HR2).symm,← uh HD3,if_neg (by rw[← uh HR];exact h1)])
     clear cy hl3 fr3 hF3 hbs hsl hr hD3 hdw3 hu3
     go_wp2_with fail
     refine cw.mono ?_
     rintro e w4 ⟨rfl,hl4⟩
     have HL4:=hide (Lf.trans (uh HFR3) (uh HF3) hl4)
     clear cw hl4 hc
     go_wp2
     go_ret
     exact ⟨by rw[uh HF1,← uh HR];rfl,by rw[uh HF1];exact Lf.trans (Fr.none (uh HG2) F) (fun y hy=>Or.inl hy) (uh HL4)⟩
   ·have h0b:(r2 == 0)=false:=beq_eq_false_iff_ne.2 h0
    have HF1:=hide (show ze2 D p mk ss=syD D' by
     unfold ze2
     rw[hS]
     simp only
     rw[if_pos trivial,if_neg (by rw[← hr2];exact h0)])
    clear hjN hall hS hr2 hdw' fr' hF' HS HL hUj hlt
    go_wp2_with fail
    refine cy.mono ?_
    rintro e w3 ⟨rfl,hl3⟩
    have HL3:=hide (Lf.trans (uh HFR) (uh HF2) hl3)
    clear cy hl3
    go_wp2
    go_ret
    exact ⟨by rw[uh HF1,← uh HR2];rfl,by rw[uh HF1];exact Lf.trans (Fr.none (uh HG2) F) (fun y hy=>Or.inl hy) (uh HL3)⟩
end Go.Proofs.YtoilcpdhhlcidaaGreatDoor
