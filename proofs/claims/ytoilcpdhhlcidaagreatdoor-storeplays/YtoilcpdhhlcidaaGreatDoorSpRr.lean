/- Lemmas. -/
import Derived.Test.YtoilcpdhhlcidaaGreatDoorSpHp
namespace Go.Proofs.YtoilcpdhhlcidaaGreatDoor
open Go.RowKit
theorem zmf {P:Program} (W:World) (t e:TypeId) (ht:P.underlying t=some (.slice e)) (hz:∀ w,(Go.sizeOf e).run P w = .ok 1 w) (ao:Option Addr) (n c k:Nat) (hk:k≤c) :
  (Instr.slice t (.slice ao n c) none (some (.int .u64 (k:Int))) none).run P W = .ok (.slice ao k c) W:=by
 have ht' : P.underlying t=some (.slice (P.elem t)):=by simp[Program.elem,ht]
 have he:P.elem t=e:=by simp[Program.elem,ht]
 rw[run_slice_h W t _ _ _ ht' .u64 _ (by omega) (by omega),he,hz]
 cases ao <;> simp[Result.andThen,sliced,Addr.add]
theorem zh7 {w:World} {ao:Option Addr} {c:Nat} {l:List UInt8} (h:Bts w ao c l) (hl:0<l.length):∃ q o,ao=some ⟨q,o,none⟩:=by
 cases ao with
 | none=>have:=(h.zip rfl).1;omega
 | some ad =>
   obtain ⟨q,o,s⟩:=ad
   have:=h.shape _ rfl hl
   simp only at this
   subst this
   exact ⟨q,o,rfl⟩
theorem RrI.lst {w W:World} {sv tv:Value} {A:List (List UInt8)} {T:List UInt8} (h:RrI w sv tv A T W) (hA:0<A.length):∃ g cap,sv = .slice (some ⟨g,0,none⟩) A.length cap∧Lst W (some ⟨g,0,none⟩) cap A:=by
 obtain ⟨Vs,h1,h2⟩:=h.row
 obtain ⟨g,cap,rfl⟩:=zct h1 hA
 refine ⟨g,cap,rfl,?_⟩
 have hc:A.length≤cap∧cap≤maxLen:=by
  rcases h1.2 with ⟨h3,_⟩ | ⟨g',cap',cur,hv,_,_,hn,hm,_⟩
  ·cases h3
  ·injection hv with _ _ h4
   subst h4
   exact ⟨hn,hm⟩
 refine ⟨(fun e=>by cases e),hc.1,hc.2,(fun ad e _=>by cases e;rfl),fun ad e i hi => ?_⟩
 cases e
 obtain ⟨q,o,c,e1,e2,_⟩:=h2 i A[i] (List.getElem?_eq_getElem hi)
 have h3:=h1.cells (g:=g) rfl i _ e1
 rw[Addr.add_lit] at h3
 exact ⟨_,_,by simpa using h3,e2⟩
theorem Sect.lst {w a:World} {base:Nat} {v:Value} {L:List (List UInt8)} (h:Sect w base v L) (hL:0<L.length) (g:w.grownBy a none):∃ b cap,v = .slice (some ⟨b,0,none⟩) L.length cap∧Lst a (some ⟨b,0,none⟩) cap L:=by
 obtain ⟨b,cap,rfl,h1,h2,h3⟩:=h.read hL (Fr.none g []) (fun _ e=>by cases e)
 refine ⟨b,cap,rfl,(fun e=>by cases e),h1,h2,(fun ad e _=>by cases e;rfl),fun ad e i hi => ?_⟩
 cases e
 obtain ⟨p,c,e1,e2,e3⟩:=h3 i L[i] (List.getElem?_eq_getElem hi)
 exact ⟨_,_,by rw[e3];simpa using e1,e2⟩
set_option maxRecDepth 100000 in
set_option maxHeartbeats 4000000 in
theorem zj2 {u w:World} {F:List Nat} {d:Nat} {D:Dsk} (h:Dw u w F d D) (hd:D.down=false) (hU:D.U=[]) (hT:Tabs w) (p hi:Nat) (hh:hi≤D.safe.length) (hp:p≤hi) :
  Calls Tryz.prog 54 #[.pointer (some ⟨d,0,none⟩),.int .i64 (p:Int),.int .i64 (hi:Int)] w fun e w'=>w.grownBy w' none ∧
   ((¬ isR D.safe hi p∧e = .returned (.tuple #[.agg (rcC 0 0 0 (List.replicate 32 0) (.slice none 0 0)).toArray,.slice none 0 0,.bool false])) ∨
    (isR D.safe hi p∧∃ (L:List ChI) (lo:Option Addr) (lc:Nat) (ao:Option Addr) (c:Nat),e = .returned (.tuple #[.agg (rcC (rdMk (sc D.safe p)).1 (rdMk (sc D.safe p)).2.1 (rdMk (sc D.safe p)).2.2 (shaL (txR D.safe p)) (.slice ao (rdMk (sc D.safe p)).2.2 c)).toArray,.slice lo L.length lc,.bool true])∧CsI w' lo lc L∧L.map ChI.chg=zb9 (txR D.safe p)∧(∀ ad,lo=some ad→w.heap.size≤ad.block)∧(∀ x∈L,∀ ad,x.bo=some ad→w.heap.size≤ad.block))):=by
 have hmost:=h.at_.ok.most
 have hwide:=h.at_.ok.wide
 obtain ⟨Z,hZ⟩:∃ Z:List Value,Z=rcC 0 0 0 (List.replicate 32 0) (.slice none 0 0):=⟨_,rfl⟩
 have hzv:=zfr
 have hbz:=zl0
 have hzm:=zi7
 have hZl:Z.length=36:=by rw[hZ];exact zbn (by simp)
 have hZ1:∀ x∈Z,x.oneCell'=true:=by rw[hZ];exact zdm _ _ _ _ rfl
 rw[← hZ] at hzv hbz ⊢
 obtain ⟨Y,hY⟩:∃ Y:List Value,Y=mkC 0 0 0 (List.replicate 32 0):=⟨_,rfl⟩
 rw[← hY] at hzm
 obtain ⟨W1,hW1,hB1,g1⟩:=zah w 106 Z
 have hd1:=h.nn g1
 have cr:=zgk hd1 hd hU (p:Int) p rfl
 obtain ⟨S,hS⟩:∃ S,S=D.safe:=⟨_,rfl⟩
 rw[← hS] at cr hmost hwide hh ⊢
 have HSS:=hide hS
 obtain ⟨B,hB⟩:∃ B,B=sc S p:=⟨_,rfl⟩
 rw[← hB] at cr ⊢
 have hBl:B.length≤256:=by
  rw[hB];unfold sc
  cases hg:S[p]? with
  | none=>simp
  | some s=>simp only[Option.getD_some];rw[hwide s (List.mem_of_getElem? hg)];exact Nat.le_refl _
 obtain ⟨G,N,z,hmk⟩:∃ G N z,rdMk B=(G,N,z):=⟨_,_,_,rfl⟩
 have hz4:z<4294967296:=by have:=(zjx B).2.2;rw[hmk] at this;exact this
 have cmk:=fun (V:World) (ao:Option Addr) (c:Nat) (hb:Bts V ao c B)=>zja V ao c B hb (by omega)
 rw[hmk] at cmk
 simp only at cmk
 obtain ⟨t,ht⟩:∃ t,t=txR S p:=⟨_,rfl⟩
 have ht2:t=(ze3 S p (secN z)).take z:=by rw[ht];unfold txR;rw[← hB,hmk]
 have hir:isR S hi p↔(p+1+secN z≤hi∧mayB (zb9 t)=true∧recB (zb9 t)=t∧zc6 S p (1+secN z)=za8 (mkB G N t.length (shaL t))::(List.range (secN t.length)).map (secB t)):=by
  unfold isR;rw[← hB,hmk,← ht]
 rw[← ht,hmk]
 simp only
 obtain ⟨nl,hnl⟩:∃ n,n=B.length:=⟨_,rfl⟩
 obtain ⟨M,hM⟩:∃ M:List Value,M=mkC G N z (List.replicate 32 0):=⟨_,rfl⟩
 rw[← hM,← hnl] at cmk
 rw[← hnl] at cr
 have hM1:∀ x∈M,x.oneCell'=true:=by rw[hM];exact zjw _ _ _ _
 have hMl:M.length=35:=by rw[hM];exact zdl (by simp)
 have hYl:Y.length=35:=by rw[hY];exact zdl (by simp)
 have HMI:=hide (show (Tryz.prog.info? 104).map (·.size)=some M.toArray.size by simp[hMl,zel])
 have HMY:=hide (show Y.toArray.size=M.toArray.size by simp[hMl,hYl])
 have HMO:=hide (all_oneCell_toArray hM1)
 have HZI:=hide (show (Tryz.prog.info? 106).map (·.size)=some Z.toArray.size by simp[hZl,zbj])
 have HZO:=hide (all_oneCell_toArray hZ1)
 obtain ⟨HW1,HB1,HG1,HD1,HMM,HT⟩:=zh6 hW1 hB1 g1 h hM hT
 obtain ⟨HIR,HT2,HWD,HMK,HHH,HDD⟩:=zh6 hir ht2 hwide hmk hh hd
 have HUU:=hide hU
 clear hW1 hB1 g1 hd1 h hM hT hir ht2 hwide hmk hh hd hU hS hB ht hBl hM1 hZ1 hY hZ hmost
 go_enter Tryz.func54,Tryz.ntmps54
 go_wp2_with (first
  | (rw[← uh HW1])
  | (go_at_call 27;fail))
 refine cr.mono ?_
 rintro e w2 ⟨ao,c,er,rfl,hbt,-,-,g2⟩
 have cm:=cmk w2 ao c hbt
 clear cr hbt cmk
 have HG2:=hide (tn (uh HG1) g2)
 have HB2:=hide ((uh HB1).kept g2 (by simp))
 clear g2
 have HNL:=hide hnl
 clear hnl
 go_wp2_with fail
 refine cm.mono ?_
 rintro e w3 ⟨rfl,g3⟩
 obtain ⟨W4,hW4,hB4,g4⟩:=zbu w3 104 Y.toArray M
 have HW4:=hide hW4
 have hc42:W4.cell? ⟨w3.heap.size,2,none⟩=some (.int .u64 (z:Int)):=by rw[hB4.cell 2,uh HMM];rfl
 have cs:=ze1 W4 z (by omega)
 have HG4:=hide (tn (tn (uh HG2) g3) g4)
 have HR4:=hide ((uh HB2).kept (tn g3 g4) (by simp))
 have HB4:=hide hB4
 clear cm hW4 g3 g4 hB4
 have hS2:S.length≤2048:=by have:=(uh HD1).at_.ok.most;rw[uh HSS];exact this
 have hw1:IntKind.i64.wrap ((hi:Int) - (p:Int))=(hi:Int) - (p:Int):=by have:=uh HHH;rw[IntKind.wrap_i64];omega
 obtain ⟨n,hn⟩:∃ n,n=1+secN z:=⟨_,rfl⟩
 rw[← hn] at cs
 have HN:=hide hn
 clear hn
 have fin0:∀ W5,W4.grownBy W5 none→w.grownBy (W5.setRow w.heap.size Z.toArray) none∧Blk (W5.setRow w.heap.size Z.toArray) w.heap.size 106 Z:=fun W5 g5 =>
  ⟨zaj (tn (uh HG4) g5) _ (Or.inl (Nat.le_refl _)),((uh HR4).kept g5 (by simp)).row Z⟩
 have HF0:=hide fin0
 clear fin0
 by_cases hfit:p+n≤hi
 ·have hgt:¬ (n:Int) > (hi:Int) - (p:Int):=by omega
  go_wp2_with (first
   | (refine wpList_store_row rfl 104 _ _ rfl w3.heap.size M.toArray rfl rfl _ _ (heap_alloc_new _ _) (by simpa using uh HMI) (uh HMY) (uh HMO) ?_;rw[← uh HW4])
   | (go_at_call 61;refine cs.mono ?_;rintro e w5 ⟨rfl,hw5⟩;have hw6:=hw5.symm;clear hw5;subst hw6;clear cs))
  have hdw:∀ V,W4.grownBy V none→Dw u V F d D:=fun V g=>(uh HD1).nn (tn (uh HG4) g)
  have HDW:=hide hdw
  have hnb:n≤2048∧p+n≤S.length:=⟨by have:=uh HHH;omega,by have:=uh HHH;omega⟩
  obtain ⟨HNB,HFIT⟩:=zh2 hnb hfit
  have HI0:=hide (show RrI W4 (.slice none 0 0) (.slice none 0 0) (zc6 S p 0) (ze3 S p (0 - 1)) W4 from ⟨⟨[],World.ownsRow_nil _ _ _ _,fun i u hu=>by simp[zc6] at hu⟩,World.ownsRow_nil _ _ _ _,zac _ _⟩)
  have hsl4:(sc S p).length=256∨True:=Or.inr trivial
  clear hsl4 hdw hnb hfit
  go_loopw [39,13,14] (fun i sv tv wr=>∃ (j:Nat),i = .int .i64 j∧j≤n∧Hid (RrI W4 sv tv (zc6 S p j) (ze3 S p (j - 1)) wr)) (fun i _ _ _=>n - (intOf i).toNat)
  case atStart=>exact ⟨0,rfl,Nat.zero_le _,uh HI0⟩
  case round =>
   clear HI0
   obtain ⟨j,rfl,hj,HI⟩:=hrel
   by_cases hlt:j<n
   ·obtain ⟨A,hA⟩:∃ A,A=zc6 S p j:=⟨_,rfl⟩
    obtain ⟨T,hT⟩:∃ A,A=ze3 S p (j - 1):=⟨_,rfl⟩
    have hI:=uh HI
    rw[← hA,← hT] at hI
    obtain ⟨B5,hB5⟩:∃ B,B=sc S (p+j):=⟨_,rfl⟩
    have hnb:=uh HNB
    have hBl:B5.length=256:=by rw[hB5];unfold sc;rw[List.getElem?_eq_getElem (by omega)];exact uh HWD _ (List.getElem_mem _)
    have hAl:A.length=j:=by rw[hA];simp[zc6]
    have hTl:T.length=255*(j - 1):=by rw[hT];exact zeq (uh HWD) _ (by omega)
    have cr:=zgk (uh HDW wr hI.gb) (uh HDD) (uh HUU) ((p:Int)+(j:Int)) (p+j) (by omega)
    rw[← uh HSS,← hB5,hBl] at cr
    have hji:(j:Int)<(n:Int):=by omega
    have hjw:IntKind.i64.wrap ((j:Int)+1)=(j:Int)+1:=by rw[IntKind.wrap_i64];omega
    have hpj:IntKind.i64.wrap ((p:Int)+(j:Int))=(p:Int)+(j:Int):=by rw[IntKind.wrap_i64];omega
    obtain ⟨HAA,HTT,HB5,HBL,HAL,HTL⟩:=zh6 hA hT hB5 hBl hAl hTl
    have HI1:=hide hI
    clear hA hT hI hB5 hnb hBl hAl hTl HI
    go_wp2_with fail
    refine cr.mono ?_
    rintro e w5 ⟨ao5,c5,er5,rfl,hbt5,hfr5,he5,g5⟩
    have he0:=he5 (by have:=uh HNB;omega)
    subst he0
    obtain ⟨q,o,hao⟩:=zh7 hbt5 (by rw[uh HBL];decide)
    subst hao
    obtain ⟨W6,hW6,hB6,g6⟩:=zah w5 53 [.slice (some ⟨q,o,none⟩) 256 c5]
    have hI6:=((uh HI1).nn g5).nn g6
    obtain ⟨Vs,h1,h2⟩:=hI6.row
    have hb6:=hbt5.kept g6 (fun _ e=>by cases e)
    have hql:q<w5.heap.size:=hbt5.lt _ rfl (by intro e;have:=uh HBL;rw[e] at this;cases this)
    have hqw:wr.heap.size≤q:=hfr5 _ rfl
    have hq6:q<W6.heap.size∧W4.heap.size≤q∧some q≠u13.ownBlock∧some q≠u14.ownBlock:=by
     obtain ⟨Vs',h1',_⟩:=(uh HI1).row
     refine ⟨Nat.lt_of_lt_of_le hql g6.size,Nat.le_trans (uh HI1).gb.size hqw,fun e => ?_,fun e => ?_⟩
     ·have:=(h1'.lt q e.symm).2;omega
     ·have:=((uh HI1).txt.lt q e.symm).2;omega
    have hfs:∀ g cap w7,w7.ownsRow W4.heap.size 53 1 (.slice (some ⟨g,0,none⟩) (A.length+1) cap) (A.length+1) (Vs++[.slice (some ⟨q,o,none⟩) 256 c5])→W6.grownBy w7 u13.ownBlock→(u13.ownBlock=some g∨g=W6.heap.size) →
      RrI W4 (.slice (some ⟨g,0,none⟩) (A.length+1) cap) u14 (A++[B5]) T w7∧Bts w7 (some ⟨q,o,none⟩) c5 B5∧W6.heap.size≤w7.heap.size:=fun g cap w7 ho gr hg =>
     ⟨hI6.sec h1 h2 hb6 hq6 (by rw[uh HBL];exact ho) gr (hg.imp id (fun e=>Nat.le_of_eq e.symm)),hb6.kept gr (fun y e=>by intro ad e2 e3;cases e2;exact hq6.2.2.1 (by rw[e,← e3])),gr.size⟩
    obtain ⟨HFS,HH1,HW6⟩:=zh3 hfs h1 hW6
    have HS6:=hide (show W4.heap.size≤W6.heap.size from hI6.gb.size)
    have HC5:=hide (show 256≤c5 by have:=hbt5.fits;rw[uh HBL] at this;exact this)
    have HQ:=hide hq6
    clear cr hbt5 hfr5 he5 g5 hW6 hB6 g6 hI6 h1 h2 hb6 hql hqw hq6 hfs HI1
    by_cases h0:j=0
    ·subst h0
     go_wp2_with (first
      | (rw[← uh HW6])
      | (obtain ⟨i0,hi0,hz0,hz1,hz2⟩:=info_parts zen;refine wpList_append_lies _ rfl _ _ 126 rfl W4.heap.size 53 i0 (.slice none 0 0) 1 24 Tryz.underlying126 hi0 hz0 hz1 hz2 rfl (by decide) u13 A.length Vs rfl (uh HH1) ⟨w5.heap.size,0,none⟩ 1 1 [.slice (some ⟨q,o,none⟩) 256 c5] rfl rfl (by rw[uh HW6];exact cell_one_new _ _ _) (by simp[Value.oneCell']) (by decide) (by have:=uh HAL;unfold maxLen;omega) (by have:=uh HAL;omega) (uh HS6) W6.heap.size rfl ?_;clear i0 hi0 hz0 hz1 hz2;intro g7 k7 w7 ho7 gr7 hg7 hl7;have HI7:=hide (uh HFS g7 k7 w7 ho7 gr7 hg7).1;clear ho7 gr7 hg7 hl7))
     go_roundw
     case rel=>exact ⟨1,by go_num,by omega,by
      have e1:zc6 S p 1=A++[B5]:=by rw[zhe,uh HAA,uh HB5]
      have e2:T=ze3 S p (1 - 1):=uh HTT
      rw[e1,← e2]
      exact uh HI7⟩
     case measure=>simp[intOf];omega
    ·have hB5l:=uh HBL
     have hsl1:∀ V,(Instr.slice 53 (.slice (some ⟨q,o,none⟩) 256 c5) (some (.int .i64 1)) none none).run Tryz.prog V = .ok (.slice (some ⟨q,o+1,none⟩) 255 (c5 - 1)) V:=fun V=>by
      have:=zb1 (P:=Tryz.prog) V 53 5 Tryz.underlying53 za2 (some ⟨q,o,none⟩) 256 c5 1 (by omega)
      rw[show cutA (some ⟨q,o,none⟩) c5 1=some ⟨q,o+1,none⟩ by unfold cutA;rw[if_neg (by have:=uh HC5;omega)];rfl] at this
      exact this
     have h0i:(j:Int) > 0:=by omega
     have h1k:∀ W7,Bts W7 (some ⟨q,o,none⟩) c5 B5→∀ i v,((B5.drop 1).map bv)[i]? = some v→W7.cell? ((⟨q,o+1,none⟩:Addr).add i)=some v:=fun W7 hb7 i v hv=>by
      have:=(hb7.drop 1 (by omega)).news
      rw[show cutA (some ⟨q,o,none⟩) c5 1=some ⟨q,o+1,none⟩ by unfold cutA;rw[if_neg (by have:=uh HC5;omega)];rfl] at this
      exact this _ rfl i v hv
     obtain ⟨HK1,HSL⟩:=zh2 h1k hsl1
     have HBD:=hide (show ((B5.drop 1).map bv).length=255*1 by rw[List.length_map,List.length_drop,hB5l])
     clear hsl1 h1k hB5l
     have hsl2:=uh HSL
     go_wp2_with (first
      | (rw[← uh HW6])
      | (obtain ⟨i0,hi0,hz0,hz1,hz2⟩:=info_parts zen;refine wpList_append_lies _ rfl _ _ 126 rfl W4.heap.size 53 i0 (.slice none 0 0) 1 24 Tryz.underlying126 hi0 hz0 hz1 hz2 rfl (by decide) u13 A.length Vs rfl (uh HH1) ⟨w5.heap.size,0,none⟩ 1 1 [.slice (some ⟨q,o,none⟩) 256 c5] rfl rfl (by rw[uh HW6];exact cell_one_new _ _ _) (by simp[Value.oneCell']) (by decide) (by have:=uh HAL;have:=(uh HNB).1;unfold maxLen;omega) (by have:=uh HAL;have:=(uh HNB).1;omega) (uh HS6) W6.heap.size rfl ?_;clear i0 hi0 hz0 hz1 hz2;intro g7 k7 w7 ho7 gr7 hg7 hl7;obtain ⟨hI7,hb7,hs7⟩:=uh HFS g7 k7 w7 ho7 gr7 hg7;have HI7:=hide hI7;have HB7:=hide hb7;have HS7:=hide hs7;clear ho7 gr7 hg7 hl7 hI7 hb7 hs7)
      | (obtain ⟨i0,hi0,hz0,hz1,hz2⟩:=info_parts zb5;refine wpList_append_lies _ rfl _ _ 53 rfl W4.heap.size 5 i0 (.int .u8 0) 1 1 Tryz.underlying53 hi0 hz0 hz1 hz2 rfl (by decide) u14 T.length (T.map bv) rfl (uh HI7).txt ⟨q,o+1,none⟩ 255 (c5 - 1) ((B5.drop 1).map bv) rfl (uh HBD) (uh HK1 _ (uh HB7)) (zch _) (by decide) (by have:=uh HTL;have:=(uh HNB).1;unfold maxLen;omega) (by have:=uh HTL;have:=(uh HNB).1;omega) (uh HI7).gb.size _ rfl ?_;clear i0 hi0 hz0 hz1 hz2;intro g8 k8 w8 ho8 gr8 hg8 hl8;have hTe:(T++B5.drop 1).length=T.length+255:=(by have:=uh HBL;simp[this]);have HI8:=hide ((uh HI7).tex (T':=T++B5.drop 1) (by rw[hTe,List.map_append];exact ho8) gr8 (hg8.imp id (fun e=>Nat.le_of_eq e.symm)));clear hTe;clear ho8 gr8 hg8 hl8))
     go_roundw
     case rel=>exact ⟨j+1,by go_num,by omega,by
      have e1:zc6 S p (j+1)=A++[B5]:=by rw[zhe,uh HAA,uh HB5]
      obtain ⟨j',rfl⟩:∃ k,j=k+1:=⟨j - 1,by omega⟩
      have e2:ze3 S p (j'+1+1 - 1)=T++B5.drop 1:=by rw[show j'+1+1 - 1=j'+1 from rfl,ze4,uh HTT,uh HB5,show p+1+j'=p+(j'+1) by omega];rfl
      rw[e1,e2]
      exact uh HI8⟩
     case measure=>simp[intOf];omega
   ·have hjn:j=n:=by omega
    have hji:¬ (j:Int)<(n:Int):=by omega
    have hI:=uh HI
    rw[hjn] at hI
    obtain ⟨A,hA⟩:∃ A,A=zc6 S p n:=⟨_,rfl⟩
    obtain ⟨T,hT⟩:∃ A,A=ze3 S p (n - 1):=⟨_,rfl⟩
    rw[← hA,← hT] at hI
    have hjz:n=1+secN z:=uh HN
    have hnb:=uh HNB
    have hAl:A.length=n:=by rw[hA];simp[zc6]
    have hTl:T.length=255*secN z:=by rw[hT,hjz,Nat.add_sub_cancel_left];exact zeq (uh HWD) _ (by omega)
    have hzT:z≤T.length:=by rw[hTl];unfold secN;omega
    have hz6:z≤600000:=by unfold secN at hjz;omega
    have htT:t=T.take z:=by rw[uh HT2,hT,hjz,Nat.add_sub_cancel_left]
    have htl:t.length=z:=by rw[htT,List.length_take];omega
    obtain ⟨gA,cA,hsv,hlA⟩:=hI.lst (by rw[hAl,hjz];omega)
    obtain ⟨-,ta,tc,htv,htb,htf⟩:=zc1 hI.txt
    have htx:Bts wr ta tc t:=by rw[htT];exact htb.take z hzT
    have hztc:z≤tc:=Nat.le_trans hzT htb.fits
    obtain ⟨tl,htl2⟩:∃ n,n=T.length:=⟨_,rfl⟩
    rw[← htl2] at htv
    subst htv hsv
    have hsu:∀ V,(Instr.slice 53 (.slice ta tl tc) none (some (.int .u64 (z:Int))) none).run Tryz.prog V = .ok (.slice ta z tc) V:=fun V=>zmf V 53 5 Tryz.underlying53 za2 ta tl tc z hztc
    obtain ⟨RC,hRC⟩:∃ R,R=rcC G N z (shaL t) (.slice ta z tc):=⟨_,rfl⟩
    have hRl:RC.length=36:=by rw[hRC];exact zbn (zbp t)
    have HRI:=hide (show (Tryz.prog.info? 106).map (·.size)=some RC.toArray.size by simp[hRl,zbj])
    have HRL:=hide (show (Tryz.prog.info? 106).map (·.size)=some RC.length by rw[hRl];exact zbj)
    have HZR:=hide (show Z.toArray.size=RC.toArray.size by simp[hRl,hZl])
    have HRO:=hide (all_oneCell_toArray (show ∀ x∈RC,x.oneCell'=true by rw[hRC];exact zdm _ _ _ _ rfl))
    have HCN:=hide (show ∀ V,wr.grownBy V none→Calls Tryz.prog 57 #[.int .u64 (G:Int),.int .u64 (N:Int),.slice ta z tc] V fun e w'=>e = .returned (.agg RC.toArray)∧V.grownBy w' none from fun V gV=>by
     have:=zg3 V G N ta tc t (htx.kept gV (fun _ e=>by cases e)) ((uh HT).kept0 (tn (tn (uh HG4) hI.gb) gV)) (by omega)
     rw[htl,← hRC] at this
     exact this)
    have hBm:=(uh HB4).kept hI.gb (by simp)
    have HM0:=hide (show wr.cell? ⟨w3.heap.size,0,none⟩=some (.int .u64 (G:Int)) by rw[hBm.cell 0,uh HMM];rfl)
    have HM1:=hide (show wr.cell? ⟨w3.heap.size,1,none⟩=some (.int .u64 (N:Int)) by rw[hBm.cell 1,uh HMM];rfl)
    have HM2:=hide (show wr.cell? ⟨w3.heap.size,2,none⟩=some (.int .u64 (z:Int)) by rw[hBm.cell 2,uh HMM];rfl)
    obtain ⟨HSU,HRC,HIA,HTX,HTF,HLA⟩:=zh6 hsu hRC hI htx htf hlA
    obtain ⟨HAL,HAA,HTL,HZ6⟩:=zh4 hAl hA htl hz6
    clear hjz hjn hnb hAl hTl hzT hz6 htT htl hlA htb htf htx hztc htl2 hsu hRC hRl hBm hA hT hI HI hj hlt
    go_upto_region 18 with fail
    go_cut [18] (fun x9 wx=>∃ q:Nat,x9 = .pointer (some ⟨q,0,none⟩)∧wr.heap.size≤q∧Blk wx q 106 RC∧wr.grownBy wx none)
    case first =>
     have h0:wr.grownBy wr.drew none:=zaa (zac wr none)
     refine wp_region_noPanic ?_
     refine wp_region_held_drew (S:=fun V=>wr.grownBy V none) (by kernel_rfl) h0 (fun _ => ?_)
     refine tq 0 64 (.fieldAddr 104 (.tmp 11) 0) ((.pointer (some ⟨w3.heap.size,0,none⟩))) h0 ?_
     refine tz 1 65 (.load 45 (.tmp 64)) ((.int .u64 (G:Int))) h0 ?_ (y:=(Or.inl ⟨by rfl,fun V hV=>by (have hv1:=hV.cell (uh HM0) (by simp);go_simp)⟩))
     refine tq 2 66 (.fieldAddr 104 (.tmp 11) 1) ((.pointer (some ⟨w3.heap.size,1,none⟩))) h0 ?_
     refine tz 3 67 (.load 45 (.tmp 66)) ((.int .u64 (N:Int))) h0 ?_ (y:=(Or.inl ⟨by rfl,fun V hV=>by (have hv1:=hV.cell (uh HM1) (by simp);go_simp)⟩))
     (try simp only[pq])
     refine tq 4 68 (.move (.tmp 14)) ((.slice ta tl tc)) h0 ?_
     refine tq 5 69 (.fieldAddr 104 (.tmp 11) 2) ((.pointer (some ⟨w3.heap.size,2,none⟩))) h0 ?_
     refine tz 6 70 (.load 45 (.tmp 69)) ((.int .u64 (z:Int))) h0 ?_ (y:=(Or.inl ⟨by rfl,fun V hV=>by (have hv1:=hV.cell (uh HM2) (by simp);go_simp)⟩))
     refine tz 7 71 (.slice 53 (.tmp 68) none (some (.tmp 70)) none) ((.slice ta z tc)) h0 ?_ (y:=(Or.inl ⟨by rfl,fun V hV=>by (have hv0:=uh HSU V;go_simp)⟩))
     (try simp only[pq])
     refine wpAnyH_ready (rs:=[8,9]) (by kernel_rfl) (by simp) ?_
     refine AllReadyH.cons (o:=⟨some 72,.call { callee := .value (.func 57),args := #[(.tmp 65),(.tmp 67),(.tmp 71)],argTypes := #[45,45,53] },_,_,_,_⟩) rfl (fun K9 hK9 => ?_) (AllReadyH.cons (o:=⟨some 18,.alloc 106,_,_,_,_⟩) rfl (fun K9 hK9 => ?_) AllReadyH.nil)
     ·go_simp
      go_at_call 57
      refine (uh HCN _ h0).mono ?_
      rintro e wc ⟨rfl,gc⟩
      have HGC:=hide (tn h0 gc)
      clear gc
      go_wp2_with fail
      refine hK9.out _ _ (uh HGC) (fun _ => ?_)
      clear hK9 K9
      (try simp only[pq])
      refine rdq 9 (some 18) (.alloc 106) (fun K9 hK9 => ?_)
      go_simp
      refine hK9.out _ _ (zaf (uh HGC) _) (fun _ => ?_)
      clear hK9 K9
      (try simp only[pq])
      obtain ⟨Wa,hWa,hBa,gA⟩:=zah wc 106 Z
      rw[← show Wa=wc.alloc (.cells Z.toArray 106) from hWa]
      have hpa:wr.heap.size≤wc.heap.size:=(uh HGC).size
      clear hWa
      refine rdq 10 none (.store 106 (.tmp 18) (.tmp 72)) (fun K9 hK9 => ?_)
      rw[if_pos (by rfl)]
      refine wp_store_row _ _ _ rfl (wc.heap.size) RC.toArray rfl rfl _ _ hBa (uh HRI) (uh HZR) (uh HRO) ?_
      refine hK9.out _ _ (zaj (tn (uh HGC) gA) _ (Or.inl hpa)) (fun _ => ?_)
      clear hK9 K9
      (try simp only[Act.put])
      refine wpAnyH_done (by kernel_rfl) ?_ _
      refine NoPanic.normal ?_
      have HFB:=hide ((hBa).row RC)
      have HFG:=hide (zaj (tn (uh HGC) gA) RC.toArray (Or.inl hpa))
      have HFP:=hide hpa
      go_wp2
      go_meet
      case rel=>exact ⟨_,rfl,uh HFP,uh HFB,uh HFG⟩
     ·go_simp
      refine hK9.out _ _ (zaf h0 _) (fun _ => ?_)
      clear hK9 K9
      (try simp only[pq])
      obtain ⟨Wb,hWb,hBb,gB⟩:=zah wr 106 Z
      rw[← show Wb=wr.alloc (.cells Z.toArray 106) from hWb]
      obtain ⟨Wa,hWa⟩:∃ W,W=Wb.drew:=⟨_,rfl⟩
      rw[← hWa]
      have hBa:Blk Wa wr.heap.size 106 Z:=by rw[hWa];exact hBb.kept (zaa (zac Wb none)) (by simp)
      have gA:wr.grownBy Wa none:=by rw[hWa];exact zaa gB
      have hpa:wr.heap.size≤wr.heap.size:=Nat.le_refl _
      clear hWa hWb hBb gB
      refine rdq 8 (some 72) (.call { callee := .value (.func 57),args := #[(.tmp 65),(.tmp 67),(.tmp 71)],argTypes := #[45,45,53] }) (fun K9 hK9 => ?_)
      go_simp
      go_at_call 57
      refine (uh HCN _ gA).mono ?_
      rintro e wc ⟨rfl,gc⟩
      have HGC:=hide (tn gA gc)
      have HBA:=hide (hBa.kept gc (by simp))
      have HPA:=hide hpa
      clear hBa hpa
      clear gc
      go_wp2_with fail
      refine hK9.out _ _ (uh HGC) (fun _ => ?_)
      clear hK9 K9
      (try simp only[pq])
      refine rdq 10 none (.store 106 (.tmp 18) (.tmp 72)) (fun K9 hK9 => ?_)
      rw[if_pos (by rfl)]
      refine wp_store_row _ _ _ rfl (wr.heap.size) RC.toArray rfl rfl _ _ (uh HBA) (uh HRI) (uh HZR) (uh HRO) ?_
      refine hK9.out _ _ (zaj (uh HGC) _ (Or.inl (uh HPA))) (fun _ => ?_)
      clear hK9 K9
      (try simp only[Act.put])
      refine wpAnyH_done (by kernel_rfl) ?_ _
      refine NoPanic.normal ?_
      have HFB:=hide (((uh HBA)).row RC)
      have HFG:=hide (zaj (uh HGC) RC.toArray (Or.inl (uh HPA)))
      have HFP:=hide (uh HPA)
      go_wp2
      go_meet
      case rel=>exact ⟨_,rfl,uh HFP,uh HFB,uh HFG⟩
    case rest =>
     obtain ⟨q,rfl,hq,hBq,gx⟩:=hcut
     have hG0:=tn (uh HIA).gb gx
     have hbx:=(uh HTX).kept gx (fun _ e=>by cases e)
     have cch:=zl5 wc ta tc t hbx (by have:=uh HTL;have:=uh HZ6;omega)
     rw[uh HTL] at cch
     obtain ⟨okb,hokb⟩:∃ b,b=(mayB (zb9 t) && decide (recB (zb9 t)=t)):=⟨_,rfl⟩
     rw[← hokb] at cch
     have hc35:wc.cell? ⟨q,35,none⟩=some (.slice ta z tc):=by
      rw[hBq.cell 35,uh HRC]
      unfold rcC
      rw[List.getElem?_append_right (by rw[zdl (zbp t)];exact Nat.le_refl _),zdl (zbp t)]
      rfl
     obtain ⟨HOK,HBQ,HGX,HG0,HBX⟩:=zh5 hokb hBq gx hG0 hbx
     clear hq hBq gx hG0 hbx hokb
     go_upto_region 20 with fail
     refine cch.mono ?_
     rintro e w9 ⟨L,lo,lc,rfl,hci,hlc,hf7,hf8,g9⟩
     have hwc:w.heap.size+1≤wc.heap.size:=Nat.le_trans (uh HR4).lt (uh HG0).size
     have hf1:∀ V,w9.grownBy V none→w.grownBy (V.setRow w.heap.size RC.toArray) none∧Blk (V.setRow w.heap.size RC.toArray) w.heap.size 106 RC∧CsI (V.setRow w.heap.size RC.toArray) lo lc L:=fun V gV=>by
      have gW:=tn (tn (uh HG0) g9) gV
      refine ⟨zaj (tn (uh HG4) gW) _ (Or.inl (Nat.le_refl _)),((uh HR4).kept gW (by simp)).row RC,?_⟩
      have hcg:CsG V lo lc L [w.heap.size]:=⟨hci.kept gV,fun ad e _=>by have:=hf7 ad e;simp;omega,fun x hx ad e _=>by have:=hf8 x hx ad e;simp;omega⟩
      exact (hcg.fr (Fr.of (zaj (zac V (some w.heap.size)) RC.toArray (Or.inr rfl)) (fun x e=>by cases e;exact Or.inl (by simp))) (fun _ h=>h)).is
     obtain ⟨HF1,HLC⟩:=zh2 hf1 hlc
     have HF7:=hide (show ∀ ad,lo=some ad→w.heap.size≤ad.block from fun ad e=>by have:=hf7 ad e;omega)
     have HF8:=hide (show ∀ x∈L,∀ ad,x.bo=some ad→w.heap.size≤ad.block from fun x hx ad e=>by have:=hf8 x hx ad e;omega)
     have HG9:=hide g9
     have HGE:=hide (tn (uh HG0) g9)
     have hBr:=zan ((uh HBQ).kept g9 (by simp))
     have hb9:=(uh HBX).kept g9 (fun _ e=>by cases e)
     clear cch hci hlc hf7 hf8 hwc hf1 g9
     cases okb
     case false =>
      have HNR:=hide (show ¬ isR S hi p from fun e=>by
       have h1:=((uh HIR).1 e).2
       have h2:=uh HOK
       rw[h1.1,decide_eq_true h1.2.1] at h2
       cases h2)
      clear hb9 hBr hc35
      go_upto_region 20 with fail
      refine zai fun O hO => ?_
      refine zab (by rw[hO];kernel_rfl) (.bool false) (fun K9 hK9=>by go_simp;exact hK9) ?_
      (try simp only[pq])
      refine zab (by rw[hO];kernel_rfl) (.bool true) (fun K9 hK9=>by go_simp;exact hK9) ?_
      (try simp only[pq])
      refine zab (by rw[hO];kernel_rfl) (.bool true) (fun K9 hK9=>by go_simp;exact hK9) ?_
      (try simp only[pq])
      refine zad (by rw[hO];kernel_rfl) ?_
      (try simp only[pq])
      refine zad (by rw[hO];kernel_rfl) ?_
      (try simp only[pq])
      refine zad (by rw[hO];kernel_rfl) ?_
      (try simp only[pq])
      refine zad (by rw[hO];kernel_rfl) ?_
      (try simp only[pq])
      refine zad (by rw[hO];kernel_rfl) ?_
      (try simp only[pq])
      refine zab (by rw[hO];kernel_rfl) (.bool true) (fun K9 hK9=>by go_simp;exact hK9) ?_
      (try simp only[pq])
      go_wp2_with (first
       | (refine zbf rfl 106 _ rfl Z.toArray ?hb ?_;(case hb=>exact Eq.trans (b:=Tryz.prog.built 106 []) (by kernel_rfl) hbz))
       | (have hB9:=((uh HR4).kept (uh HGE) (by simp));refine wpList_store_row rfl 106 _ _ rfl w.heap.size Z.toArray rfl rfl _ _ hB9 (uh HZI) rfl (uh HZO) ?_;clear hB9))
      obtain ⟨f1,f2⟩:=uh HF0 _ (uh HGE)
      refine bodyPost_ret (zbk rfl _ _ _ _ _ _ _ rfl f2 Tryz.underlying106 rfl (uh HZI)) rfl ?_
      exact ⟨f1,Or.inl ⟨uh HNR,rfl⟩⟩
     case true =>
      have h2:=(Bool.and_eq_true_iff.1 (uh HOK).symm)
      have hrec:recB (zb9 t)=t:=of_decide_eq_true h2.2
      have htp:0<t.length:=by rw[← hrec];unfold recB;rw[List.length_append,zaw];omega
      obtain ⟨b,o,hta⟩:=zh7 hb9 htp
      subst hta
      have cs:=zgi w9 G N (shaL t) (zbp t) b o tc t hb9 htp (by have:=uh HTL;have:=uh HZ6;omega)
      rw[uh HTL,← uh HRC,← uh HTL] at cs
      obtain ⟨Bs,hBs⟩:∃ B,B=za8 (mkB G N t.length (shaL t))::(List.range (secN t.length)).map (secB t):=⟨_,rfl⟩
      rw[← hBs] at cs
      obtain ⟨bl,hbl⟩:∃ n,n=Bs.length:=⟨_,rfl⟩
      have hb0:0<Bs.length:=by rw[hBs];simp
      obtain ⟨eqb,heqb⟩:∃ b,b=decide (A=Bs):=⟨_,rfl⟩
      have hiff:isR S hi p↔A=Bs:=by
       rw[uh HIR]
       constructor
       ·intro e
        rw[uh HAA,hBs,uh HN]
        exact e.2.2.2
       ·intro e
        refine ⟨?_,h2.1,hrec,?_⟩
        ·have:=uh HFIT
         rw[uh HN] at this
         omega
        ·rw[uh HAA,hBs,uh HN] at e
         exact e
      have HNR2:=hide (show eqb=false→¬ isR S hi p from fun e h3=>by rw[heqb,decide_eq_true (hiff.1 h3)] at e;cases e)
      have HYR:=hide (show eqb=true→isR S hi p from fun e=>by rw[heqb] at e;exact hiff.2 (of_decide_eq_true e))
      obtain ⟨al,hal⟩:∃ n,n=A.length:=⟨_,rfl⟩
      have HLB:=hide (show ∀ V v,Sect V w9.heap.size v Bs→∃ gB cB,v = .slice (some ⟨gB,0,none⟩) bl cB∧Lst V (some ⟨gB,0,none⟩) cB Bs from fun V v hs=>by rw[hbl];exact hs.lst hb0 (zac _ _))
      have HCE:=hide (show ∀ V gB cB,w9.grownBy V none→Lst V (some ⟨gB,0,none⟩) cB Bs→Calls Tryz.prog 73 #[.slice (some ⟨gA,0,none⟩) al cA,.slice (some ⟨gB,0,none⟩) bl cB,.func (.func 75) #[] #[]] V fun e w'=>e = .returned (.bool eqb)∧w'=V from fun V gB cB gV hB=>by
       have:=zl4 V (some ⟨gA,0,none⟩) (some ⟨gB,0,none⟩) cA cB A Bs ((uh HLA).below (zdp (tn (tn (uh HGX) (uh HG9)) gV))) hB (by have:=uh HAL;have:=(uh HNB).1;omega)
       rw[← hal,← hbl,← heqb] at this
       exact this)
      have HWA:=hide (show A.length=al from hal.symm)
      rw[← hal]
      clear h2 hrec htp hb9 hBs hbl hb0 heqb hiff hal hc35
      go_upto_region 20 with fail
      refine zai fun O hO => ?_
      refine zab (by rw[hO];kernel_rfl) (.bool true) (fun K9 hK9=>by go_simp;exact hK9) ?_
      (try simp only[pq])
      refine zab (by rw[hO];kernel_rfl) (.bool false) (fun K9 hK9=>by go_simp;exact hK9) ?_
      (try simp only[pq])
      refine zab (by rw[hO];kernel_rfl) (.bool false) (fun K9 hK9=>by go_simp;exact hK9) ?_
      (try simp only[pq])
      refine zab (by rw[hO];kernel_rfl) (.slice (some ⟨gA,0,none⟩) al cA) (fun K9 hK9=>by go_simp;exact hK9) ?_
      (try simp only[pq])
      refine zat (by rw[hO];kernel_rfl) fun K9 hK9 => ?_
      refine wp_load_mid _ _ rfl q 0 rfl RC _ hBr Tryz.underlying106 rfl (uh HRL) ?_
      refine hK9 _ _ ?_
      clear hK9 K9
      (try simp only[pq])
      refine zat (by rw[hO];kernel_rfl) fun K9 hK9 => ?_
      go_simp
      go_at_call 74
      refine (cs).mono ?_
      rintro e wS ⟨vS,rfl,hsS,gS⟩
      have HSS2:=hide hsS
      have HGE:=hide (tn (uh HGE) gS)
      have HGS:=hide gS
      clear cs hsS gS
      refine hK9 _ _ ?_
      clear hK9 K9
      (try simp only[pq])
      obtain ⟨gB,cB,hvB,hlB⟩:=uh HLB _ _ (uh HSS2)
      subst hvB
      refine zat (by rw[hO];kernel_rfl) fun K9 hK9 => ?_
      go_simp
      go_at_call 73
      refine (uh HCE _ _ _ (uh HGS) hlB).mono ?_
      rintro e wE ⟨rfl,hwE⟩
      have hwE2:=hwE.symm
      clear hwE
      subst hwE2
      clear hlB
      refine hK9 _ _ ?_
      clear hK9 K9
      (try simp only[pq])
      cases eqb
      ·refine zab (by rw[hO];kernel_rfl) (.bool true) (fun K9 hK9=>by go_simp;exact hK9) ?_
       (try simp only[pq])
       refine zab (by rw[hO];kernel_rfl) (.bool true) (fun K9 hK9=>by go_simp;exact hK9) ?_
       (try simp only[pq])
       go_wp2_with (first
        | (refine zbf rfl 106 _ rfl Z.toArray ?hb ?_;(case hb=>exact Eq.trans (b:=Tryz.prog.built 106 []) (by kernel_rfl) hbz))
        | (have hB9:=((uh HR4).kept (uh HGE) (by simp));refine wpList_store_row rfl 106 _ _ rfl w.heap.size Z.toArray rfl rfl _ _ hB9 (uh HZI) rfl (uh HZO) ?_;clear hB9))
       obtain ⟨f1,f2⟩:=uh HF0 _ (uh HGE)
       refine bodyPost_ret (zbk rfl _ _ _ _ _ _ _ rfl f2 Tryz.underlying106 rfl (uh HZI)) rfl ?_
       exact ⟨f1,Or.inl ⟨uh HNR2 (by simp),rfl⟩⟩
      ·refine zab (by rw[hO];kernel_rfl) (.bool false) (fun K9 hK9=>by go_simp;exact hK9) ?_
       (try simp only[pq])
       refine zab (by rw[hO];kernel_rfl) (.bool false) (fun K9 hK9=>by go_simp;exact hK9) ?_
       (try simp only[pq])
       have hBr2:=zan ((uh HBQ).kept (tn (uh HG9) (uh HGS)) (by simp))
       go_wp2_with (first
        | (refine wpList_load_mid rfl 106 _ rfl q 0 rfl RC _ hBr2 Tryz.underlying106 rfl (uh HRL) ?_;clear hBr2)
        | (have hB9:=((uh HR4).kept (uh HGE) (by simp));refine wpList_store_row rfl 106 _ _ rfl w.heap.size RC.toArray rfl rfl _ _ hB9 (uh HRI) (uh HZR) (uh HRO) ?_;clear hB9))
       obtain ⟨f1,f2,f3⟩:=uh HF1 _ (uh HGS)
       refine bodyPost_ret (zbk rfl _ _ _ _ _ _ _ rfl f2 Tryz.underlying106 rfl (uh HRI)) rfl ?_
       exact ⟨f1,Or.inr ⟨uh HYR (by simp),L,lo,lc,⟨some ⟨b,o,none⟩,tc,by rw[uh HRC];rfl⟩,f3,uh HLC,uh HF7,uh HF8⟩⟩
 ·have hgt:(n:Int) > (hi:Int) - (p:Int):=by omega
  have HNR:=hide (show ¬ isR S hi p from fun e=>hfit (by rw[uh HN,← Nat.add_assoc];exact ((uh HIR).1 e).1))
  clear hfit
  go_wp2_with (first
   | (refine wpList_store_row rfl 104 _ _ rfl w3.heap.size M.toArray rfl rfl _ _ (heap_alloc_new _ _) (by simpa using uh HMI) (uh HMY) (uh HMO) ?_;rw[← uh HW4])
   | (go_at_call 61;refine cs.mono ?_;rintro e w5 ⟨rfl,hw5⟩;have hw6:=hw5.symm;clear hw5;subst hw6;clear cs)
   | (refine zbf rfl 106 _ rfl Z.toArray ?hb ?_;(case hb=>exact Eq.trans (b:=Tryz.prog.built 106 []) (by kernel_rfl) hbz))
   | (have hB9:=uh HR4;refine wpList_store_row rfl 106 _ _ rfl w.heap.size Z.toArray rfl rfl _ _ hB9 (uh HZI) rfl (uh HZO) ?_;clear hB9))
  obtain ⟨f1,f2⟩:=uh HF0 W4 (zac _ _)
  refine bodyPost_ret (zbk rfl _ _ _ _ _ _ _ rfl f2 Tryz.underlying106 rfl (uh HZI)) rfl ?_
  exact ⟨f1,Or.inl ⟨uh HNR,rfl⟩⟩
end Go.Proofs.YtoilcpdhhlcidaaGreatDoor
