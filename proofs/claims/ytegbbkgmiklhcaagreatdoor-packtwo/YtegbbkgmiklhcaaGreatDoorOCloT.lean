/- Lemmas. -/
import Derived.Test.YtegbbkgmiklhcaaGreatDoorOChg
import Derived.Test.YtegbbkgmiklhcaaGreatDoorORdP
namespace Go.Proofs.YtegbbkgmiklhcaaGreatDoor
open Go.RowKit
set_option maxRecDepth 100000
theorem zl2 (ps:List (List UInt8)) (j:Nat) (hj:j<ps.length):zhe ps j = !((ps.take j).contains ps[j]):=by
 unfold zhe
 rw[show ps.getD j []=ps[j] by simp[hj]]
theorem Made.laid {w w2:World} {K:Int} {r:Int × List UInt8} {v2:Value} {x:Int} {b:Nat} {cs:List Value} {t:TypeId} (hB:Blk w2 b t cs) (ht:t≠5) (hb:w.heap.size≤b) (hx:x=r.1) (hN:NewB w w2 v2 r.2) (g:w.grownBy w2 none) :
  Made w (w2.setRow b #[.int .i64 (if r.1=0 then K else 0),v2]) K r (.returned (.tuple #[.agg #[.int .i64 (if r.1=0 then K else 0),v2],.int .i64 x])):=by
 subst hx
 refine ⟨v2,rfl,?_,zaq g _ (Or.inl hb)⟩
 obtain ⟨ao2,c2,e1,e2,e3⟩:=hN
 refine ⟨ao2,c2,e1,e2.kept (zaq (zab _ _) _ (Or.inr rfl)) ?_,fun ad e=>⟨(e3 ad e).1,(e3 ad e).2.kept (zaq (zab _ _) _ (Or.inr rfl)) ?_⟩⟩
 ·intro x e ad e2 e4
  cases e
  exact hB.typ ht (e4 ▸ (e3 ad e2).2)
 ·intro e4
  have e5:=Option.some.inj e4
  exact hB.typ ht (e5 ▸ (e3 ad e).2)
set_option maxHeartbeats 4000000 in
theorem zl3 (w:World) (c:ChgL) (po:Option Addr) (pc:Nat) (hP:Ids w po pc c.pars) (ht:c.tree.length=32) (ha:c.author.length≤1000000) (hx:c.text.length≤1000000) (hn4:c.pars.length≤1000) :
  Calls Tryz.prog 121 #[.agg (chC c po pc).toArray] w fun e w'=>Made w w' 3 (zc6 c) e:=by
 have hat:=(zjb c po pc ht).1
 have hCl:=zgn c po pc ht
 obtain ⟨C,hC⟩:∃ C,C=chC c po pc:=⟨_,rfl⟩
 rw[← hC] at hat hCl ⊢
 obtain ⟨W0,hW0,hB0,g0⟩:=zah w 156 C
 have hW1:∃ W1,W1=W0.alloc (.cells #[.int .i64 0,.slice none 0 0] 42)∧Blk W1 (w.heap.size+1) 42 [.int .i64 0,.slice none 0 0]∧W0.grownBy W1 none:=by
  refine ⟨_,rfl,?_,zai (zab _ _) _⟩
  have hsz:W0.heap.size=w.heap.size+1:=by rw[hW0];simp
  rw[← hsz]
  exact Blk.new W0 _ _
 obtain ⟨W1,hW1,hB1,g1⟩:=hW1
 have hBC:=hB0.kept g1 (by simp)
 have G1:=tn g0 g1
 have hcp:W1.cell? ⟨w.heap.size,32,none⟩=some (.slice po c.pars.length pc):=by rw[hBC.cell 32,hat]
 have hW:W1=(w.alloc (.cells C.toArray 156)).alloc (.cells #[.int .i64 0,.slice none 0 0] 42):=by rw[hW1,hW0]
 have HW:=hide hW
 clear hW1 hW0 g1 g0 hB0 hat hW
 by_cases hn:4<c.pars.length
 ·have hr:zc6 c=(3,[]):=by simp[zc6,hn]
  obtain ⟨n,hln⟩:∃ n,n=c.pars.length:=⟨_,rfl⟩
  have hn2:(4:Int)<(n:Int):=by omega
  rw[← hln] at hcp
  have HR:=hide hr
  have hf0:=hB1.fz 0
  have hf1:=hB1.fz 1
  have hd0:=hB1.cell 0
  have hd1:=hB1.cell 1
  simp only[List.getElem?_cons_zero,List.getElem?_cons_succ] at hd0 hd1
  clear hln hn hP ha hx ht hC hn4 hr hBC hCl
  go_enter Tryz.func121,Tryz.ntmps121
  go_wp2_with (rw[← uh HW])
  refine bodyPost_ret (zag rfl _ _ _ _ _ _ _ rfl ((hB1.set 0 (.int .i64 0)).set 1 (.slice none 0 0)) Tryz.underlying42 rfl zam) rfl ?_
  exact Made.bad 3 (uh HR) (by decide) (zae (zae G1 _ _ (Or.inl (Nat.le_succ _))) _ _ (Or.inl (Nat.le_succ _)))
 ·obtain ⟨Z,hZ,hzv⟩:=zc8
  obtain ⟨ps,hps⟩:∃ ps,ps=c.pars:=⟨_,rfl⟩
  have hnn:¬ 4<c.pars.length:=hn
  rw[← hps] at hcp hP hn4 hn
  obtain ⟨n,hln⟩:∃ n,n=ps.length:=⟨_,rfl⟩
  have hn2:¬ (4:Int)<(n:Int):=by omega
  have hn3:n≤4:=by omega
  rw[← hln] at hcp
  have HE:=hide (hP.none G1)
  obtain ⟨HL,HZ,HN,HPS,HB1,HBC⟩:=zh6 hln hZ hnn hps hB1 hBC
  obtain ⟨HG1,HC,HCL,HT,HA,HX⟩:=zh6 G1 hC hCl ht ha hx
  have HP:=hide hP
  clear hP hln hn hZ hnn hps hB1 hBC G1 hC hCl ht ha hx hn4
  go_enter Tryz.func121,Tryz.ntmps121
  go_wp2_with (rw[← uh HW])
  go_loopw [14] (fun i wr=>∃ j:Nat,i = .int .i64 j∧j≤n∧Hid (zel ps j=true)∧W1.grownBy wr none) (fun i _=>n - (intOf i).toNat)
  case atStart=>exact ⟨0,rfl,Nat.zero_le _,rfl,by rw[uh HW];exact zab _ _⟩
  case round =>
   obtain ⟨j,rfl,hj,HG,hg⟩:=hrel
   by_cases hlt:j<n
   ·have hlt' : j<ps.length:=by have:=uh HL;omega
    obtain ⟨b,o,hao,hrow⟩:=(uh HE).at j hlt'
    have hr:=zad (hrow j hlt') hg (by simp)
    have hid:=(uh HE).ids _ (List.getElem_mem hlt')
    have hgd:=zl2 ps j hlt'
    obtain ⟨E,hEE⟩:∃ E,E=ps[j]:=⟨_,rfl⟩
    rw[← hEE] at hgd hr hid
    obtain ⟨EC,hEC⟩:∃ L,L=E.map bv:=⟨_,rfl⟩
    have hEl:EC.length=32:=by rw[hEC,List.length_map,hid]
    have hEo:EC.toArray.all (·.oneCell')=true:=by rw[hEC];exact all_oneCell_toArray (zaw _)
    obtain ⟨W,hW,hB,gW⟩:=zbg wr 47 Z EC
    rw[← hEC] at hr
    have hG:=tn hg gW
    have hcW:=hG.cell hcp (by simp)
    have hsl:∀ V:World,(Instr.slice 59 (.slice po n pc) none (some (.int .i64 (j:Int))) none).run Tryz.prog V = .ok (.slice po j pc) V:=fun V=>zik V po n pc j (by have:=(uh HE).fits;have:=uh HL;omega)
    have hrX:=zal hB
    have cc:∀ V,W.grownBy V none→Calls Tryz.prog 139 #[.slice po j pc,.agg EC.toArray] V fun e w'=>e = .returned (.bool ((ps.take j).contains E))∧V.grownBy w' none:=fun V gV=>by
     have h1:=zgz V po pc (ps.take j) ((((uh HE).none hG).none gV).take j (by omega)) E hid (by rw[List.length_take];omega)
     rw[← hEC,List.length_take,Nat.min_eq_left (by omega)] at h1
     exact h1
    obtain ⟨HW9,HEO,HHG⟩:=zh3 hW hEo hG
    have hiE:(Tryz.prog.info? 47).map (·.size)=some EC.length:=by rw[hEl];exact zax
    have HIE:=hide hiE
    have hZE:Z.size=EC.toArray.size:=by rw[uh HZ];simp[hEl]
    have HZE:=hide hZE
    have h0:W.grownBy W.drew none:=zas (zab _ _)
    obtain ⟨B,hBB⟩:∃ B,B=(ps.take j).contains E:=⟨_,rfl⟩
    rw[← hBB] at cc hgd
    have HGD:=hide hgd
    clear hW hEo hG hB hEC hEl hid hiE hZE hgd gW hg hrow hEE hlt' hBB
    subst hao
    go_upto_region 6 with (first
     | (refine wpList_load_mid rfl 47 _ rfl b (o+j*32) rfl EC _ hr Tryz.underlying47 rfl (uh HIE) ?_;clear hr)
     | (refine wpList_store_row rfl 47 _ _ rfl wr.heap.size EC.toArray rfl rfl _ _ (heap_alloc_new _ _) (by simpa using uh HIE) (uh HZE) (uh HEO) ?_;rw[← uh HW9]))
    cases B
    ·have hgt:zel ps (j+1)=true:=by rw[zib,uh HG,uh HGD];rfl
     have HGT:=hide hgt
     clear hgt HGD HG
     refine wp_region_noPanic ?_
     refine wp_region_held_drew (S:=fun V=>W.grownBy V none) (by kernel_rfl) h0 (fun _ => ?_)
     refine tq 0 19 (.fieldAddr 156 (.tmp 1) 1) (.pointer (some ⟨w.heap.size,32,none⟩)) h0 ?_
     refine tz 1 20 (.load 59 (.tmp 19)) (.slice (some ⟨b,o,none⟩) n pc) h0 ?_ (y:=(Or.inl ⟨by rfl,fun V hV=>by (have q9:=hV.cell hcW (by simp);go_simp)⟩))
     refine tq 2 21 (.move (.tmp 4)) (.int .i64 (j:Int)) h0 ?_
     refine tz 3 22 (.slice 59 (.tmp 20) none (some (.tmp 21)) none) (.slice (some ⟨b,o,none⟩) j pc) h0 ?_ (y:=(Or.inl ⟨by rfl,fun V hV=>by (have q9:=hsl V;go_simp)⟩))
     (try simp only[pq])
     refine tz 4 23 (.load 47 (.tmp 5)) (.agg EC.toArray) h0 ?_ (y:=(yieldsIf_load_mid (by rfl) _ _ rfl _ _ rfl EC _ (fun V hV=>zad hrX hV (by simp)) Tryz.underlying47 rfl (uh HIE)))
     (try simp only[pq])
     refine rdq 5 (some 24) (.call { callee := .value (.func 139),args := #[(.tmp 22),(.tmp 23)],argTypes := #[59,47] }) (fun K9 hK9 => ?_)
     go_simp
     go_at_call 139
     refine (cc _ h0).mono ?_
     rintro e w2 ⟨rfl,g2a⟩
     have g2:=tn h0 g2a
     clear g2a
     go_wp2_with fail
     refine hK9.out _ _ g2 (fun _ => ?_)
     clear hK9 K9
     (try simp only[pq])
     refine wpAnyH_done (by kernel_rfl) ?_ _
     refine NoPanic.normal ?_
     go_wp2
     go_roundw
     case rel=>exact ⟨j+1,by go_num,by omega,HGT,tn (uh HHG) g2⟩
     case measure=>simp[intOf];omega
    ·have hgf:zhe ps j=false:=by rw[uh HGD];rfl
     have hres:zc6 c=(2,[]):=by
      have h1:zel ps ps.length=false:=zic (by have:=uh HL;omega) hgf
      rw[uh HPS] at h1
      simp[zc6,uh HN,h1]
     have HRS:=hide hres
     clear hgf hres HGD HG
     refine wp_region_noPanic ?_
     refine wp_region_held_drew (S:=fun V=>W.grownBy V none) (by kernel_rfl) h0 (fun _ => ?_)
     refine tq 0 19 (.fieldAddr 156 (.tmp 1) 1) (.pointer (some ⟨w.heap.size,32,none⟩)) h0 ?_
     refine tz 1 20 (.load 59 (.tmp 19)) (.slice (some ⟨b,o,none⟩) n pc) h0 ?_ (y:=(Or.inl ⟨by rfl,fun V hV=>by (have q9:=hV.cell hcW (by simp);go_simp)⟩))
     refine tq 2 21 (.move (.tmp 4)) (.int .i64 (j:Int)) h0 ?_
     refine tz 3 22 (.slice 59 (.tmp 20) none (some (.tmp 21)) none) (.slice (some ⟨b,o,none⟩) j pc) h0 ?_ (y:=(Or.inl ⟨by rfl,fun V hV=>by (have q9:=hsl V;go_simp)⟩))
     (try simp only[pq])
     refine tz 4 23 (.load 47 (.tmp 5)) (.agg EC.toArray) h0 ?_ (y:=(yieldsIf_load_mid (by rfl) _ _ rfl _ _ rfl EC _ (fun V hV=>zad hrX hV (by simp)) Tryz.underlying47 rfl (uh HIE)))
     (try simp only[pq])
     refine rdq 5 (some 24) (.call { callee := .value (.func 139),args := #[(.tmp 22),(.tmp 23)],argTypes := #[59,47] }) (fun K9 hK9 => ?_)
     go_simp
     go_at_call 139
     refine (cc _ h0).mono ?_
     rintro e w2 ⟨rfl,g2a⟩
     have g2:=tn h0 g2a
     clear g2a
     go_wp2_with fail
     refine hK9.out _ _ g2 (fun _ => ?_)
     clear hK9 K9
     (try simp only[pq])
     refine wpAnyH_done (by kernel_rfl) ?_ _
     refine NoPanic.normal ?_
     have gF:=tn (uh HHG) g2
     have hBr:=(uh HB1).kept gF (by simp)
     have hf0:=hBr.fz 0
     have hf1:=hBr.fz 1
     have hd0:=hBr.cell 0
     have hd1:=hBr.cell 1
     simp only[List.getElem?_cons_zero,List.getElem?_cons_succ] at hd0 hd1
     go_wp2
     refine bodyPost_ret (zag rfl _ _ _ _ _ _ _ rfl ((hBr.set 0 (.int .i64 0)).set 1 (.slice none 0 0)) Tryz.underlying42 rfl zam) rfl ?_
     exact Made.bad 3 (uh HRS) (by decide) (zae (zae (tn (uh HG1) gF) _ _ (Or.inl (Nat.le_succ _))) _ _ (Or.inl (Nat.le_succ _)))
   ·have hjn:j=ps.length:=by have:=uh HL;omega
    have hres:zc6 c=fitB (chgB c):=by
     have h1:zel ps ps.length=true:=by rw[← hjn];exact uh HG
     rw[uh HPS] at h1
     simp[zc6,uh HN,h1]
    have hrC:=zad (zal (uh HBC)) hg (by simp)
    have G:=tn (uh HG1) hg
    have hP2:Ids wr po pc c.pars:=by rw[← uh HPS];exact (uh HP).none G
    have cl:=zke wr c po pc hP2 (uh HT) (by have:=uh HN;omega) (uh HA) (uh HX)
    rw[← uh HC] at cl
    have hiC:(Tryz.prog.info? 156).map (·.size)=some C.length:=by rw[uh HCL];exact zbs
    obtain ⟨HIC,HRS⟩:=zh2 hiC hres
    clear hjn hres HG hP2 hiC
    go_wp2_with (refine wpList_load_mid rfl 156 _ rfl w.heap.size 0 rfl C _ hrC Tryz.underlying156 rfl (uh HIC) ?_;clear hrC)
    refine cl.mono ?_
    rintro e w1 ⟨v1,rfl,hN1,g1⟩
    have hBr:=((uh HB1).kept hg (by simp)).kept g1 (by simp)
    have cm:=zgx w w1 3 v1 (chgB c) (NewB.later hN1 G.size) (tn G g1)
    obtain ⟨r,hr⟩:∃ r,r=fitB (chgB c):=⟨_,rfl⟩
    rw[← hr] at cm
    have HRR:=hide hr
    clear cl hN1 g1 hr
    go_wp2_with fail
    refine cm.mono ?_
    rintro e w2 ⟨v2,x,rfl,hx,hN2,h1c,g2,gm⟩
    have hB2:=hBr.kept gm (by simp)
    have hrr:zc6 c=r:=by rw[uh HRS,uh HRR]
    have hfin:=Made.laid (K:=3) hB2 (by decide) (Nat.le_succ _) hx hN2 g2
    obtain ⟨K,hK⟩:∃ K:Int,K=(if r.1=0 then 3 else 0):=⟨_,rfl⟩
    rw[← hK] at hfin ⊢
    obtain ⟨HF,HRX⟩:=zh2 hfin hrr
    clear cm hK hx hBr hfin hrr
    go_wp2_with (refine wpList_store_row rfl 42 _ _ rfl (w.heap.size+1) #[.int .i64 K,v2] rfl rfl _ _ hB2 zam rfl (zdo h1c) ?_)
    refine bodyPost_ret (zag rfl _ _ _ _ _ _ _ rfl (hB2.row [.int .i64 K,v2]) Tryz.underlying42 rfl zam) rfl ?_
    rw[uh HRX]
    exact uh HF
set_option maxHeartbeats 4000000 in
theorem zl4 (w:World) (m:MrkL) (ht:m.target.length=32) (ha:m.name.length≤100000) (hx:m.text.length≤1000000) :
  Calls Tryz.prog 123 #[.agg (mkC m).toArray] w fun e w'=>Made w w' 4 (zdn m) e:=by
 obtain ⟨q1,q2⟩:=zqi m ht
 obtain ⟨C,hC⟩:∃ C,C=mkC m:=⟨_,rfl⟩
 rw[← hC] at q1 q2 ⊢
 obtain ⟨W0,hW0,hB0,g0⟩:=zah w 160 C
 have hW1:∃ W1,W1=W0.alloc (.cells #[.int .i64 0,.slice none 0 0] 42)∧Blk W1 (w.heap.size+1) 42 [.int .i64 0,.slice none 0 0]∧W0.grownBy W1 none:=by
  refine ⟨_,rfl,?_,zai (zab _ _) _⟩
  have hsz:W0.heap.size=w.heap.size+1:=by rw[hW0];simp
  rw[← hsz]
  exact Blk.new W0 _ _
 obtain ⟨W1,hW1,hB1,g1⟩:=hW1
 have hBC:=hB0.kept g1 (by simp)
 have G1:=tn g0 g1
 have c1:W1.cell? ⟨w.heap.size,32,none⟩=some (.string (str m.name)):=by rw[hBC.cell 32,q1]
 have c2:W1.cell? ⟨w.heap.size,33,none⟩=some (.string (str m.text)):=by rw[hBC.cell 33,q2]
 have hW:W1=(w.alloc (.cells C.toArray 160)).alloc (.cells #[.int .i64 0,.slice none 0 0] 42):=by rw[hW1,hW0]
 have hrT:W1.rangeAt w.heap.size 0 (m.target.map bv):=by
  have:=zal hBC
  rw[hC] at this
  exact zhg this
 have ck:=znu W1 m.name ha
 have hiT:(Tryz.prog.info? 47).map (·.size)=some (m.target.map bv).length:=by rw[List.length_map,ht];exact zax
 have hbt:=zkc m.target (str m.name) (str m.text) ht
 have cl:∀ V,Calls Tryz.prog 140 #[.int .i64 4,.agg (m.target.map bv++([.slice none 0 0,.int .u64 0,.string (str m.name),.string (str m.text)]:List Value)).toArray] V fun e w'=>∃ v,e = .returned v∧NewB V w' v (mrkB m)∧V.grownBy w' none:=fun V=>zkf V m ht (by omega) hx
 obtain ⟨T,hT⟩:∃ T,T=m.target.map bv:=⟨_,rfl⟩
 obtain ⟨N,hN⟩:∃ N,N=str m.name:=⟨_,rfl⟩
 obtain ⟨X,hX⟩:∃ N,N=str m.text:=⟨_,rfl⟩
 rw[← hN] at c1 ck hbt cl
 rw[← hX] at c2 hbt cl
 rw[← hT] at hrT hiT hbt cl
 obtain ⟨CC,hCC⟩:∃ CC,CC=(T++([.slice none 0 0,.int .u64 0,.string N,.string X]:List Value)).toArray:=⟨_,rfl⟩
 rw[← hCC] at hbt cl
 obtain ⟨k,hk⟩:∃ k,k=zgm m.name:=⟨_,rfl⟩
 rw[← hk] at ck
 obtain ⟨HW,HI,HBT,HG1,HCL⟩:=zh5 hW hiT hbt G1 cl
 clear hW1 hW0 g1 g0 hB0 q1 q2 hW hC hT hN hX hCC hBC hiT hbt G1 ht ha hx cl
 by_cases h2:k=2
 ·have hres:zdn m=fitB (mrkB m):=by simp[zdn,← hk,h2]
  subst h2
  obtain ⟨HRS,HB1⟩:=zh2 hres hB1
  clear hres hk hB1
  go_enter Tryz.func123,Tryz.ntmps123
  go_wp2_with (rw[← uh HW])
  refine ck.mono ?_
  rintro e w2 ⟨rfl,g2⟩
  have d1:=g2.cell c1 (by simp)
  have d2:=g2.cell c2 (by simp)
  have hr2:=zad hrT g2 (by simp)
  have cl:=uh HCL w2
  clear ck c1 c2 hrT HCL
  go_wp2_with (first
   | (refine wpList_load_mid rfl 47 _ rfl w.heap.size 0 rfl T _ hr2 Tryz.underlying47 rfl (uh HI) ?_;clear hr2)
   | (refine za3 rfl 156 _ rfl CC ?hbs ?_))
  case hbs=>simpa using uh HBT
  refine cl.mono ?_
  rintro e w3 ⟨v3,rfl,hN3,g3⟩
  have G:=tn (uh HG1) g2
  have hBr:=((uh HB1).kept g2 (by simp)).kept g3 (by simp)
  have cm:=zgx w w3 4 v3 (mrkB m) (NewB.later hN3 G.size) (tn G g3)
  obtain ⟨r,hr⟩:∃ r,r=fitB (mrkB m):=⟨_,rfl⟩
  rw[← hr] at cm
  have HRR:=hide hr
  clear cl hN3 g3 hr d1 d2
  go_wp2_with fail
  refine cm.mono ?_
  rintro e w4 ⟨v4,x,rfl,hx,hN4,h1c,g4,gm⟩
  have hB2:=hBr.kept gm (by simp)
  have hrr:zdn m=r:=by rw[uh HRS,uh HRR]
  have hfin:=Made.laid (K:=4) hB2 (by decide) (Nat.le_succ _) hx hN4 g4
  obtain ⟨K,hK⟩:∃ K:Int,K=(if r.1=0 then 4 else 0):=⟨_,rfl⟩
  rw[← hK] at hfin ⊢
  obtain ⟨HF,HRX⟩:=zh2 hfin hrr
  clear cm hK hx hBr hfin hrr
  go_wp2_with (refine wpList_store_row rfl 42 _ _ rfl (w.heap.size+1) #[.int .i64 K,v4] rfl rfl _ _ hB2 zam rfl (zdo h1c) ?_)
  refine bodyPost_ret (zag rfl _ _ _ _ _ _ _ rfl (hB2.row [.int .i64 K,v4]) Tryz.underlying42 rfl zam) rfl ?_
  rw[uh HRX]
  exact uh HF
 ·have hres:zdn m=(2,[]):=by simp[zdn,← hk,h2]
  have hk2:(k == 2)=false:=by simpa using h2
  have HRS:=hide hres
  clear hres hk
  go_enter Tryz.func123,Tryz.ntmps123
  go_wp2_with (rw[← uh HW])
  refine ck.mono ?_
  rintro e w2 ⟨rfl,g2⟩
  have hBr:=hB1.kept g2 (by simp)
  have hf0:=hBr.fz 0
  have hf1:=hBr.fz 1
  have hd0:=hBr.cell 0
  have hd1:=hBr.cell 1
  simp only[List.getElem?_cons_zero,List.getElem?_cons_succ] at hd0 hd1
  clear ck c1 c2 hrT
  go_wp2
  refine bodyPost_ret (zag rfl _ _ _ _ _ _ _ rfl ((hBr.set 0 (.int .i64 0)).set 1 (.slice none 0 0)) Tryz.underlying42 rfl zam) rfl ?_
  exact Made.bad 4 (uh HRS) (by decide) (zae (zae (tn (uh HG1) g2) _ _ (Or.inl (Nat.le_succ _))) _ _ (Or.inl (Nat.le_succ _)))
def zko (u w' : World) (K:Int) (r:Int × List UInt8) (R:World→Prop) (e:Ending):Prop :=
 ∃ v,e = .returned (.tuple #[.agg #[.int .i64 (if r.1=0 then K else 0),v],.int .i64 r.1])∧(∃ a' c',v = .slice a' r.2.length c'∧Bts w' a' c' r.2)∧R w'∧u.grownBy w' none
def zl5 (u:World) (vb:Nat) (es:List EntL) (w:World):Prop:=∃ v,Blk w vb 150 [v]∧w.ownsRow u.heap.size 154 34 v es.length (es.flatMap enC)
theorem zl5.none {u:World} {vb:Nat} {es:List EntL} {a b:World} (h:zl5 u vb es a) (g:a.grownBy b none):zl5 u vb es b:=by
 obtain ⟨v,h1,h2⟩:=h
 exact ⟨v,h1.kept g (by simp),zbh h2 g (fun x e=>by cases e)⟩
theorem zil (d:List UInt8):∀ e∈zb6 d,e.name.length≤d.length:=by
 intro e he
 exact Nat.le_trans (zkd _ _ e he) (zbc _ _ _)
theorem zhk (d:List UInt8):∀ e∈zb6 d,e.id.length=32:=fun e he=>znk _ _ e he
set_option maxHeartbeats 2000000 in
theorem znv (u w:World) (rb vb:Nat) (d:List UInt8) (hl:d.length≤1000000) (old:Value) (gu:u.grownBy w none) (hv:u.heap.size≤vb) (hr:u.heap.size≤rb) (hne:rb≠vb) (hR:Rd w rb d 0) (hB:Blk w vb 150 [old]) (bk:Nat) (bc:List Value) (hbk:Blk w bk 42 bc) (hkr:bk≠rb) (hkv:bk≠vb) :
  Calls Tryz.prog 116 #[.pointer (some ⟨rb,0,none⟩),.pointer (some ⟨vb,0,none⟩)] w fun e w'=>zko u w' 2 (zbr (zb6 d)) (fun V=>zl5 u vb (zb6 d) V∧Blk V bk 42 bc) e:=by
 have hvl:=hB.lt
 have hbl:=hbk.lt
 have hrl:=hR.lt
 obtain ⟨W1,hW1,hB1,g1⟩:∃ W1,W1=w.alloc (.cells #[.int .i64 0,.slice none 0 0] 42)∧Blk W1 w.heap.size 42 [.int .i64 0,.slice none 0 0]∧w.grownBy W1 none:=zah w _ _
 have cr:=zhi W1 rb d hl (hR.kept g1 (Or.inl rfl))
 have hnm:=zil d
 have hid:=zhk d
 obtain ⟨es,hes⟩:∃ es,es=zb6 d:=⟨_,rfl⟩
 rw[← hes] at cr hnm hid ⊢
 obtain ⟨HW1,HNM,HID⟩:=zh3 hW1 hnm hid
 have HBV:=hide (hB.kept g1 (by simp))
 have HB1:=hide hB1
 have HK:=hide (hbk.kept g1 (by simp))
 have HG1:=hide (tn gu g1)
 have hus:u.heap.size≤w.heap.size:=gu.size
 clear hW1 hnm hid hB g1 hR hes hB1 gu hbk
 go_enter Tryz.func116,Tryz.ntmps116
 go_wp2_with (rw[← uh HW1])
 refine cr.mono ?_
 rintro e w2 ⟨v2,rfl,ho2,g2⟩
 have hs1:w.heap.size<W1.heap.size:=(uh HB1).lt
 obtain ⟨ao,c,hv2⟩:=zb3 ho2
 subst hv2
 have hBv:=(uh HBV).kept g2 (by simp;omega)
 have hBo:=(uh HB1).kept g2 (by simp;omega)
 have hK2:=(uh HK).kept g2 (by simpa using hkr)
 have G2:u.grownBy w2 none:=zac (uh HG1) g2 (fun x e=>by cases e;exact Or.inl hr)
 have ho2':=zb5 ho2 (uh HG1).size
 have hc2:=hBv.cell 0
 simp only[List.getElem?_cons_zero] at hc2
 have hf2:=hBv.fz 0
 obtain ⟨w3,hw3⟩:∃ V,V=w2.setCell ⟨vb,0,none⟩ (.slice ao es.length c):=⟨_,rfl⟩
 have hB3:Blk w3 vb 150 [.slice ao es.length c]:=by rw[hw3];exact hBv.set 0 _
 have hA3:Blk w3 w.heap.size 42 [.int .i64 0,.slice none 0 0]:=by rw[hw3];exact hBo.other _ _ (by simp;omega)
 have hO3:w3.ownsRow u.heap.size 154 34 (.slice ao es.length c) es.length (es.flatMap enC):=by rw[hw3];exact zaz ho2' hBv (by decide) 0 _
 have G3:u.grownBy w3 none:=by rw[hw3];exact zae G2 _ _ (Or.inl hv)
 have hc3:=hB3.cell 0
 simp only[List.getElem?_cons_zero] at hc3
 have hE3:Ens w3 ao c es:=by
  obtain ⟨ao2,c2,e1,e2⟩:=Ens.own hO3 (uh HID)
  injection e1 with e3 e4 e5
  subst e3 e5
  exact e2
 have co:=zkk w3 ao c es hE3 (fun e he=>Nat.le_trans (uh HNM e he) (by omega))
 obtain ⟨r,hrr⟩:∃ r,r=zbr es:=⟨_,rfl⟩
 rw[← hrr] at co
 obtain ⟨HR,HW3,HB3,HA3,HO3⟩:=zh5 hrr hw3 hB3 hA3 hO3
 have HK3:=hide (show Blk w3 bk 42 bc by rw[hw3];exact hK2.other _ _ (by simpa using hkv.symm))
 have HG3:=hide G3
 clear cr ho2 ho2' hBv hBo G2 hw3 hB3 hA3 hO3 G3 hE3 g2 hrr HG1 HB1 HBV hK2
 go_wp2_with (rw[← uh HW3])
 refine co.mono ?_
 rintro e w4 ⟨v4,rfl,hN4,g4⟩
 have hA4:=(uh HA3).kept g4 (by simp)
 have hK4:=(uh HK3).kept g4 (by simp)
 have hB4:=(uh HB3).kept g4 (by simp)
 have hO4:=zbh (uh HO3) g4 (fun x e=>by cases e)
 have G4:=tn (uh HG3) g4
 have h1c:v4.oneCell'=true:=by obtain ⟨_,_,rfl,_⟩:=hN4;rfl
 obtain ⟨x,hx⟩:∃ x:Int,x=r.1:=⟨_,rfl⟩
 rw[← hx]
 obtain ⟨K,hK⟩:∃ K:Int,K=(if x=0 then 2 else 0):=⟨_,rfl⟩
 rw[← hK]
 obtain ⟨HKK,HX⟩:=zh2 hK hx
 clear co hK hx hc2 hf2 hc3
 go_wp2_with (refine wpList_store_row rfl 42 _ _ rfl w.heap.size #[.int .i64 K,v4] rfl rfl _ _ hA4 zam rfl (zdo h1c) ?_)
 refine bodyPost_ret (zag rfl _ _ _ _ _ _ _ rfl (hA4.row [.int .i64 K,v4]) Tryz.underlying42 rfl zam) rfl ?_
 have gF:=zaq (zab w4 (some w.heap.size)) #[.int .i64 K,v4] (Or.inr rfl)
 rw[← uh HR]
 refine ⟨v4,?_,?_,⟨⟨_,hB4.row_other _ _ (by omega),zby hO4 hA4 (by decide) _⟩,hK4.row_other _ _ (by omega)⟩,zaq G4 _ (Or.inl hus)⟩
 ·rw[← uh HX,← uh HKK]
  rfl
 ·obtain ⟨a',c',e1,e2,e3⟩:=hN4
  refine ⟨a',c',e1,e2.kept gF ?_⟩
  intro x e ad e5 e4
  cases e
  exact hA4.typ (by decide) (e4 ▸ (e3 ad e5).2)
end Go.Proofs.YtegbbkgmiklhcaaGreatDoor
