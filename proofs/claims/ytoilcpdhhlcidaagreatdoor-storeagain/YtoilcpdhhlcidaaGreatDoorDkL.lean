/- Lemmas. -/
import Derived.Test.YtoilcpdhhlcidaaGreatDoorDkH
namespace Go.Proofs.YtoilcpdhhlcidaaGreatDoor
open Go.RowKit
set_option maxRecDepth 100000
theorem zhj {w:World} {base n k:Nat} {t:TypeId} {v:Value} {xs:List Value} (h:w.ownsRow base t k v n xs):∃ ao c,v = .slice ao n c:=by
 rcases h.2 with ⟨rfl,h2⟩ | ⟨g,cap,cur,rfl,_⟩
 ·exact ⟨none,0,by rw[h2]⟩
 ·exact ⟨_,_,rfl⟩
theorem zov {w:World} {base n:Nat} {t:TypeId} {v:Value} {xs:List Value} (h:w.ownsRow base t 1 v n xs) (j:Nat) (hj:j<n):∃ b c,v = .slice (some ⟨b,0,none⟩) n c∧w.cell? ⟨b,j,none⟩=xs[j]? := by
 rcases h.2 with ⟨rfl,h2⟩ | ⟨g,cap,cur,rfl,_,hh,h3,h4,h5,h6⟩
 ·omega
 ·refine ⟨g,cap,rfl,?_⟩
  rw[cell_of_row w g j _ _ _ hh,← h6,List.getElem?_take_of_lt (by omega)]
  simp
theorem zli (b o hi:Nat) (h2:hi≤256) (W:World):(Instr.sliceAt 95 (.pointer (some ⟨b,o,none⟩)) none (some (.int .i64 (hi:Int))) none).run Tryz.prog W = .ok (.slice (some ⟨b,o,none⟩) hi 256) W:=by
 have ea:Tryz.prog.arrayLen 95=256:=by simp[Program.arrayLen,Tryz.underlying95]
 have ee:Tryz.prog.elem 95=5:=by simp[Program.elem,Tryz.underlying95]
 rw[run_sliceAt_array_h W 95 ⟨b,o,none⟩ (by rw[ea,ee];exact Tryz.underlying95) .i64 _ (by omega) (by omega),ea,ee,zay]
 simp only[Result.andThen_ok,slicedAt,Int.toNat_natCast,Nat.zero_mul,Nat.sub_zero]
 rw[if_neg (by omega),Addr.add_mid]
 simp
set_option maxHeartbeats 8000000 in
theorem zf3 (u:Nat) (w:World) (F:List Nat) (d:Nat) (D:Dsk) (h:zas u w F d D) (hU:D.U.length≤1000000) (g:Nat) (lb:Array Value) (f:Nat→Int)
  (eg:∀ args w,(callFunc g args).run Tryz.prog w = .ok (.enter g args) w) (cg:∀ (k:Nat) (V:World),k<D.U.length→Fr w V F→Calls Tryz.prog g (#[.int .i64 (k:Int)]++lb) V fun e V'=>e = .returned (.int .i64 (f k))∧V'=V) :
  Calls Tryz.prog 45 #[.pointer (some ⟨d,0,none⟩),.func (.func g) #[] lb] w fun e w'=>e = .returned (.tuple #[])∧zas u w' F d (za8 f D)∧Fr w w' F:=by
 obtain ⟨s,c,m,X,ov,K,h⟩:=h
 have hok:=h.ok
 have hH:=h.h
 have hc1:=h.c1
 obtain ⟨O,hO⟩:∃ O,O=D.U.map (·.1):=⟨_,rfl⟩
 rw[← hO] at hH
 have hOl:O.length=D.U.length:=by rw[hO,List.length_map]
 obtain ⟨U,hUU⟩:∃ U,U=D.U:=⟨_,rfl⟩
 obtain ⟨S,hS⟩:∃ S,S=D.safe:=⟨_,rfl⟩
 obtain ⟨ao,oc,hov⟩:=zhj hH.ord
 obtain ⟨n,hn⟩:∃ n,n=U.length:=⟨_,rfl⟩
 rw[hOl,← hUU,← hn] at hov
 rw[← hUU,← hS] at hH
 rw[← hUU] at hU cg hO
 rw[← hn] at hU cg
 have hst:(∃ K',DiskH u w F d s c m X ov K' (za1 f 0 (U.take 0) S) O (U.drop 0) D.left D.down)∧Fr w w F:=⟨⟨K,hH⟩,Fr.refl _ _⟩
 obtain ⟨HST,HOK,HO,HU,HS,HOV⟩:=zh6 hst hok hO hUU hS hov
 obtain ⟨HN,HCG⟩:=zh2 hn cg
 rw[hov] at hc1
 clear hst hok hO hUU hS hH h cg hOl hn hov
 go_enter Tryz.func45,Tryz.ntmps45
 go_wp2
 go_loopw [13] (fun i wr=>∃ j:Nat,i = .int .i64 j∧j≤n∧Hid ((∃ K',DiskH u wr F d s c m X ov K' (za1 f 0 (U.take j) S) O (U.drop j) D.left D.down)∧Fr w wr F)) (fun i _=>n - (intOf i).toNat)
 case atStart=>exact ⟨0,rfl,Nat.zero_le _,HST⟩
 case round =>
  obtain ⟨j,rfl,hj,HR⟩:=hrel
  by_cases hlt:j<n
  ·have hlt' : j<U.length:=by have:=uh HN;omega
   obtain ⟨⟨K',hH⟩,hF⟩:=uh HR
   obtain ⟨⟨i,t⟩,hit⟩:∃ x,x=U[j]:=⟨_,rfl⟩
   rw[List.drop_eq_getElem_cons hlt',← hit] at hH
   have hsn:za1 f 0 (U.take (j+1)) S=lay1 (za1 f 0 (U.take j) S) (i,t) (zdt (f j)):=by
    rw[List.take_succ_eq_append_getElem hlt',zdk,← hit,List.length_take,Nat.min_eq_left (Nat.le_of_lt hlt'),Nat.zero_add]
   obtain ⟨SJ,hSJ⟩:∃ SJ,SJ=za1 f 0 (U.take j) S:=⟨_,rfl⟩
   rw[← hSJ] at hH hsn
   have hxi:=hH.inn (i,t) (by simp)
   simp only at hxi
   obtain ⟨EB,hEB⟩:∃ EB,EB=secC t:=⟨_,rfl⟩
   have hEl:EB.length=256:=by rw[hEB,za4];exact hxi.2
   have hE1:∀ u∈EB,u.oneCell'=true:=by rw[hEB];exact zd0 _
   have hEo:EB.toArray.all (·.oneCell')=true:=all_oneCell_toArray hE1
   obtain ⟨Z,hZ,hzv⟩:=zd1
   have hiE2:(Tryz.prog.info? 95).map (·.size)=some EB.toArray.size:=by rw[List.size_toArray,hEl];exact zc0
   have hZE:Z.toList.toArray.size=EB.toArray.size:=by simp[hZ,hEl]
   have hord:=hH.ord
   have hOL:O.length=n:=by rw[uh HO,List.length_map,uh HN]
   rw[hOL,uh HOV] at hord
   obtain ⟨ob,oc2,hoe,hoc⟩:=zov hord j hlt
   injection hoe with hao _ hcap
   have hOj:(O.map keyN)[j]? = some (keyN i):=by rw[uh HO,List.map_map,List.getElem?_map,List.getElem?_eq_getElem hlt',← hit];rfl
   rw[hOj] at hoc
   unfold keyN at hoc
   subst hao hcap
   obtain ⟨bb,o,cc,q1,q2,q3,q4,q5⟩:=hH.took
   have hc2:wr.cell? ⟨d,2,none⟩=some (.map (some m)):=by rw[hH.blk.cell];rfl
   rw[← hEB] at q3
   have cf:=zlh wr d m K' hc2 (Ne.symm hH.m_d) hH.map i bb o _ cc q1 q2 EB hEl hE1 q3 q4
   obtain ⟨K2,hK2⟩:∃ K2,K2=(if (zar (U.drop (j+1)) i).length=0 then delI K' i else putI K' i (.slice (cutK (some ⟨bb,o,none⟩) cc 1 256) (zar (U.drop (j+1)) i).length (cc - 1))):=⟨_,rfl⟩
   rw[← hK2] at cf q5
   have hwide:=hH.wide
   have hlw:=hH.low
   obtain ⟨HQ5,HF0,HIE2,HZE,HEO,HEL⟩:=zh6 q5 hF hiE2 hZE hEo hEl
   obtain ⟨HEB,HSN,HSJ,HXI,HLW,HWD⟩:=zh6 hEB hsn hSJ hxi hlw hwide
   have HIN:=hide (And.intro hH.inS hH.inM)
   have hjw:IntKind.i64.wrap ((j:Int)+1)=(j:Int)+1:=by rw[IntKind.wrap_i64];omega
   clear hH hF hit hsn hSJ hxi hEB hEl hE1 hEo hZ hiE2 hZE hord hOL hOj hc2 q1 q2 q3 q4 q5 hK2 hwide hlw HR
   go_upto_region 4 with (first
    | (go_at_call 69;refine cf.mono ?_;rintro e w2 ⟨rfl,hM2,g2⟩;clear cf
       have hH2:=uh HQ5 w2 hM2 g2
       have hF2:=(uh HF0).then g2 (fun x e=>by cases e;exact Or.inl (uh HIN).2)
       obtain ⟨W3,hW3,hB3,g3⟩:=zbr w2 95 Z EB
       have hBZ:Blk (w2.alloc (.cells Z 95)) w2.heap.size 95 Z.toList:=by simpa using Blk.new w2 95 Z.toList
       have HH3:=hide (hH2.nn g3)
       have HF3:=hide (hF2.then g3 (fun x e=>by cases e))
       obtain ⟨HB3,HBZ,HW3⟩:=zh3 hB3 hBZ hW3
       clear hH2 hF2 hB3 g3 hBZ hW3 hM2 g2 HQ5 HF0)
    | (have hB9:=uh HBZ;refine wpList_store_row rfl 95 _ _ rfl w2.heap.size EB.toArray rfl rfl _ _ hB9 (uh HIE2) (uh HZE) (uh HEO) ?_;clear hB9;rw[← uh HW3]))
   have cg:=uh HCG j W3 hlt (uh HF3)
   obtain ⟨y,hy⟩:∃ y,y=f j:=⟨_,rfl⟩
   obtain ⟨nn,hnn⟩:∃ k,k=zdt y:=⟨_,rfl⟩
   rw[← hy] at cg
   have hn256:nn≤256:=by rw[hnn];exact zhp _
   have hci:=zks y
   rw[← hnn] at hci
   obtain ⟨y1,hy1⟩:∃ y1:Int,y1=max y 0:=⟨_,rfl⟩
   have hmax:∀ ts ty (V:World),(Builtin.max_ ts ty #[.int .i64 y,.int .i64 0]).run Tryz.prog V = .ok (.int .i64 y1) V:=fun ts ty V=>by rw[run_max_int2];congr 2;split <;> omega
   have hmin:∀ ts ty (V:World),(Builtin.min_ ts ty #[.int .i64 y1,.int .i64 256]).run Tryz.prog V = .ok (.int .i64 (nn:Int)) V:=fun ts ty V=>by rw[run_min_int2];congr 2;split <;> omega
   obtain ⟨HNN,HY⟩:=zh2 hnn hy
   clear hnn hy hci hy1
   go_upto_region 5 with (refine cg.mono ?_;rintro e w4 ⟨rfl,e4⟩;subst w4;clear cg)
   obtain ⟨q,hq⟩:∃ q,q=w2.heap.size:=⟨_,rfl⟩
   rw[← hq] at HB3 ⊢
   obtain ⟨W3d,hW3d⟩:∃ W,W=W3.drew:=⟨_,rfl⟩
   have gd:W3.grownBy W3d none:=by rw[hW3d];exact zab (zaa _ _)
   have hH4:=(uh HH3).nn gd
   have hF4:=(uh HF3).then gd (fun x e=>by cases e)
   have hB4:=(uh HB3).kept gd (by simp)
   rw[uh HEB] at hB4
   have hx:=zb6 (zao hB4) (by rw[(uh HXI).2];unfold maxLen;omega)
   have hi3:i<SJ.length:=(uh HXI).1
   obtain ⟨hlc,hth⟩:=zne hH4.sec (uh HWD) i hi3 t (uh HXI).2 nn hn256
   have hcp:=zg9 W3d s (i*256) nn 256 (some ⟨q,0,none⟩) t.length t hx (by rw[(uh HXI).2,Nat.min_eq_right hn256];exact hth)
   rw[(uh HXI).2,Nat.min_eq_right hn256] at hcp
   obtain ⟨W4,hW4⟩:∃ W,W=W3d.setCells s (i*256) ((t.take nn).map bv):=⟨_,rfl⟩
   rw[← hW4] at hcp hlc
   have g4:W3d.grownBy W4 (some s):=by rw[hW4];exact zav (Or.inr rfl) _ _ (zaa _ _)
   have hH5:=hH4.wrote g4 hlc (ze3 _ _ _) (zhq (uh HWD) (uh HXI).2 hn256 hi3)
   have hfin:(∃ K',DiskH u W4 F d s c m X ov K' (za1 f 0 (U.take (j+1)) S) O (U.drop (j+1)) D.left D.down)∧Fr w W4 F:=⟨⟨K2,by rw[uh HSN,← uh HY,← uh HNN];exact hH5⟩,hF4.then g4 (fun x e=>by cases e;exact Or.inl (uh HIN).1)⟩
   obtain ⟨sl,hsl⟩:∃ k,k=SJ.length:=⟨_,rfl⟩
   have hS4:W3d.cell? ⟨d,0,none⟩=some (.slice (some ⟨s,0,none⟩) sl c):=by rw[hH4.blk.cell,hsl];rfl
   have hS5:W4.cell? ⟨d,0,none⟩=some (.slice (some ⟨s,0,none⟩) sl c):=by rw[hH5.blk.cell,hsl,ze3];rfl
   rw[← hsl] at hi3
   obtain ⟨HFIN,HS4,HS5,HW3d⟩:=zh4 hfin hS4 hS5 hW3d
   have hss:=zf2 q
   have hsh:=zli s (i*256) nn hn256
   clear hfin hS4 hS5 hW3d hsl hH5 hH4 hF4 hB4 hx hlc hth g4 gd hW4 hq hn256
   refine wp_region_noPanic ?_
   refine wp_region_held_drew (S:=fun V=>V.cell? ⟨d,0,none⟩=some (.slice (some ⟨s,0,none⟩) sl c)) (by kernel_rfl) (by rw[← uh HW3d];exact uh HS4) (fun _ => ?_)
   rw[← uh HW3d]
   refine tq 0 26 (.move (.tmp 0)) ((.pointer (some ⟨d,0,none⟩))) (uh HS4) ?_
   refine tq 1 27 (.nilCheck (.tmp 26)) ((.pointer (some ⟨d,0,none⟩))) (uh HS4) ?_
   refine tq 2 28 (.fieldAddr 77 (.tmp 27) 0) ((.pointer (some ⟨d,0,none⟩))) (uh HS4) ?_
   refine tz 3 29 (.load 74 (.tmp 28)) ((.slice (some ⟨s,0,none⟩) sl c)) (uh HS4) ?_ (y:=(Or.inl ⟨by rfl,fun V hV=>by (have hv2:=hV;go_simp)⟩))
   (try simp only[pq])
   refine tq 4 30 (.move (.tmp 5)) ((.int .i64 (i:Int))) (uh HS4) ?_
   refine tq 5 31 (.indexAddr 74 (.tmp 29) (.tmp 30)) ((.pointer (some ⟨s,i*256,none⟩))) (uh HS4) ?_
   refine tq 6 32 (.move (.tmp 7)) ((.int .i64 (nn:Int))) (uh HS4) ?_
   refine tz 7 33 (.slice 95 (.tmp 31) none (some (.tmp 32)) none) ((.slice (some ⟨s,i*256,none⟩) nn 256)) (uh HS4) ?_ (y:=(Or.inl ⟨by rfl,fun V hV=>by (have hs1:=hsh V;go_simp)⟩))
   (try simp only[pq])
   refine tz 8 34 (.slice 95 (.tmp 6) none none none) ((.slice (some ⟨q,0,none⟩) 256 256)) (uh HS4) ?_ (y:=(Or.inl ⟨by rfl,fun V hV=>by (have hs1:=hss V;go_simp)⟩))
   (try simp only[pq])
   refine rdq 9 (some 35) (.call { callee := .builtin .copy,args := #[(.tmp 33),(.tmp 34)],argTypes := #[53,53] }) (fun K9 hK9 => ?_)
   go_simp
   refine hK9.out _ _ (uh HS5) (fun _ => ?_)
   clear hK9 K9
   (try simp only[pq])
   refine wpAnyH_done (by kernel_rfl) ?_ _
   refine NoPanic.normal ?_
   clear hcp hss hsh hmax hmin
   go_wp2
   go_roundw
   case rel=>exact ⟨j+1,by go_num,by omega,HFIN⟩
   case measure=>simp[intOf];omega
  ·have hjn:j=n:=by omega
   obtain ⟨⟨K',hH⟩,hF⟩:=uh HR
   rw[hjn,uh HN,List.drop_length,List.take_length] at hH
   have hK:K'=[]:=by
    cases hk:K' with
    | nil=>rfl
    | cons p r=>exact absurd ((hH.keys p.1).1 (by rw[hk];simp)) (by simp)
   rw[hK] at hH
   have g5:=zbw wr d 1 (.slice none 0 0)
   have hfin:zas u (wr.setCell ⟨d,1,none⟩ (.slice none 0 0)) F d (za8 f D):=by
    refine ⟨s,c,m,X,.slice none 0 0,[],?_,?_,?_,World.ownsRow_nil _ _ _ _,⟨hH.map.kept g5 (fun e=>hH.m_d (by cases e;rfl)),fun i=>by simp[za8],(fun p hp=>by cases hp),(fun p hp=>by cases hp)⟩,hH.inD,hH.inS,hH.inM,(fun b hb=>by cases hb),(fun p hp=>by cases hp),?_,(uh HOK).settle f⟩
    ·have:=hH.blk.set 1 (.slice none 0 0)
     unfold za8
     rw[← uh HU,← uh HS]
     exact this
    ·have:=hH.sec.other ⟨d,1,none⟩ (.slice none 0 0) hH.d_s
     unfold za8
     rw[← uh HU,← uh HS]
     exact this
    ·have:=hH.fits
     unfold za8
     rw[← uh HU,← uh HS]
     exact this
    ·intro x hx
     have:=hH.low x hx
     exact ⟨this.1,by simpa[World.setCell] using this.2⟩
   have hF5:=hF.then g5 (fun x e=>by cases e;exact Or.inl hH.inD)
   have hc1r:wr.cell? ⟨d,1,none⟩=some ov:=by rw[hH.blk.cell];rfl
   have hf1r:=hH.blk.fz 1
   obtain ⟨HFIN,HF5⟩:=zh2 hfin hF5
   clear hfin hF5 hH hF HR hK
   go_wp2
   go_end0
   exact ⟨rfl,uh HFIN,uh HF5⟩
theorem Fr.nts {w a:World} {F:List Nat} {ao:Option Addr} {c:Nat} {l:List Int} (g:Fr w a F) (h:Nts w ao c l) (hb:∀ ad,ao=some ad→ad.block∉F):Nts a ao c l :=
 ⟨h.zip,h.fits,h.most,h.shape,fun ad e i hi=>g.cell (h.cell ad e i hi) (hb ad e)⟩
theorem znf:∀ args w,(callFunc 101 args).run Tryz.prog w = .ok (.enter 101 args) w:=fun args w=>by exact enters_of Tryz.func101 (by kernel_rfl) rfl args w
theorem zlj:∀ args w,(callFunc 46 args).run Tryz.prog w = .ok (.enter 46 args) w:=fun args w=>by exact enters_of Tryz.func46 (by kernel_rfl) rfl args w
theorem zow (V:World) (k:Nat):Calls Tryz.prog 101 (#[.int .i64 (k:Int)] ++ #[]) V fun e V'=>e = .returned (.int .i64 256)∧V'=V:=by
 simp only[Array.append_empty]
 go_enter Tryz.func101,Tryz.ntmps101
 go_wp2
 go_ret
 exact ⟨rfl,rfl⟩
theorem zng (V:World) (q:Nat) (fo:Option Addr) (fc:Nat) (L:List Int) (hc:V.cell? ⟨q,0,none⟩=some (.slice fo L.length fc)) (hL:Nts V fo fc L) (k:Nat):Calls Tryz.prog 46 (#[.int .i64 (k:Int)] ++ #[.pointer (some ⟨q,0,none⟩)]) V fun e V'=>e = .returned (.int .i64 (zf9 L k))∧V'=V:=by
 rw[show (#[.int .i64 (k:Int)] ++ #[.pointer (some ⟨q,0,none⟩)]:Array Value) = #[.int .i64 (k:Int),.pointer (some ⟨q,0,none⟩)] from rfl]
 by_cases hk:k<L.length
 ·obtain ⟨b,o,rfl,hx⟩:=hL.at k hk
  have e1:zf9 L k=L[k]:=by unfold zf9;rw[List.getElem?_eq_getElem hk];rfl
  rw[← e1] at hx
  obtain ⟨y,hy⟩:∃ y,y=zf9 L k:=⟨_,rfl⟩
  rw[← hy] at hx ⊢
  obtain ⟨n,hn⟩:∃ n,n=L.length:=⟨_,rfl⟩
  rw[← hn] at hc hk
  clear e1 hy hn hL
  go_enter Tryz.func46,Tryz.ntmps46
  go_wp2
  go_ret
  exact ⟨rfl,rfl⟩
 ·have e1:zf9 L k = -1:=by unfold zf9;rw[List.getElem?_eq_none (by omega)];rfl
  rw[e1]
  obtain ⟨n,hn⟩:∃ n,n=L.length:=⟨_,rfl⟩
  rw[← hn] at hc hk
  clear e1 hn hL
  go_enter Tryz.func46,Tryz.ntmps46
  go_wp2
  go_ret
  exact ⟨rfl,rfl⟩
set_option maxHeartbeats 2000000 in
theorem znh (u:Nat) (w:World) (F:List Nat) (d:Nat) (D:Dsk) (h:zas u w F d D) (hU:D.U.length≤1000000) :
  Calls Tryz.prog 81 #[.pointer (some ⟨d,0,none⟩)] w fun e w'=>e = .returned (.int .i64 (syD D).2)∧Left u w w' F d (syD D).1:=by
 obtain ⟨s,c,m,X,ov,K,h⟩:=h
 have c1:=zcy u w F d s c m X ov K D h
 by_cases hd:D.down=true
 ·have hstay:Left u w w F d D:=⟨F,h.at,Fr.refl _ _,fun x hx=>Or.inl hx⟩
  have e1:syD D=(D,17):=by unfold syD;rw[if_pos hd]
  rw[e1]
  rw[if_pos hd] at c1
  have HS:=hide hstay
  clear hstay hd e1 h hU
  go_enter Tryz.func81,Tryz.ntmps81
  go_wp2_with (go_at_call 50;refine c1.mono ?_;rintro e w2 ⟨rfl,e2⟩;subst w2;clear c1)
  go_ret
  exact ⟨rfl,uh HS⟩
 rw[if_neg hd] at c1
 have c2:=zeh u w F d s c m X ov K D h
 obtain ⟨D1,hD1⟩:∃ D1,D1=(cntD D).1:=⟨_,rfl⟩
 obtain ⟨y,hy⟩:∃ y,y=(cntD D).2:=⟨_,rfl⟩
 rw[← hD1,← hy] at c2
 have hU1:D1.U.length≤1000000:=by rw[hD1,(zhr D).2];exact hU
 have hin:=h.inD
 have hyy:y=0∨y=17:=by rw[hy];exact zn3 D
 have e1:syD D=if y=0 then (za8 (fun _=>256) D1,0) else (D1,y):=by unfold syD;rw[if_neg hd,← hy,← hD1];split <;> first | rfl | exact Prod.ext hD1.symm hy.symm
 rw[e1]
 obtain ⟨HIN,HU1⟩:=zh2 hin hU1
 clear hd e1 h hU hD1 hy hin hU1
 rcases hyy with rfl | rfl
 ·rw[if_pos rfl]
  go_enter Tryz.func81,Tryz.ntmps81
  go_upto_region 7 with (first
   | (go_at_call 50;refine c1.mono ?_;rintro e w2 ⟨rfl,e2⟩;subst w2;clear c1)
   | (go_at_call 100;refine c2.mono ?_;rintro e w2 ⟨rfl,hM2,g2⟩;have HM2:=hide hM2;have HG2:=hide g2;clear c2 hM2 g2))
  have cs:=zf3 u w2 F d D1 (uh HM2).at (uh HU1) 101 #[] (fun _=>256) znf (fun k V _ _=>zow V k)
  go_wp2_with (go_at_call 45;refine cs.mono ?_;rintro e w3 ⟨rfl,hD3,hF3⟩;have HD3:=hide hD3;have HF3:=hide hF3;clear cs hD3 hF3)
  go_ret
  exact ⟨rfl,F,uh HD3,(Fr.of (uh HG2) (fun x e=>by cases e;exact Or.inl (uh HIN))).trans (uh HF3) (fun x hx=>Or.inl hx),fun x hx=>Or.inl hx⟩
 ·rw[if_neg (by decide)]
  go_enter Tryz.func81,Tryz.ntmps81
  go_wp2_with (first
   | (go_at_call 50;refine c1.mono ?_;rintro e w2 ⟨rfl,e2⟩;subst w2;clear c1)
   | (go_at_call 100;refine c2.mono ?_;rintro e w2 ⟨rfl,hM2,g2⟩;have HM2:=hide hM2;have HG2:=hide g2;clear c2 hM2 g2))
  go_ret
  exact ⟨rfl,F,(uh HM2).at,Fr.of (uh HG2) (fun x e=>by cases e;exact Or.inl (uh HIN)),fun x hx=>Or.inl hx⟩
set_option maxHeartbeats 2000000 in
theorem zni (u:Nat) (w:World) (F:List Nat) (d:Nat) (D:Dsk) (h:zas u w F d D) (hU:D.U.length≤1000000) (fo:Option Addr) (fc:Nat) (L:List Int) (hL:Nts w fo fc L) (hb:∀ ad,fo=some ad→ad.block∉F) :
  Calls Tryz.prog 23 #[.pointer (some ⟨d,0,none⟩),.slice fo L.length fc] w fun e w'=>e = .returned (.tuple #[])∧zas u w' F d (faD D L)∧Fr w w' F:=by
 obtain ⟨W1,hW1,hB1,g1⟩:=zal w 57 [.slice fo L.length fc]
 have h1:=h.none g1
 have hqF:w.heap.size∉F:=fun hx=>by have:=(h.low _ hx).2;omega
 have hL1:=hL.kept g1
 have hc1:W1.cell? ⟨w.heap.size,0,none⟩=some (.slice fo L.length fc):=by rw[hB1.cell];rfl
 have cs:=zf3 u W1 F d D h1 hU 46 #[.pointer (some ⟨w.heap.size,0,none⟩)] (zf9 L) zlj (fun k V _ hF=>zng V w.heap.size fo fc L (hF.cell hc1 hqF) (hF.nts hL1 hb) k)
 have cm:Calls Tryz.prog 44 #[.pointer (some ⟨d,0,none⟩)] W1 fun e w'=>e = .returned (.bool true)∧w'=W1:=by
  obtain ⟨s,c,m,X,ov,K,h⟩:=h1
  exact h.made
 have hin:d∈F:=by
  obtain ⟨s,c,m,X,ov,K,h⟩:=h
  exact h.inD
 have hok:=h.ok
 obtain ⟨HW1,HG1,HIN⟩:=zh3 hW1 g1 hin
 have HOK:=hide (hok.fall L)
 clear hW1 g1 hin h h1 hL hL1 hb hc1 hB1 hqF hU hok
 go_enter Tryz.func23,Tryz.ntmps23
 go_upto_region 3 with (first
  | (go_at_call 44;refine cm.mono ?_;rintro e w2 ⟨rfl,e2⟩;subst w2;clear cm)
  | (go_at_call 45;refine cs.mono ?_;rintro e w3 ⟨rfl,hD3,hF3⟩;have HD3:=hide hD3;have HF3:=hide hF3;clear cs hD3 hF3)
  | rw[← uh HW1])
 obtain ⟨s,c,m,X,ov,K,h3⟩:=uh HD3
 have f3:=h3.blk.fz 3
 have f4:=(h3.blk.set 3 (.int .i64 (-1))).fz 4
 have hc3:=h3.c3
 have hc4:(w3.setCell ⟨d,3,none⟩ (.int .i64 (-1))).cell? ⟨d,4,none⟩=some (.bool (za8 (zf9 L) D).down):=by rw[(h3.blk.set 3 (.int .i64 (-1))).cell];rfl
 have hg:w3.grownBy ((w3.setCell ⟨d,3,none⟩ (.int .i64 (-1))).setCell ⟨d,4,none⟩ (.bool false)) (some d):=zae (zbw _ _ _ _) (zbw _ _ _ _) (fun x e=>Or.inr e)
 have hfin:zas u ((w3.setCell ⟨d,3,none⟩ (.int .i64 (-1))).setCell ⟨d,4,none⟩ (.bool false)) F d (faD D L):=⟨s,c,m,X,ov,K,h3.head hg rfl rfl ((h3.blk.set 3 (.int .i64 (-1))).set 4 (.bool false)) (uh HOK)⟩
 have HF:=hide hfin
 have HG:=hide (((Fr.none (uh HG1) F).trans (uh HF3) (fun x hx=>Or.inl hx)).then hg (fun x e=>by cases e;exact Or.inl (uh HIN)))
 clear h3 hfin hg HD3 HF3
 go_wp2
 go_end0
 exact ⟨rfl,uh HF,uh HG⟩
structure Dw (u w:World) (F:List Nat) (d:Nat) (D:Dsk):Prop where
 at_:zas u.heap.size w F d D
 gb:u.grownBy w none
def Lf (u w w' : World) (F:List Nat) (d:Nat) (D:Dsk):Prop:=∃ F',Dw u w' F' d D∧Fr w w' F∧∀ x∈F',x∈F∨w.heap.size≤x
theorem zqe {u w w' : World} {F:List Nat} (h:u.grownBy w none) (g:Fr w w' F) (hF:∀ x∈F,u.heap.size≤x):u.grownBy w' none :=
 ((Fr.none h []).trans g (fun x hx=>Or.inr (hF x hx))).gb (fun x hx=>by cases hx)
theorem Dw.fr {u w w' : World} {F G:List Nat} {d:Nat} {D:Dsk} (h:Dw u w F d D) (g:Fr w w' G) (hG:∀ x∈G,u.heap.size≤x) (hFG:∀ x∈F,x∉G):Dw u w' F d D:=⟨h.at_.fr g hFG,zqe h.gb g hG⟩
theorem Dw.nn {u w w' : World} {F:List Nat} {d:Nat} {D:Dsk} (h:Dw u w F d D) (g:w.grownBy w' none):Dw u w' F d D:=⟨h.at_.none g,tn h.gb g⟩
theorem Dw.lo {u w:World} {F:List Nat} {d:Nat} {D:Dsk} (h:Dw u w F d D):∀ x∈F,u.heap.size≤x∧x<w.heap.size:=h.at_.low
theorem Left.lf {u w w' : World} {F:List Nat} {d:Nat} {D D' : Dsk} (k:Dw u w F d D) (h:Left u.heap.size w w' F d D'):Lf u w w' F d D':=by
 obtain ⟨F',h1,h2,h3⟩:=h
 exact ⟨F',⟨h1,zqe k.gb h2 (fun x hx=>(k.lo x hx).1)⟩,h2,h3⟩
theorem Dw.bts {u w:World} {F:List Nat} {d:Nat} {D:Dsk} (h:Dw u w F d D) {ao:Option Addr} {c:Nat} {l:List UInt8} (hb:Bts u ao c l):Bts w ao c l:=hb.kept h.gb (fun _ e=>by cases e)
section
variable {u w:World} {F:List Nat} {d:Nat} {D:Dsk} (h:Dw u w F d D)
include h
theorem zpi (i:Int) (ao:Option Addr) (bc:Nat) (b:List UInt8) (hb:Bts w ao bc b) (hU:D.U.length≤1000000) :
  Calls Tryz.prog 80 #[.pointer (some ⟨d,0,none⟩),.int .i64 i,.slice ao b.length bc] w fun e w'=>e = .returned (.int .i64 (wrD D i b).2)∧Lf u w w' F d (wrD D i b).1 :=
 (zlg _ w F d D h.at_ i ao bc b hb hU).mono fun _ _ q=>⟨q.1,q.2.lf h⟩
theorem zqv (hU:D.U.length≤1000000) :
  Calls Tryz.prog 81 #[.pointer (some ⟨d,0,none⟩)] w fun e w'=>e = .returned (.int .i64 (syD D).2)∧Lf u w w' F d (syD D).1 :=
 (znh _ w F d D h.at_ hU).mono fun _ _ q=>⟨q.1,q.2.lf h⟩
theorem zq7 (hU:D.U.length≤1000000) (fo:Option Addr) (fc:Nat) (L:List Int) (hL:Nts w fo fc L) (hb:∀ ad,fo=some ad→ad.block∉F) :
  Calls Tryz.prog 23 #[.pointer (some ⟨d,0,none⟩),.slice fo L.length fc] w fun e w'=>e = .returned (.tuple #[])∧Lf u w w' F d (faD D L) :=
 (zni _ w F d D h.at_ hU fo fc L hL hb).mono fun _ _ q=>⟨q.1,F,⟨q.2.1,zqe h.gb q.2.2 (fun x hx=>(h.lo x hx).1)⟩,q.2.2,fun _ hx=>Or.inl hx⟩
theorem zqw (i:Int) (hU:D.U.length≤1000000) :
  Calls Tryz.prog 27 #[.pointer (some ⟨d,0,none⟩),.int .i64 i] w fun e w'=>∃ ao c,e = .returned (.tuple #[.slice ao (rdD D i).1.length c,.int .i64 (rdD D i).2])∧Bts w' ao c (rdD D i).1∧(∀ ad,ao=some ad→w.heap.size≤ad.block)∧w.grownBy w' none :=
 (znc _ w F d D h.at_ i hU).mono fun _ _ q=>by
  obtain ⟨⟨v,q1,ao,c,q2,q3,q4⟩,q5⟩:=q
  exact ⟨ao,c,by rw[q1,q2],q3,q4,q5⟩
end
theorem zas.lower {u b:Nat} {w:World} {F:List Nat} {d:Nat} {D:Dsk} (h:zas u w F d D) (hb:b≤u):zas b w F d D:=by
 obtain ⟨s,c,m,X,ov,K,q2⟩:=h
 exact ⟨s,c,m,X,ov,K,q2.blk,q2.sec,q2.fits,zdm q2.ord hb,⟨q2.und.map,q2.und.keys,fun p hp=>zdm (q2.und.row p hp) hb,q2.und.apart⟩,q2.inD,q2.inS,q2.inM,q2.inO,q2.inK,fun x hx=>⟨Nat.le_trans hb (q2.low x hx).1,(q2.low x hx).2⟩,q2.ok⟩
theorem lnew {u w:World} (g:u.grownBy w none) (n:Nat) (h1:1≤n) (h2:n≤2048) :
  Calls Tryz.prog 9 #[.int .i64 (n:Int)] w fun e w'=>∃ d F,e = .returned (.tuple #[.pointer (some ⟨d,0,none⟩),.int .i64 0])∧Dw u w' F d (newD n)∧(∀ x∈F,w.heap.size≤x)∧w.grownBy w' none :=
 (zoa w n h1 h2).mono fun _ _ q=>by
  obtain ⟨d,F,q1,q2,q3⟩:=q
  exact ⟨d,F,q1,⟨q2.lower g.size,tn g q3⟩,fun x hx=>(q2.low x hx).1,q3⟩
end Go.Proofs.YtoilcpdhhlcidaaGreatDoor
