/- Lemmas. -/
import Derived.Shelf.GgSortFunc.InsertionK
import Derived.Test.YtegbbkgmiklhcaaGreatDoorSoPdq
import Derived.Shelf.GgSortFunc.SmallK
import Derived.Shelf.GgSortFunc.Tiny
import Derived.Deep.MidRow
namespace Go.Proofs.YtegbbkgmiklhcaaGreatDoor
open Go.RowKit Go.Shelf Go.Lib Go.Sort
set_option maxRecDepth 100000
def zjn (L:List (List UInt8)):Prop:=L.Pairwise fun a b=>za5 b a=false
theorem zgd (d:Array Nm):(flatK encN 32 d).toList=d.toList.flatMap encN:=by
 apply List.ext_getElem?
 intro t
 have hl:(d.toList.flatMap encN).length=d.size*32:=by
  rw[zcm encN 32 d.toList (fun x _=>zci x)];simp
 by_cases ht:t<d.size*32
 ·have hq:t / 32<d.toList.length:=by simp;omega
  have h1:=zgi encN 32 d.toList (fun x _=>zci x) (t / 32) (t % 32) hq (Nat.mod_lt _ (by decide))
  rw[show t / 32*32+t % 32=t by omega] at h1
  rw[h1,Array.getElem?_toList]
  have hs:t<(flatK encN 32 d).size:=by rw[size_flatK];exact ht
  have h2:=get_flatK encN 32 d t ht
  rw[getElem!_pos (flatK encN 32 d) t hs] at h2
  rw[Array.getElem?_eq_getElem hs,h2]
  have hq2:t / 32<d.size:=by simpa using hq
  rw[getElem!_pos d _ hq2]
  have hr:t % 32<(encN d[t / 32]).length:=by rw[zci];exact Nat.mod_lt _ (by decide)
  rw[getElem!_pos (encN d[t / 32]) (t % 32) hr]
  simp only[Array.getElem_toList]
  rw[List.getElem?_eq_getElem hr]
 ·rw[List.getElem?_eq_none (by simp;omega),List.getElem?_eq_none (by rw[hl];omega)]
theorem zk0 {w:World} {g n:Nat} {e:TypeId} {os:Array Obj} {cur:Array Value} (d:Array Nm) (hb:w.heap[g]? = some (.cells cur e (0,0))) :
  (sortWorldK encN 32 w g 0 n d os).heap[g]? = some (.cells (putCells id 0 (flatK encN 32 d) cur) e (0,0)):=by
 have hg:g<w.heap.size:=(Array.getElem?_eq_some_iff.1 hb).1
 unfold sortWorldK putRowK putRow mapBlock grow
 simp only[Sort.ahead]
 rw[Array.getElem?_append_left (by simpa using hg)]
 simp[Array.getElem?_modify,hb,onCells]
theorem zmm (cur:Array Value) (d:Array Nm) (h:d.size*32≤cur.size):(putCells id 0 (flatK encN 32 d) cur).toList.take (d.size*32)=d.toList.flatMap encN:=by
 rw[← zgd]
 apply List.ext_getElem?
 intro j
 by_cases hj:j<d.size*32
 ·have hs:j<(flatK encN 32 d).size:=by rw[size_flatK];exact hj
  have hc:j<cur.size:=by omega
  rw[List.getElem?_take_of_lt hj,Array.getElem?_toList,Array.getElem?_toList]
  unfold putCells
  rw[Array.getElem?_mapIdx,Array.getElem?_eq_getElem hc,Array.getElem?_eq_getElem hs]
  simp only[Option.map_some,id_eq,Nat.zero_le,Nat.zero_add,true_and,Nat.sub_zero]
  rw[if_pos hs,getElem!_pos (flatK encN 32 d) j hs]
 ·rw[List.getElem?_eq_none (by simp;omega),List.getElem?_eq_none (by simp;omega)]
theorem zqt (w:World):(isAgg 47).run Tryz.prog w = .ok true w:=by kernel_rfl
def ltN (x y:Nm):Bool:=za5 x.1 y.1
theorem zqu:SWO ltN where
 irrefl x:=zhc _
 trans x y z h1 h2:=zdm _ _ _ h1 h2
 ntrans x y z h1 h2:=by
  unfold ltN at *
  cases h3:za5 x.1 z.1 with
  | false=>rfl
  | true =>
   by_cases he:za5 y.1 x.1=true
   ·have:=zdm _ _ _ he h3
    rw[h2] at this
    cases this
   ·have e1:=ze7 _ _ h1 (by simpa using he)
    rw[e1] at h3
    rw[h2] at h3
    cases h3
set_option maxHeartbeats 1000000 in
theorem zmn (V:World) (xb blk n c:Nat) (hx:Blk V xb 59 [.slice (some ⟨blk,0,none⟩) n c]) (i j:Nat) (a b:List UInt8) (ha:a.length=32) (hb:b.length=32) (hi:i<n) (hj:j<n)
  (hA:V.rangeAt blk (i*32) (a.map bv)) (hB:V.rangeAt blk (j*32) (b.map bv)) :
  Calls Tryz.prog 42 #[.int .i64 i,.int .i64 j,.pointer (some ⟨xb,0,none⟩)] V fun e w'=>e = .returned (.bool (za5 a b))∧∃ q os,w'=grow (V.drewN q) os:=by
 obtain ⟨AB,hAB⟩:∃ l,l=a.map bv:=⟨_,rfl⟩
 obtain ⟨BB,hBB⟩:∃ l,l=b.map bv:=⟨_,rfl⟩
 have hAl:AB.length=32:=by rw[hAB];simp[ha]
 have hBl:BB.length=32:=by rw[hBB];simp[hb]
 have hiA:(Tryz.prog.info? 47).map (·.size)=some AB.length:=by rw[hAl];exact zax
 have hiB:(Tryz.prog.info? 47).map (·.size)=some BB.length:=by rw[hBl];exact zax
 obtain ⟨WD,hWD⟩:∃ W,W=V.drew:=⟨_,rfl⟩
 have hcx:∀ U,WD.grownBy U none→U.cell? ⟨xb,0,none⟩=some (.slice (some ⟨blk,0,none⟩) n c):=fun U g=>(Blk.kept (show Blk WD xb _ _ by rw[hWD];exact hx) g (by simp)).cell 0
 rw[← hAB] at hA
 rw[← hBB] at hB
 have hAD:WD.rangeAt blk (i*32) AB:=by rw[hWD];exact hA
 have hBD:WD.rangeAt blk (j*32) BB:=by rw[hWD];exact hB
 have hc:=zhu WD a b ha hb
 rw[show keyV a = .agg AB.toArray by rw[hAB];rfl,show keyV b = .agg BB.toArray by rw[hBB];rfl] at hc
 obtain ⟨y,hy⟩:∃ y,y=za5 a b:=⟨_,rfl⟩
 rw[← hy] at hc ⊢
 have hfin:∀ q os,∃ q' os',grow (WD.drewN q) os=grow (V.drewN q') os':=fun q os=>⟨1+q,os,by rw[hWD,show V.drew=V.drewN 1 from rfl,World.drewN_drewN]⟩
 have ni:((i:Nat):Int)<(n:Int):=by omega
 have nj:((j:Nat):Int)<(n:Int):=by omega
 obtain ⟨HF,HC,HIA,HIB,HAD,HBD⟩:=zh6 hfin hc hiA hiB hAD hBD
 obtain ⟨HWD,HCX⟩:=zh2 hWD hcx
 clear hcx hAB hBB hAl hBl hiA hiB hA hB hAD hBD hc hy hfin hx ha hb hWD
 go_enter Tryz.func42,Tryz.ntmps42
 go_upto_region 1 with fail
 refine wp_region_noPanic ?_
 refine wp_region_held_drew (S:=fun V=>WD.grownBy V none) (by kernel_rfl) (by rw[← uh HWD];exact zab _ _) (fun _ => ?_)
 rw[← uh HWD]
 refine tz 0 6 (.load 59 (.tmp 2)) ((.slice (some ⟨blk,0,none⟩) n c)) (zab _ _) ?_ (y:=(Or.inl ⟨by rfl,fun V hV=>by (have q9:=uh HCX V hV;go_simp)⟩))
 refine tq 1 7 (.move (.tmp 0)) ((.int .i64 (i:Int))) (zab _ _) ?_
 refine tz 2 8 (.indexAddr 59 (.tmp 6) (.tmp 7)) ((.pointer (some ⟨blk,i*32,none⟩))) (zab _ _) ?_ (y:=(Or.inl ⟨by rfl,fun V hV=>by (have q9:=uh HCX V hV;go_simp)⟩))
 refine tz 3 9 (.load 47 (.tmp 8)) (.agg AB.toArray) (zab _ _) ?_ (y:=(yieldsIf_load_mid (by rfl) _ _ rfl _ _ rfl _ _ (fun V hV=>zad (uh HAD) hV (by simp)) Tryz.underlying47 rfl (uh HIA)))
 (try simp only[pq])
 refine tz 4 10 (.load 59 (.tmp 2)) ((.slice (some ⟨blk,0,none⟩) n c)) (zab _ _) ?_ (y:=(Or.inl ⟨by rfl,fun V hV=>by (have q9:=uh HCX V hV;go_simp)⟩))
 refine tq 5 11 (.move (.tmp 1)) ((.int .i64 (j:Int))) (zab _ _) ?_
 refine tz 6 12 (.indexAddr 59 (.tmp 10) (.tmp 11)) ((.pointer (some ⟨blk,j*32,none⟩))) (zab _ _) ?_ (y:=(Or.inl ⟨by rfl,fun V hV=>by (have q9:=uh HCX V hV;go_simp)⟩))
 refine tz 7 13 (.load 47 (.tmp 12)) (.agg BB.toArray) (zab _ _) ?_ (y:=(yieldsIf_load_mid (by rfl) _ _ rfl _ _ rfl _ _ (fun V hV=>zad (uh HBD) hV (by simp)) Tryz.underlying47 rfl (uh HIB)))
 (try simp only[pq])
 refine rdq 8 (some 14) (.call { callee := .value (.func 43),args := #[(.tmp 9),(.tmp 13)],argTypes := #[47,47] }) (fun K9 hK9 => ?_)
 go_simp
 go_at_call 43
 refine (uh HC).mono ?_
 rintro e w2 ⟨rfl,q,os,rfl⟩
 have HG9:=hide (zfu WD q os)
 go_wp2_with fail
 refine hK9.out _ _ (uh HG9) (fun _ => ?_)
 clear hK9 K9
 refine tq 9 5 (.assign (.tmp 14)) ((.bool y)) (uh HG9) ?_
 (try simp only[pq])
 refine wpAnyH_done (by kernel_rfl) ?_ _
 refine NoPanic.normal ?_
 go_wp2
 go_ret
 exact ⟨rfl,uh HF _ _⟩
theorem zmo:∃ i,Tryz.prog.info? 59=some i∧i.desc = .slice 47:=by
 have h:(Tryz.prog.info? 59).map (·.desc)=some (.slice 47):=by kernel_rfl
 cases e:Tryz.prog.info? 59 with
 | none=>rw[e] at h;cases h
 | some i=>rw[e] at h;exact ⟨i,rfl,by simpa using h⟩
theorem zp1:∃ i,Tryz.prog.info? 47=some i∧i.size=32∧i.hasPointers=false∧i.bytes=32:=by
 have h:(Tryz.prog.info? 47).map (fun i=>(i.size,i.hasPointers,i.bytes))=some (32,false,32):=by kernel_rfl
 cases e:Tryz.prog.info? 47 with
 | none=>rw[e] at h;cases h
 | some i =>
  rw[e] at h
  simp only[Option.map_some,Option.some.injEq,Prod.mk.injEq] at h
  exact ⟨i,rfl,h.1,h.2.1,h.2.2⟩
theorem zp2:∀ args w,(callFunc 42 args).run Tryz.prog w = .ok (.enter 42 args) w:=enters_of Tryz.func42 (by kernel_rfl) rfl
theorem ziw (w:World) (base xb:Nat) (v:Value) (L:List (List UInt8)) (ho:w.ownsRow base 47 32 v L.length (L.flatMap (·.map bv))) (hi:∀ x∈L,x.length=32) (hx:Blk w xb 59 [v]) (hm:L.length≤100000) :
  Calls Tryz.prog 41 #[.iface 59 v,.func (.func 42) #[] #[.pointer (some ⟨xb,0,none⟩)]] w fun e w'=>e = .returned (.tuple #[])∧∃ L',L'.Perm L∧zjn L'∧w'.ownsRow base 47 32 v L.length (L'.flatMap (·.map bv))∧w.grownBy w' v.ownBlock:=by
 obtain ⟨i,i1,i2⟩:=zmo
 obtain ⟨ie,j1,j2,j3,j4⟩:=zp1
 have hpk:Tryz.prog.packed 59=false:=by kernel_rfl
 have hke:∀ w,(Extern.Rtype.kind 47).run Tryz.prog w = .ok 17 w:=fun _=>by kernel_rfl
 have k0:∀ n:Nat,n=0→swapperK n ie 17=1:=fun n h=>by subst h;rfl
 have k1:∀ n:Nat,n=1→swapperK n ie 17=2:=fun n h=>by subst h;rfl
 have k2:∀ n:Nat,2≤n→swapperK n ie 17=9:=fun n h2=>by
  have c:(n == 0)=false:=by simp;omega
  have d:(n == 1)=false:=by simp;omega
  simp[swapperK,j3,j4,c,d]
 rcases ho.2 with ⟨rfl,h0⟩ | ⟨g,cap,cur,rfl,hg,hh,h3,h4,h5,h6⟩
 ·have:L=[]:=List.eq_nil_of_length_eq_zero h0
  subst this
  have c:=Any.sort_Slice_tiny (P:=Tryz.prog) (ρ:=soR) soL 59 47 i ie i1 i2 hpk j1 17 hke none 0 0 (by omega) 83 (by rw[k0 0 rfl];kernel_rfl) (.func 42) #[] #[.pointer (some ⟨xb,0,none⟩)] w
  refine Calls.mono (show Calls Tryz.prog 41 _ w _ from c) ?_
  rintro e w' ⟨rfl,os,rfl⟩
  have gg:w.grownBy (grow w os) none:=zfu w 0 os
  exact ⟨rfl,[],List.Perm.refl _,List.Pairwise.nil,World.ownsRow_nil _ _ _ _,zao _ gg⟩
 ·have hgl:g<w.heap.size:=(Array.getElem?_eq_some_iff.1 hh).1
  by_cases h2:L.length≤1
  ·have hfs:Tryz.prog.funcs.findIdx? (·.name == "internal/reflectlite" ++ ".Swapper$" ++ toString (swapperK L.length ie 17))=some (if L.length=0 then 83 else 84):=by
    by_cases h00:L.length=0
    ·rw[k0 _ h00,if_pos h00];kernel_rfl
    ·rw[k1 _ (by omega),if_neg h00];kernel_rfl
   have c:=Any.sort_Slice_tiny (P:=Tryz.prog) (ρ:=soR) soL 59 47 i ie i1 i2 hpk j1 17 hke (some ⟨g,0,none⟩) L.length cap h2 _ hfs (.func 42) #[] #[.pointer (some ⟨xb,0,none⟩)] w
   refine Calls.mono (show Calls Tryz.prog 41 _ w _ from c) ?_
   rintro e w' ⟨rfl,os,rfl⟩
   have gg:w.grownBy (grow w os) none:=zfu w 0 os
   refine ⟨rfl,L,List.Perm.refl _,?_,ho.kept gg (Or.inr (fun e=>by cases e)),zao _ gg⟩
   match L,h2 with
   | [],_=>exact List.Pairwise.nil
   | [x],_=>exact List.pairwise_singleton _ _
  ·obtain ⟨D,hD⟩:∃ D:List Nm,D=L.pmap Subtype.mk hi:=⟨_,rfl⟩
   have hDL:D.map (·.1)=L:=by rw[hD,List.map_pmap];simp
   have hDl:D.length=L.length:=by rw[hD,List.length_pmap]
   have hfl:D.flatMap encN=L.flatMap (·.map bv):=by rw[← hDL,List.flatMap_map];rfl
   have hH:HoldsK encN 32 w g 0 D.toArray:=by
    intro j hj
    have hj' : j<L.length*32:=by rw[size_flatK] at hj;simpa[hDl] using hj
    refine ⟨?_,by simp[World.frozen?,hh]⟩
    have h1:(cur.toList.take (L.length*32))[j]? = (L.flatMap (·.map bv))[j]? := by rw[h6]
    rw[List.getElem?_take_of_lt hj',← hfl] at h1
    simp only[World.cell?,hh,Nat.zero_add]
    simp only[Option.isSome_none,Bool.false_eq_true,if_false]
    rw[← Array.getElem?_toList,h1,getElem!_pos (flatK encN 32 D.toArray) j hj]
    have:=zgd D.toArray
    simp only at this
    rw[← this,Array.getElem?_toList,Array.getElem?_eq_getElem hj]
    rfl
   have hsz:D.toArray.size=L.length:=by simp[hDl]
   have hxg:xb≠g:=by
    rintro rfl
    unfold Blk at hx
    rw[hh] at hx
    injection hx with hx
    injection hx with _ hx
    cases hx
   obtain ⟨w0,hw0⟩:∃ w0,w0=sliceWorld Tryz.prog soR 59 (some ⟨g,0,none⟩) L.length cap w:=⟨_,rfl⟩
   have gw0:w.grownBy w0 none:=by rw[hw0];unfold sliceWorld;exact zai (zai (zab _ _) _) _
   have hH0:HoldsK encN 32 w0 g 0 D.toArray:=by
    rw[hw0]
    unfold sliceWorld
    rw[alloc_eq_grow,alloc_eq_grow,grow_grow]
    exact holdsK_grow encN 32 w _ g 0 _ hgl hH
   have hg0:g<w0.heap.size:=Nat.lt_of_lt_of_le hgl gw0.size
   have hx0:Blk w0 xb 59 [.slice (some ⟨g,0,none⟩) L.length cap]:=hx.kept gw0 (by simp)
   have S:Srt ltN 42 #[.pointer (some ⟨xb,0,none⟩)] 91 #[.slice (some ⟨g,0,none⟩) L.length cap,typeHandle Tryz.prog 47] g L.length w0:=by
    refine ⟨zp2,by omega,⟨D.toArray,hsz,hH0⟩,hg0,?_,?_⟩
    ·intro m os dk hs i j hi hj
     have hR:Row g L.length w0 dk (sortWorldK encN 32 w0 g 0 m dk os):=⟨hs,m,os,rfl⟩
     have hHk:HoldsK encN 32 (sortWorldK encN 32 w0 g 0 m dk os) g 0 dk:=hR.2.holds hg0 hH0 (by rw[hs,hsz])
     have hxk:Blk (sortWorldK encN 32 w0 g 0 m dk os) xb 59 [.slice (some ⟨g,0,none⟩) L.length cap]:=hx0.kept (zg3 w0 g m dk os) (fun e=>hxg (by injection e))
     have rg:∀ t,t<L.length→(sortWorldK encN 32 w0 g 0 m dk os).rangeAt g (t*32) (dk[t]!.1.map bv):=fun t ht u x hu=>by
      have hu' : u<32:=by
       have:=(List.getElem?_eq_some_iff.1 hu).1
       simpa[dk[t]!.2] using this
      have:=(hHk.cell (i:=t) (c:=u) (by omega) hu').1
      rw[Nat.zero_add] at this
      rw[this]
      have e:(encN dk[t]!)[u]! = x:=by
       show (dk[t]!.1.map bv)[u]! = x
       rw[getElem!_pos _ u (List.getElem?_eq_some_iff.1 hu).1]
       exact (List.getElem?_eq_some_iff.1 hu).2
      rw[e]
     exact zmn _ xb g L.length cap hxk i j _ _ dk[i]!.2 dk[j]!.2 hi hj (rg i hi) (rg j hj)
    ·exact swapSwapsK_of_literal (P:=Tryz.prog) false 91 (fun args W=>run_callFunc_extern Tryz.func91 (by kernel_rfl) (by kernel_rfl) (by kernel_rfl) (e:=Extern.ReflectliteSwapper.swap false) (by kernel_rfl) args W) 47 ie j1 encN 32 zci j2 zqt (fun x v hv=>zaw _ v hv) g 0 L.length cap
   have hR0:Row g L.length w0 D.toArray w0:=⟨hsz,SWK.start hH0⟩
   have hbl:Lib.bitLen L.length<4611686018427387904:=by
    have:=Lib.bitLen_le L.length 62 (by omega) (by omega)
    omega
   have hp:=zp0 S zqu (L.length+1) 0 L.length (Lib.bitLen L.length) D.toArray w0 (by omega) hR0 (Nat.zero_le _) (Nat.le_refl _) hbl (Or.inl rfl)
   have hp2:Calls Tryz.prog (soR.f 14) #[.agg #[.func (.func 42) #[] #[.pointer (some ⟨xb,0,none⟩)],.func (.func 91) #[] (sliceBound Tryz.prog 47 ie 17 (some ⟨g,0,none⟩) L.length cap)],.int .i64 0,.int .i64 L.length,.int .i64 (Lib.bitLen L.length)] (sliceWorld Tryz.prog soR 59 (some ⟨g,0,none⟩) L.length cap w) fun e w'=>e = .returned (.tuple #[])∧(Row g L.length w0 (pdq ltN D.toArray 0 L.length (Lib.bitLen L.length) true true) w'∧w0.grownBy w' (some g)):=by
    have hB:sliceBound Tryz.prog 47 ie 17 (some ⟨g,0,none⟩) L.length cap = #[.slice (some ⟨g,0,none⟩) L.length cap,typeHandle Tryz.prog 47]:=by
     unfold sliceBound
     rw[if_neg (by rw[k2 _ (by omega)];decide)]
    rw[hB,← hw0]
    exact hp
   have c:=Any.sort_Slice_of_pdq (P:=Tryz.prog) (ρ:=soR) soL 59 47 i ie i1 i2 hpk j1 17 hke (some ⟨g,0,none⟩) L.length cap (by omega) 91 (by rw[k2 _ (by omega)];kernel_rfl) (.func 42) #[] #[.pointer (some ⟨xb,0,none⟩)] w _ hp2
   refine Calls.mono (show Calls Tryz.prog 41 _ w _ from c) ?_
   rintro e w' ⟨rfl,hR,hgr⟩
   obtain ⟨pS,sS⟩:=pdq_sorts ltN zqu D.toArray 0 L.length (Lib.bitLen L.length) true true (Nat.zero_le _) (by rw[hsz];exact Nat.le_refl _) (Or.inl rfl)
   obtain ⟨d',hd'⟩:∃ d',d'=pdq ltN D.toArray 0 L.length (Lib.bitLen L.length) true true:=⟨_,rfl⟩
   rw[← hd'] at hR pS sS
   obtain ⟨hsd,m,os,hw'⟩:=hR
   have hperm:d'.toList.Perm D:=by
    have:=pS.2.2
    rw[show d'.extract 0 L.length=d' by rw[← hsd];simp,show D.toArray.extract 0 L.length=D.toArray by rw[← hsz];simp] at this
    simpa using this
   have hpm:(d'.toList.map (·.1)).Perm L:=by rw[← hDL];exact hperm.map _
   refine ⟨rfl,d'.toList.map (·.1),hpm,?_,?_,?_⟩
   ·unfold zjn
    rw[List.pairwise_iff_getElem]
    intro i j hi hj hij
    have hj' : j<d'.size:=by simpa using hj
    have hi' : i<d'.size:=by omega
    have h1:=sS i j (Nat.zero_le _) hij (by omega)
    rw[getElem!_pos d' j hj',getElem!_pos d' i hi'] at h1
    simpa[ltN] using h1
   ·have hfl2:(d'.toList.map (·.1)).flatMap (·.map bv)=d'.toList.flatMap encN:=by rw[List.flatMap_map];rfl
    rw[hfl2]
    have hh0:w0.heap[g]? = some (.cells cur 47 (0,0)):=by rw[gw0.block g hgl (by simp)];exact hh
    refine ⟨?_,Or.inr ⟨g,cap,_,rfl,hg,by rw[hw'];exact zk0 d' hh0,h3,h4,by simp[putCells,h5],?_⟩⟩
    ·rw[zcm encN 32 d'.toList (fun x _=>zci x)];simp[hsd]
    ·rw[← hsd]
     exact zmm cur d' (by rw[hsd,h5];exact Nat.mul_le_mul_right 32 h3)
   ·exact zac (zao _ gw0) hgr (fun _ e=>Or.inr e)
end Go.Proofs.YtegbbkgmiklhcaaGreatDoor
