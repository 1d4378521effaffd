/- Lemmas. -/
import Derived.Test.YtegbbkgmiklhcaaGreatDoorPkG
import Derived.Test.YtegbbkgmiklhcaaGreatDoorPkC
import Derived.Deep.Upon
namespace Go.Proofs.YtegbbkgmiklhcaaGreatDoor
open Go.RowKit
def zi1 (w w' : World) (b x:List UInt8) (e:Ending):Prop :=
 (∃ s o v,PackOf b s∧o∈s∧obId o=x∧e = .returned (.tuple #[.agg #[.int .i64 o.1,v],.int .i64 0])∧NewB w w' v o.2∧w.grownBy w' none) ∨
 (∃ s,PackOf b s∧x∉s.map obId∧e = .returned (.tuple #[.agg #[.int .i64 0,.slice none 0 0],.int .i64 13])∧w.grownBy w' none) ∨
 (e = .returned (.tuple #[.agg #[.int .i64 0,.slice none 0 0],.int .i64 11])∧(∀ t,¬ PackOf b t)∧w.grownBy w' none)
theorem zhz (k:Int) (ao:Option Addr) (n c:Nat):(#[Value.int .i64 k,Value.slice ao n c]:Array Value).all (·.oneCell')=true:=by simp[Value.oneCell']
theorem zmz:∃ Z:Array Value,Z.size=34∧∀ w,(zeroValue 49).run Tryz.prog w = .ok (.agg Z) w:=⟨_,by simp[plC],zd4⟩
set_option maxRecDepth 100000 in
set_option maxHeartbeats 8000000 in
theorem zfy (w:World) (ao:Option Addr) (c:Nat) (b:List UInt8) (hb:Bts w ao c b) (hl:b.length≤200000) (hT:Tabs w) (x:List UInt8) (hx:x.length=32) :
  Calls Tryz.prog 18 #[.slice ao b.length c,.agg (x.map bv).toArray] w fun e w'=>zi1 w w' b x e:=by
 have co:∀ V,w.grownBy V none→Calls Tryz.prog 29 #[.slice ao b.length c] V fun e w'=>zoy V w' b e:=fun V g=>zej V ao c b (hb.kept g (fun _ e=>by cases e)) hl (hT.kept0 g)
 have cr:∀ V,w.grownBy V none→_:=fun V g=>zge V ao c b (hb.kept g (fun _ e=>by cases e)) hl
 obtain ⟨n,hn⟩:∃ n,n=b.length:=⟨_,rfl⟩
 rw[← hn] at co ⊢
 simp only[← hn] at cr
 obtain ⟨KB,hKB⟩:∃ k,k=x.map bv:=⟨_,rfl⟩
 rw[← hKB]
 have hKl:KB.length=32:=by rw[hKB,List.length_map,hx]
 have hiK:(Tryz.prog.info? 47).map (·.size)=some KB.length:=by rw[hKl];exact zax
 obtain ⟨W1,hW1,hB1,g1⟩:=zah w 47 KB
 obtain ⟨W2,hW2,hB2,g2⟩:∃ W2,W2=W1.alloc (.cells #[.int .i64 0,.slice none 0 0] 42)∧Blk W2 W1.heap.size 42 [.int .i64 0,.slice none 0 0]∧W1.grownBy W2 none:=zah W1 _ _
 have hs1:W1.heap.size=w.heap.size+1:=by rw[hW1];simp
 rw[hs1] at hB2
 have G2:=tn g1 g2
 have hB12:=hB1.kept g2 (by simp)
 have co2:=co W2 G2
 obtain ⟨ZP,hZP,hzp⟩:=zmz
 have HW:=hide (show W2=(w.alloc (.cells KB.toArray 47)).alloc (.cells #[.int .i64 0,.slice none 0 0] 42) by rw[hW2,hW1])
 obtain ⟨HB1,HB2,HG2,HCR,HN,HKB⟩:=zh6 hB12 hB2 G2 cr hn hKB
 obtain ⟨HIK,HX,HZP⟩:=zh3 hiK hx hZP
 clear cr co hn hb hl hT hKB hKl hiK hW1 hB1 g1 hW2 hB2 g2 hs1 G2 hB12 hx hZP
 go_enter Tryz.func18,Tryz.ntmps18
 go_wp2_with (rw[← uh HW])
 refine co2.mono ?_
 rintro e w3 hop
 clear co2
 rcases hop with ⟨v,m,s,K,rfl,hP,hO,hM,hK,g3⟩ | ⟨rfl,hno,g3⟩
 ·have HP:=hide hP
  obtain ⟨HM,HK,HG3⟩:=zh3 hM hK g3
  have hB1:=(uh HB1).kept g3 (by simp)
  have hB2:=(uh HB2).kept g3 (by simp)
  have hr1:=zal hB1
  obtain ⟨HR1,HB3⟩:=zh2 hr1 hB2
  clear hP hM hK g3 hB1 hB2 hr1 hO
  by_cases hin:x∈s.map obId
  ·obtain ⟨o,hos,hoi⟩:=List.mem_map.1 hin
   obtain ⟨i,hi,hio⟩:=List.mem_iff_getElem.1 hos
   obtain ⟨a9,ha9⟩:∃ z,z=offO s i:=⟨_,rfl⟩
   obtain ⟨n9,hn9⟩:∃ z,z=5+o.2.length:=⟨_,rfl⟩
   obtain ⟨PC,hPC⟩:∃ P,P=plC x a9 n9:=⟨_,rfl⟩
   have hPl:PC.length=34:=by rw[hPC];exact zp9 x (uh HX) _ _
   have hlu:(Instr.lookup 70 (.map (some m)) (.agg KB.toArray) true).run Tryz.prog w3 = .ok (.tuple #[.agg PC.toArray,.bool true]) w3:=by
    have:=(uh HM).look 70 49 Tryz.underlying70 _ (zd4 w3) x (uh HX) true
    have hg:=(uh HK).get i hi
    rw[hio,hoi] at hg
    rw[hg] at this
    rw[uh HKB,hPC,ha9,hn9]
    exact this
   obtain ⟨hsg1,hsg2⟩:=zg6 (uh HP) hi
   rw[hio,← ha9,← hn9] at hsg1 hsg2
   obtain ⟨W5,hW5,hB5,g5⟩:=zbg w3 49 ZP PC
   have hBN:Blk (w3.alloc (.cells ZP 49)) w3.heap.size 49 ZP.toList:=by simpa using Blk.new w3 49 ZP.toList
   have h5:=zal hB5
   have hiP:(Tryz.prog.info? 49).map (·.size)=some PC.length:=by rw[hPl];exact zjr
   have hiP2:(Tryz.prog.info? 49).map (·.size)=some PC.toArray.size:=by simpa using hiP
   have hZK:ZP.toList.toArray.size=PC.toArray.size:=by simp[uh HZP,hPl]
   have hPo:PC.toArray.all (·.oneCell')=true:=all_oneCell_toArray (by rw[hPC];exact zi0 _ _ _)
   have cq:=uh HCR W5 (tn (tn (uh HG2) (uh HG3)) g5) x (uh HX) a9 n9 (by rw[uh HN];exact hsg1) o ((uh HP).ok o hos) hsg2
   rw[← hPC] at cq
   have HB35:=hide ((uh HB3).kept g5 (by simp))
   obtain ⟨HLU,HBN,HW5,H5,HIP,HIP2⟩:=zh6 hlu hBN hW5 h5 hiP hiP2
   obtain ⟨HZK,HPO⟩:=zh2 hZK hPo
   have HOS:=hide (And.intro hos hoi)
   have HG5:=hide (tn (tn (uh HG2) (uh HG3)) g5)
   clear hlu hBN hW5 h5 hiP hiP2 hZK hPo hos hoi g5 hB5 hsg1 hsg2 hPl hPC ha9 hn9 hio hi hin
   go_wp2_with (first
    | (refine wpList_load_mid rfl 47 _ rfl w.heap.size 0 rfl KB _ (uh HR1) Tryz.underlying47 rfl (uh HIK) ?_;clear HR1)
    | (rw[uh HLU])
    | (refine wpList_store_row rfl 49 _ _ rfl w3.heap.size PC.toArray rfl rfl _ _ (uh HBN) (uh HIP2) (uh HZK) (uh HPO) ?_;rw[← uh HW5])
    | (refine wpList_load_mid rfl 49 _ rfl w3.heap.size 0 rfl PC _ (uh H5) Tryz.underlying49 rfl (uh HIP) ?_;clear H5))
   refine cq.mono ?_
   rintro e w6 ⟨v6,rfl,⟨a6,c6,rfl,hb6,ht6⟩,g6⟩
   clear cq
   have hBr:=(uh HB35).kept g6 (by simp)
   have HN6:=hide (And.intro hb6 ht6)
   have HG6:=hide (tn (uh HG5) g6)
   have HS:=hide (show w.heap.size≤W5.heap.size from (uh HG5).size)
   clear hb6 ht6 g6
   go_wp2_with (refine wpList_store_row rfl 42 _ _ rfl (w.heap.size+1) #[.int .i64 o.1,.slice a6 o.2.length c6] rfl rfl _ _ hBr zam rfl (zhz _ _ _ _) ?_)
   obtain ⟨hb6,ht6⟩:=uh HN6
   have g7:w6.grownBy (w6.setRow (w.heap.size+1) #[.int .i64 o.1,.slice a6 o.2.length c6]) (some (w.heap.size+1)):=zaq (zab _ _) _ (Or.inr rfl)
   have h2:w.heap.size+1<W5.heap.size:=(uh HB35).lt
   refine bodyPost_ret (zag rfl _ _ _ _ _ _ _ rfl (hBr.row [.int .i64 o.1,.slice a6 o.2.length c6]) Tryz.underlying42 rfl zam) rfl ?_
   refine Or.inl ⟨s,o,_,uh HP,(uh HOS).1,(uh HOS).2,rfl,⟨a6,c6,rfl,hb6.kept g7 (fun y e => ?_),fun ad e=>⟨?_,(ht6 ad e).2.kept g7 ?_⟩⟩,zaq (uh HG6) _ (Or.inl (Nat.le_succ _))⟩
   ·cases e
    intro ad e2
    have:=(ht6 ad e2).1
    omega
   ·have:=(ht6 ad e).1
    omega
   ·have:=(ht6 ad e).1
    simp only[ne_eq,Option.some.injEq]
    omega
  ·obtain ⟨PC,hPC⟩:∃ P,P=ZP.toList:=⟨_,rfl⟩
   have hZP2:ZP=PC.toArray:=by rw[hPC]
   have hlu:(Instr.lookup 70 (.map (some m)) (.agg KB.toArray) true).run Tryz.prog w3 = .ok (.tuple #[.agg PC.toArray,.bool false]) w3:=by
    have:=(uh HM).look 70 49 Tryz.underlying70 _ (hzp w3) x (uh HX) true
    rw[zht (fun h=>hin (((uh HK).keys x).1 h))] at this
    rw[uh HKB,← hZP2]
    exact this
   have hP1:∀ u∈PC,u.oneCell'=true:=by
    have h1:=hzp w3
    rw[zd4 w3] at h1
    injection h1 with h1
    injection h1 with h1
    rw[hPC,← h1]
    exact zi0 _ _ _
   have hPl:PC.length=34:=by rw[hPC];simpa using uh HZP
   obtain ⟨W5,hW5,hB5,g5⟩:=zbg w3 49 ZP PC
   have hBN:Blk (w3.alloc (.cells ZP 49)) w3.heap.size 49 ZP.toList:=by simpa using Blk.new w3 49 ZP.toList
   have hiP2:(Tryz.prog.info? 49).map (·.size)=some PC.toArray.size:=by rw[List.size_toArray,hPl];exact zjr
   have hZK:ZP.toList.toArray.size=PC.toArray.size:=by simp[uh HZP,hPl]
   have hPo:PC.toArray.all (·.oneCell')=true:=all_oneCell_toArray hP1
   have hBr:=(uh HB3).kept g5 (by simp)
   obtain ⟨HLU,HBN,HW5,HIP2,HZK,HPO⟩:=zh6 hlu hBN hW5 hiP2 hZK hPo
   have HIN:=hide hin
   have HG5:=hide (tn (tn (uh HG2) (uh HG3)) g5)
   clear hlu hBN hW5 hiP2 hZK hPo g5 hB5 hP1 hin hPC hZP2 hPl
   go_wp2_with (first
    | (refine wpList_load_mid rfl 47 _ rfl w.heap.size 0 rfl KB _ (uh HR1) Tryz.underlying47 rfl (uh HIK) ?_;clear HR1)
    | (rw[uh HLU])
    | (refine wpList_store_row rfl 49 _ _ rfl w3.heap.size PC.toArray rfl rfl _ _ (uh HBN) (uh HIP2) (uh HZK) (uh HPO) ?_;rw[← uh HW5])
    | (refine wpList_store_row rfl 42 _ _ rfl (w.heap.size+1) #[.int .i64 0,.slice none 0 0] rfl rfl _ _ hBr zam rfl (zhz _ _ _ _) ?_))
   refine bodyPost_ret (zag rfl _ _ _ _ _ _ _ rfl (hBr.row [.int .i64 0,.slice none 0 0]) Tryz.underlying42 rfl zam) rfl ?_
   exact Or.inr (Or.inl ⟨s,uh HP,uh HIN,rfl,zaq (uh HG5) _ (Or.inl (Nat.le_succ _))⟩)
 ·have hB2:=(uh HB2).kept g3 (by simp)
  have HNO:=hide hno
  have HG3:=hide (tn (uh HG2) g3)
  clear hno g3
  go_wp2_with (refine wpList_store_row rfl 42 _ _ rfl (w.heap.size+1) #[.int .i64 0,.slice none 0 0] rfl rfl _ _ hB2 zam rfl (zhz _ _ _ _) ?_)
  refine bodyPost_ret (zag rfl _ _ _ _ _ _ _ rfl (hB2.row [.int .i64 0,.slice none 0 0]) Tryz.underlying42 rfl zam) rfl ?_
  exact Or.inr (Or.inr ⟨rfl,uh HNO,zaq (uh HG3) _ (Or.inl (Nat.le_succ _))⟩)
theorem zm0 {l:List Ob} (h:∀ o∈l,OkO o):lenO l≤6+zbo l:=by
 unfold lenO zbo
 have:∀ t:List Ob,(∀ o∈t,OkO o)→(t.map fun o=>5+o.2.length).sum≤(t.map fun o=>9+min o.2.length 40000).sum:=by
  intro t
  induction t with
  | nil=>intro _;simp
  | cons o t ih =>
   intro h
   obtain ⟨k,_,_,_,h1⟩:=zdq (h o (by simp))
   have h2:=ih fun q hq=>h q (by simp[hq])
   simp only[List.map_cons,List.sum_cons]
   omega
 have:=this l h
 omega
theorem zk5 {s l:List Ob} (h:s.Perm l):lenO s=lenO l:=by
 unfold lenO
 rw[(h.map _).sum_nat]
theorem zd5 {b:List UInt8} {s l:List Ob} (h:PackOf b s) (p:s.Perm l):b.length=lenO l:=by
 rw[h.eq,zjh,← zk5 p];rfl
theorem zk6 {b:List UInt8} {s l:List Ob} (h:PackOf b s) (p:s.Perm l) (hs:zbo l≤60000):b.length≤60006:=by
 have h1:=zm0 (l:=l) fun o ho=>h.ok o (p.mem_iff.2 ho)
 rw[zd5 h p]
 omega
structure Obw (w:World) (lim base:Nat) (v:Value) (R:List ObP):Prop where
 own:w.ownsRow base 42 2 v R.length (R.flatMap obP)
 bts:∀ r∈R,Bts w r.ao r.c r.d
 typ:∀ r∈R,0<r.d.length→∀ ad,r.ao=some ad→ad.block<lim
 le:lim≤base
theorem Obw.nil (w:World) {lim base:Nat} (h:lim≤base):Obw w lim base (.slice none 0 0) []:=⟨World.ownsRow_nil w base _ 2,(fun _ e=>by cases e),(fun _ e=>by cases e),h⟩
theorem Obw.stay {w a:World} {lim base:Nat} {v:Value} {R:List ObP} (h:Obw w lim base v R) (g:w.grownBy a none):Obw a lim base v R :=
 ⟨zd3 h.own g,fun r hr=>(h.bts r hr).kept g (fun _ e=>by cases e),h.typ,h.le⟩
theorem zqa {w a:World} {ao:Option Addr} {c:Nat} {l:List UInt8} {r:Option Nat} (h:Bts w ao c l) (g:w.grownBy a r) (hr:∀ x,r=some x→0<l.length→Off ao x):Bts a ao c l :=
 ⟨h.zip,h.fits,h.most,h.shape,fun ad e i hi=>g.cell (h.cell ad e i hi) (fun e2=>hr ad.block e2.symm (by omega) ad e rfl)⟩
theorem Obw.puts {w a:World} {lim base:Nat} {v v2:Value} {R M:List ObP} (h:Obw w lim base v R) (hb:∀ r∈M,Bts w r.ao r.c r.d) (ht:∀ r∈M,0<r.d.length→∀ ad,r.ao=some ad→ad.block<lim) (g:w.grownBy a v.ownBlock)
  (ho:a.ownsRow base 42 2 v2 (R++M).length ((R++M).flatMap obP)):Obw a lim base v2 (R++M):=by
 have hle:=h.le
 have all:∀ q∈R++M,Bts w q.ao q.c q.d∧(0<q.d.length→∀ ad,q.ao=some ad→ad.block<lim):=by
  intro q hq
  rcases List.mem_append.1 hq with h1 | h1
  ·exact ⟨h.bts q h1,h.typ q h1⟩
  ·exact ⟨hb q h1,ht q h1⟩
 refine ⟨ho,fun q hq=>zqa (all q hq).1 g (fun x e hl ad e2 e3 => ?_),fun q hq=>(all q hq).2,hle⟩
 have h1:=(h.own.lt x e).1
 have h2:=(all q hq).2 hl ad e2
 omega
theorem Obw.sl {w:World} {lim base:Nat} {v:Value} {R:List ObP} (h:Obw w lim base v R):∃ ao c,v = .slice ao R.length c∧Obsl w ao c R:=by
 obtain ⟨ao,c,h1,h2,h3,h4,h5,h6⟩:=zde obP 2 h.own (fun _ _=>rfl)
 exact ⟨ao,c,h1,⟨h2,h3,h4,fun ad e _=>(h5 ad e).1,h6,h.bts⟩⟩
theorem zm1 {w:World} {ao:Option Addr} {c:Nat} {l:List UInt8} (h:Bts w ao c l) (hl:0<l.length) (ad:Addr) (e:ao=some ad):ad.block<w.heap.size:=by
 have:=h.cell ad e 0 hl
 unfold World.cell? at this
 simp only at this
 cases hh:w.heap[ad.block]? with
 | none=>rw[hh] at this;cases this
 | some o=>exact (Array.getElem?_eq_some_iff.1 hh).1
theorem Obsl.rws {w:World} {ao:Option Addr} {c:Nat} {L:List ObP} (h:Obsl w ao c L) (hL:0<L.length):Rws w 2 obP ao c L :=
 ⟨h.zip,h.fits,h.most,fun ad e=>h.shape ad e hL,h.row⟩
theorem zcs {w:World} {ops:Array Oper} {rest:List Oper} {o:Oper} {a:Act} {Q:Exit→Act→World→Prop} (hgd:o.guard=none) (s x:Operand)
  (ho:o.op = .call { callee := .builtin .append,args := #[s,x],argTypes := #[22,22] })
  (base:Nat) (v:Value) (L M:List ObP) (hs:a.eval s=v) (hown:w.ownsRow base 42 2 v L.length (L.flatMap obP)) (xo:Option Addr) (m c:Nat) (hx:a.eval x = .slice xo m c) (hm:m=M.length) (hM:Obsl w xo c M) (hn:L.length+M.length≤1000000) (hbase:base≤w.heap.size)
  (h:∀ v' w',w'.ownsRow base 42 2 v' (L++M).length ((L++M).flatMap obP)→w.grownBy w' v.ownBlock→wpList Tryz.prog ops Q rest (a.put o.dst v') w'):wpList Tryz.prog ops Q (o::rest) a w:=by
 obtain ⟨i0,hi,hz0,hz1,hz2⟩:=info_parts zhw
 by_cases h0:0<M.length
 ·exact wpList_plain hgd fun _ hK=>zgk s x 22 42 ho i0 _ 2 32 Tryz.underlying22 hi hz0 hz1 hz2 rfl (by decide) obP zli base v L M (fun _ _=>rfl) hs hown xo m c hx hm (hM.rws h0) (by omega) (by omega) hbase
   (fun v' w' q1 q2=>hK _ _ (h v' w' q1 q2))
 ·have hM0:M=[]:=List.eq_nil_of_length_eq_zero (by omega)
  subst hM0
  have hm0:m=0:=hm
  subst hm0
  have hsrc:Src Tryz.prog i0.size 22 (.slice xo 0 c) 0 [] w:=by
   cases xo with
   | none=>exact Src.ofNil w Tryz.underlying22 c
   | some ad=>exact Src.ofSlice w Tryz.underlying22 ad 0 c [] (by simp) (fun j u hu=>by simp at hu) (fun u hu=>by cases hu)
  obtain ⟨va,vc,hv,hle⟩:∃ va vc,v = .slice va L.length vc∧L.length≤vc:=by
   rcases hown.2 with ⟨h1,h2⟩ | ⟨g,cap,cur,h1,_,_,h2,_⟩
   ·exact ⟨none,0,by rw[h1,h2],by omega⟩
   ·exact ⟨_,cap,h1,h2⟩
  refine wpList_plain hgd fun K hK => ?_
  have hrun:=run_append_nothing (P:=Tryz.prog) w 22 22 o.type 42 i0 Tryz.underlying22 hi va L.length vc hle (.slice xo 0 c) hsrc
  have hfin:=hK _ _ (h v w (by simpa using hown) (zab _ _))
  unfold Oper.wp
  rw[hv] at hs hfin
  simp[execOp,ho,resolve,invoke,builtin,hs,hx,hrun,Result.andThen]
  exact hfin
theorem zqb (V:World) (t:TypeId) (K base:Nat) (h:base≤V.heap.size):∃ Wb,Wb=V.alloc (.cells #[] t)∧Wb.ownsRow base t K (.slice (some ⟨V.heap.size,0,none⟩) 0 0) 0 []∧V.grownBy Wb none:=by
 refine ⟨_,rfl,⟨by simp,Or.inr ⟨V.heap.size,0,#[],rfl,h,?_,Nat.le_refl _,by unfold maxLen;omega,by simp,by simp⟩⟩,zai (zab _ _) _⟩
 exact heap_alloc_new V (.cells #[] t)
theorem zom {w w' : World} {b x:List UInt8} {e:Ending} {s:List Ob} {o:Ob} (h:zi1 w w' b x e) (hp:PackOf b s) (ho:o∈s) (hx:obId o=x) :
  ∃ v,e = .returned (.tuple #[.agg #[.int .i64 o.1,v],.int .i64 0])∧NewB w w' v o.2∧w.grownBy w' none:=by
 rcases h with ⟨t,p,v,h1,h2,h3,h4,h5,h6⟩ | ⟨t,h1,h2,-,-⟩ | ⟨-,h1,-⟩
 ·obtain rfl:t=s:=h1.one hp
  obtain rfl:p=o:=zcw h1.ris.nodup h2 ho (by rw[h3,hx])
  exact ⟨v,h4,h5,h6⟩
 ·obtain rfl:t=s:=h1.one hp
  exact absurd (List.mem_map.2 ⟨o,ho,hx⟩) h2
 ·exact absurd hp (h1 _)
theorem zm2 {w w' : World} {b x:List UInt8} {e:Ending} {s:List Ob} (h:zi1 w w' b x e) (hp:PackOf b s) (hx:x∉s.map obId) :
  e = .returned (.tuple #[.agg #[.int .i64 0,.slice none 0 0],.int .i64 13])∧w.grownBy w' none:=by
 rcases h with ⟨t,p,v,h1,h2,h3,h4,h5,h6⟩ | ⟨t,h1,h2,h3,h4⟩ | ⟨-,h1,-⟩
 ·obtain rfl:t=s:=h1.one hp
  exact absurd (List.mem_map.2 ⟨p,h2,h3⟩) hx
 ·exact ⟨h3,h4⟩
 ·exact absurd hp (h1 _)
theorem zg7 {w w' : World} {b x:List UInt8} {e:Ending} {s:List Ob} (h:zi1 w w' b x e) (hp:PackOf b s) :
  ∃ (k:Int) (a:Option Addr) (n c:Nat) (y:Int),e = .returned (.tuple #[.agg #[.int .i64 k,.slice a n c],.int .i64 y])∧y=(if x∈s.map obId then 0 else 13)∧w.grownBy w' none:=by
 by_cases hx:x∈s.map obId
 ·obtain ⟨o,ho,rfl⟩:=List.mem_map.1 hx
  obtain ⟨v,h1,⟨a,c,rfl,-,-⟩,h3⟩:=zom h hp ho rfl
  exact ⟨o.1,a,_,c,0,h1,by rw[if_pos hx],h3⟩
 ·obtain ⟨h1,h2⟩:=zm2 h hp hx
  exact ⟨0,none,0,0,13,h1,by rw[if_neg hx],h2⟩
end Go.Proofs.YtegbbkgmiklhcaaGreatDoor
