/- Lemmas. -/
import Derived.Test.YtegbbkgmiklhcaaGreatDoorPkH
import Derived.Lib.SlBytesConst
import Derived.Deep.DeepCutAuto
namespace Go.Proofs.YtegbbkgmiklhcaaGreatDoor
open Go.RowKit
set_option maxRecDepth 100000
theorem zqp:PackOf [67,80,75,49,0,1,1,0,0,0,1,97] [((1:Int),[97])]:=by
 refine ⟨by decide,fun o ho => ?_,List.pairwise_singleton _ _,by decide⟩
 rw[List.mem_singleton.1 ho]
 show zap 1 [97]=0
 decide
theorem zvs {b:List UInt8} {y:Int} (h:PutP [((1:Int),[97])] b y):b=[67,80,75,49,0,1,1,0,0,0,1,97]∧y=0:=h.one (PutP.of zqp)
set_option maxHeartbeats 4000000 in
theorem zka (w:World) (hT:Tabs w):Calls Tryz.prog 12 #[] w fun e w'=>e = .returned (.bool true)∧w.grownBy w' none:=by
 have hW1:∃ W1,W1=w.alloc (.cells #[.int .u8 97] 5 (1,2))∧Bts W1 (some ⟨w.heap.size,0,none⟩) 1 [97]∧w.grownBy W1 none:=by
  refine ⟨_,rfl,⟨(fun e=>by cases e),by decide,by decide,(fun ad e _=>by cases e;rfl),(fun ad e i hi => ?_)⟩,zad (zaa _ _) _⟩
  cases e
  have hh:=heap_alloc_new w (.cells #[.int .u8 97] 5 (1,2))
  match i,hi with
  | 0,_=>unfold World.cell?;rw[hh];rfl
 have kc:=fun (w:World) (C:Array Value) (n c:Nat)=>Lib.run_convert_bytes_const (P:=Tryz.prog) w 24 5 C n c Tryz.underlying24 Tryz.underlying5
 obtain ⟨W1,hW1,hb1,g1⟩:=hW1
 obtain ⟨W2,hW2,hB2,g2⟩:=zag W1 42 [.int .i64 1,.slice (some ⟨w.heap.size,0,none⟩) 1 1]
 have hbs:(Instr.buildSlice 22 1 #[(0,.agg #[.int .i64 1,.slice (some ⟨w.heap.size,0,none⟩) 1 1])]).run Tryz.prog W1 = .ok (.slice (some ⟨W1.heap.size,0,none⟩) 1 1) W2:=by rw[hW2];exact zs3 _ _ _ _ W1
 have hO:Obsl W2 (some ⟨W1.heap.size,0,none⟩) 1 [⟨1,[97],some ⟨w.heap.size,0,none⟩,1⟩]:=by
  refine ⟨(fun e=>by cases e),by simp,by decide,(fun ad e _=>by cases e;rfl),(fun ad e i hi => ?_),fun r hr => ?_⟩
  ·cases e
   have hi0:i=0:=by simp at hi;omega
   subst hi0
   exact zas hB2
  ·rw[List.mem_singleton.1 hr]
   exact hb1.kept g2 (fun _ e=>by cases e)
 have G2:=tn g1 g2
 have cp:=zsp W2 _ 1 _ hO (by simp) (hT.kept0 G2)
 obtain ⟨HW1,HBS,HG2,HT⟩:=zh4 hW1 hbs G2 hT
 have kc1:=kc w #[.int .u8 97] 1 1
 have hs1:W1.heap.size=w.heap.size+1:=by rw[hW1];simp
 rw[hs1] at cp
 clear hW1 hb1 g1 kc hbs hO G2 hB2 hW2 g2 hT
 go_enter Tryz.func12,Tryz.ntmps12
 go_wp2_with (first
  | (rw[← uh HW1])
  | (refine zaw rfl 22 _ rfl (.agg #[.int .i64 1,.slice (some ⟨w.heap.size,0,none⟩) 1 1]) _ rfl (uh HBS) ?_;(try simp only[pq])))
 refine cp.mono ?_
 rintro e w3 ⟨v3,b3,y3,rfl,hp,⟨a3,c3,rfl,hb3,_⟩,g3⟩
 clear cp HBS
 obtain ⟨rfl,rfl⟩:=zvs (b:=b3) (y:=y3) hp
 have G3:=tn (uh HG2) g3
 have cr:=zj9 w3 a3 c3 _ hb3 (by simp) ((uh HT).kept0 G3)
 clear hp hs1 kc1
 go_wp2_with fail
 refine cr.mono ?_
 rintro e w4 hr4
 clear cr
 rcases hr4 with ⟨v4,R,s,rfl,hP,hRs,hO4,g4⟩ | ⟨rfl,hno,g4⟩
 ·obtain rfl:s=[((1:Int),[97])]:=hP.one zqp
  obtain ⟨r,rfl⟩:∃ r,R=[r]:=List.length_eq_one_iff.1 (by have:=congrArg List.length hRs;simpa using this)
  have hro:r.o=((1:Int),[97]):=by simpa using hRs
  have hrd:r.d=[97]:=congrArg Prod.snd hro
  have hrk:r.k=1:=congrArg Prod.fst hro
  obtain ⟨a4,c4,rfl,hS⟩:=hO4.sl
  obtain ⟨bb,oo,rfl,hrow,hbt⟩:=hS.at 0 (by simp)
  simp only[List.getElem_cons_zero] at hrow hbt
  have cv3:=zat (hb3.kept g4 (fun _ e=>by cases e))
  have cv4:=zat hbt
  rw[hrd] at cv4
  have hc1:=hrow 1 _ rfl
  rw[hrd] at hc1
  rw[show str [67,80,75,49,0,1,1,0,0,0,1,97]=⟨#[67,80,75,49,0,1,1,0,0,0,1,97]⟩ from rfl] at cv3
  rw[show str [97]=⟨#[97]⟩ from rfl] at cv4
  simp only[List.length_cons,List.length_nil,Nat.zero_add,Nat.reduceAdd,Nat.zero_mul,Nat.add_zero] at cv3 cv4 hc1
  have HG:=hide (tn G3 g4)
  clear hP hRs hO4 hS hbt hrow hb3 g4 g3 hro
  go_wp2_with fail
  go_ret
  exact ⟨rfl,uh HG⟩
 ·exact absurd zqp (hno _)
theorem pq0 (w:World) (x:List UInt8) (hx:x.length=32) (a n:Nat):(part 47 (plC x a n).toArray 0).run Tryz.prog w = .ok (.agg (x.map bv).toArray) w:=by
 obtain ⟨a0,a1,a2,a3,a4,a5,a6,a7,a8,a9,a10,a11,a12,a13,a14,a15,a16,a17,a18,a19,a20,a21,a22,a23,a24,a25,a26,a27,a28,a29,a30,a31,rfl⟩:=zea x hx
 kernel_rfl
theorem pq32 (w:World) (x:List UInt8) (hx:x.length=32) (a n:Nat):(part 3 (plC x a n).toArray 32).run Tryz.prog w = .ok (.int .i64 (a:Int)) w:=by
 obtain ⟨a0,a1,a2,a3,a4,a5,a6,a7,a8,a9,a10,a11,a12,a13,a14,a15,a16,a17,a18,a19,a20,a21,a22,a23,a24,a25,a26,a27,a28,a29,a30,a31,rfl⟩:=zea x hx
 kernel_rfl
theorem pq33 (w:World) (x:List UInt8) (hx:x.length=32) (a n:Nat):(part 3 (plC x a n).toArray 33).run Tryz.prog w = .ok (.int .i64 (n:Int)) w:=by
 obtain ⟨a0,a1,a2,a3,a4,a5,a6,a7,a8,a9,a10,a11,a12,a13,a14,a15,a16,a17,a18,a19,a20,a21,a22,a23,a24,a25,a26,a27,a28,a29,a30,a31,rfl⟩:=zea x hx
 kernel_rfl
theorem zob:Tryz.prog.underlying 49=some (.struct (Tryz.prog.fieldsOf 49)):=by kernel_rfl
theorem zsq:Tryz.prog.stoodInHeld 49=false:=by kernel_rfl
theorem zqq:Tryz.prog.eqGuardType Tryz.prog.depth 49=false:=by kernel_rfl
theorem zoc:∃ f0 f1 f2:Field,(Tryz.prog.fieldsOf 49).toList=[f0,f1,f2]∧((f0.name == "_")=false∧f0.type=47∧f0.offset=0)∧((f1.name == "_")=false∧f1.type=3∧f1.offset=32)∧((f2.name == "_")=false∧f2.type=3∧f2.offset=33):=by
 refine ⟨_,_,_,by rw[Program.fieldsOf,Tryz.underlying49],⟨by decide,rfl,rfl⟩,⟨by decide,rfl,rfl⟩,⟨by decide,rfl,rfl⟩⟩
theorem zqr (w:World) (a:Int):(Op.equalIn 9999 3 (.int .i64 a) (.int .i64 a)).run Tryz.prog w = .ok true w:=by
 have:=run_equalIn_int (P:=Tryz.prog) w 9998 3 .i64 .i64 a a Tryz.underlying3
 rw[this];simp
theorem zuh (w:World) (x:List UInt8) (hx:x.length=32) (a n:Nat):(binOp .neq 49 (.agg (plC x a n).toArray) (.agg (plC x a n).toArray)).run Tryz.prog w = .ok (.bool false) w:=by
 obtain ⟨f0,f1,f2,hf,⟨n0,t0,o0⟩,⟨n1,t1,o1⟩,⟨n2,t2,o2⟩⟩:=zoc
 rw[run_neq_struct,run_equalIn_struct w 9999 _ _ _ zob zsq,hf,
  zjg w 9999 _ _ f0 [f1,f2] _ _ _ n0 (by rw[t0,o0];exact pq0 w x hx a n) (by rw[t0,o0];exact pq0 w x hx a n) (by rw[t0];exact zvm w _ hx),if_pos rfl,
  zjg w 9999 _ _ f1 [f2] _ _ _ n1 (by rw[t1,o1];exact pq32 w x hx a n) (by rw[t1,o1];exact pq32 w x hx a n) (by rw[t1];exact zqr w _),if_pos rfl,
  zjg w 9999 _ _ f2 [] _ _ _ n2 (by rw[t2,o2];exact pq33 w x hx a n) (by rw[t2,o2];exact pq33 w x hx a n) (by rw[t2];exact zqr w _),if_pos rfl]
 rfl
theorem zsr (w:World) (k:Int) (s:ByteArray):(binOp .neq 44 (.agg #[.int .i64 k,.string s]) (.agg #[.int .i64 k,.string s])).run Tryz.prog w = .ok (.bool false) w:=by
 rw[run_neq_struct,zf7]
 simp[Result.andThen]
structure RdW (w:World) (b:List UInt8) (s:List Ob) (R:List ObP) (ra xa pa:Option Addr):Prop where
 pk:PackOf b s
 rs:R.map (·.o)=s
 ob:∀ i (h:i<R.length),∃ b o,ra=some ⟨b,o,none⟩∧(∀ V,w.grownBy V none→V.rangeAt b (o+i*2) (obP R[i])∧Bts V R[i].ao R[i].c R[i].d)
 ro:∀ i (h:i<R.length),∃ b o,xa=some ⟨b,o,none⟩∧∀ V,w.grownBy V none→V.rangeAt b (o+i*2) [.int .i64 R[i].k,.string (str R[i].d)]
 pl:∀ i (h:i<R.length),∃ b o,pa=some ⟨b,o,none⟩∧∀ V,w.grownBy V none→V.rangeAt b (o+i*34) (plC (obId R[i].o) (offO s i) (5+R[i].d.length))
theorem zui {s:List Ob} {R:List ObP} (h:R.map (·.o)=s) {i:Nat} (hi:i<R.length):∃ h2:i<s.length,s[i]=R[i].o:=by
 subst h
 exact ⟨by simpa using hi,by simp⟩
theorem zvg {w:World} {b:List UInt8} {s:List Ob} {R:List ObP} {ra xa pa:Option Addr} {rc xc pc l2 l3:Nat} (hp:PackOf b s) (hr:R.map (·.o)=s) (hS:Obsl w ra rc R)
  (hX:∃ base,Rob w base (.slice xa l2 xc) (s.map eE)) (hP:∃ base,w.ownsRow base 49 34 (.slice pa l3 pc) s.length ((List.range s.length).flatMap (plO s))):RdW w b s R ra xa pa:=by
 refine ⟨hp,hr,fun i hi => ?_,fun i hi => ?_,fun i hi => ?_⟩
 ·obtain ⟨b2,o2,e,h1,h2⟩:=hS.at i hi
  exact ⟨b2,o2,e,fun V g=>⟨zah h1 g (by simp),h2.kept g (fun _ e=>by cases e)⟩⟩
 ·obtain ⟨base,hX⟩:=hX
  obtain ⟨x2,c2,e,h1,-⟩:=hX.rws
  injection e with e1
  obtain ⟨h3,h4⟩:=zui hr hi
  obtain ⟨b2,o2,e2,h5⟩:=h1.at i (by simpa using h3)
  refine ⟨b2,o2,by rw[e1];exact e2,fun V g => ?_⟩
  have:=zah h5 g (by simp)
  rw[List.getElem_map,h4] at this
  exact this
 ·obtain ⟨base,hP⟩:=hP
  obtain ⟨h3,h4⟩:=zui hr hi
  have hP2:w.ownsRow base 49 34 (.slice pa l3 pc) (List.range s.length).length ((List.range s.length).flatMap (plO s)):=by rw[List.length_range];exact hP
  obtain ⟨x2,c2,e,h1,-⟩:=Rws.own (plO s) hP2 (fun j _=>zql s j)
  injection e with e1
  obtain ⟨b2,o2,e2,h5⟩:=h1.at i (by rw[List.length_range];exact h3)
  refine ⟨b2,o2,by rw[e1];exact e2,fun V g => ?_⟩
  have:=zah h5 g (by simp)
  rw[List.getElem_range,zs4 h3,h4] at this
  exact this
theorem zqs (s:List Ob):offO s 0=6:=by simp[offO]
theorem zqt {s:List Ob} {i:Nat} (h:i<s.length):offO s (i+1)=offO s i+(5+s[i].2.length):=by
 unfold offO
 rw[List.take_succ_eq_append_getElem h,List.flatMap_append,List.length_append,List.flatMap_cons,List.flatMap_nil,List.append_nil,zht]
 omega
theorem zvh {s:List Ob} (h:RisO s) {o p:Ob} (ho:o∈s) (hp:p∈s) (e:obId o=obId p):o=p:=zd1 h.nodup ho hp e
set_option maxHeartbeats 8000000 in
theorem zli (w:World) (ao:Option Addr) (c:Nat) (b:List UInt8) (hb:Bts w ao c b) (hT:Tabs w) :
  Calls Tryz.prog 4 #[.slice ao b.length c] w fun e w'=>e = .returned (.bool true)∧w.grownBy w' none:=by
 obtain ⟨n,hn⟩:∃ n,n=b.length:=⟨_,rfl⟩
 by_cases hbig:40000<n
 ·have hz:(40000:Int)<(n:Int):=by omega
  rw[← hn]
  clear hn hb hT hbig
  go_enter Tryz.func4,Tryz.ntmps4
  go_wp2
  go_ret
  exact ⟨rfl,zaa _ _⟩
 ·have hz:¬ (40000:Int)<(n:Int):=by omega
  have hl:b.length≤100000:=by omega
  have cr:∀ V,w.grownBy V none→Calls Tryz.prog 13 #[.slice ao b.length c] V fun e w'=>zvc V w' b e:=fun V g=>zj9 V ao c b (hb.kept g (fun _ e=>by cases e)) hl (hT.kept0 g)
  have ci:∀ V,w.grownBy V none→Calls Tryz.prog 15 #[.slice ao b.length c] V fun e w'=>zs6 V w' b e:=fun V g=>zoa V ao c b (hb.kept g (fun _ e=>by cases e)) hl (hT.kept0 g)
  have cd:=fun V=>zlh V b hl
  obtain ⟨SB,hSB⟩:∃ S,S=str b:=⟨_,rfl⟩
  have cv:∀ V,w.grownBy V none→(convert 24 9 (.slice ao b.length c)).run Tryz.prog V = .ok (.string SB) V:=fun V g=>by rw[hSB];exact zat (hb.kept g (fun _ e=>by cases e))
  rw[← hn] at cr ci cv ⊢
  rw[← hSB] at cd
  have cr0:=cr w (zaa _ _)
  have hn9:n≤40000:=by omega
  obtain ⟨HCI,HCV,HT,HB,HN,HCD⟩:=zh6 ci cv hT hb hn cd
  clear ci cv hT hb hn cr hSB hbig hl cd
  go_enter Tryz.func4,Tryz.ntmps4
  go_wp2_with fail
  refine cr0.mono ?_
  rintro e w1 h1
  clear cr0
  rcases h1 with ⟨v1,R,s,rfl,hP,hRs,hO1,g1⟩ | ⟨rfl,hno,g1⟩
  ·obtain ⟨ra,rc,rfl,hS1⟩:=hO1.sl
   obtain ⟨sn,hsn⟩:∃ z,z=R.length:=⟨_,rfl⟩
   rw[← hsn]
   have cv1:=uh HCV w1 g1
   have cd1:=uh HCD w1
   obtain ⟨HP,HRS,HS1,HG1,HSN⟩:=zh5 hP hRs hS1 g1 hsn
   clear hP hRs hO1 hS1 g1 hsn HCD
   go_wp2_with fail
   refine cd1.mono ?_
   rintro e w2 h2
   clear cd1 cv1
   rcases h2 with ⟨v2,s2,rfl,hP2,hX2,g2⟩ | ⟨rfl,hno,g2⟩
   ·obtain rfl:s2=s:=hP2.one (uh HP)
    obtain ⟨xa,xc,rfl,-,-⟩:=hX2.rws
    have hxl:(s2.map eE).length=sn:=by rw[List.length_map,uh HSN,← uh HRS,List.length_map]
    rw[hxl] at hX2 ⊢
    have ci2:=uh HCI w2 (tn (uh HG1) g2)
    have HX2:=hide hX2
    have HS2:=hide ((uh HS1).kept g2)
    have HG2:=hide (tn (uh HG1) g2)
    clear hP2 hX2 hxl g2 HCI HS1 HG1
    go_wp2_with fail
    refine ci2.mono ?_
    rintro e w3 h3
    clear ci2
    rcases h3 with ⟨v3,s3,rfl,hP3,hI3,g3⟩ | ⟨rfl,hno,g3⟩
    ·obtain rfl:s3=s2:=hP3.one (uh HP)
     obtain ⟨pa,pc,rfl⟩:=zcw hI3
     have hsl:s3.length=sn:=by rw[uh HSN,← uh HRS,List.length_map]
     rw[hsl]
     have hW:=zvg (uh HP) (uh HRS) ((uh HS2).kept g3) ⟨_,(uh HX2).kept g3⟩ ⟨_,hI3⟩
     have hs9:sn≤256:=by rw[← hsl];exact (uh HP).few
     have HW:=hide hW
     have HG3:=hide (tn (uh HG2) g3)
     clear hP3 hI3 g3 hW hsl HX2 HS2 HG2
     go_upto_region 6 with fail
     refine zby fun O hO => ?_
     refine zac (by rw[hO];kernel_rfl) (.int .i64 (0:Int)) (fun K9 hK9=>by go_simp;exact hK9) ?_
     (try simp only[pq])
     refine zac (by rw[hO];kernel_rfl) (.int .i64 (0:Int)) (fun K9 hK9=>by go_simp;exact hK9) ?_
     (try simp only[pq])
     refine zac (by rw[hO];kernel_rfl) (.bool false) (fun K9 hK9=>by go_simp;exact hK9) ?_
     (try simp only[pq])
     refine zac (by rw[hO];kernel_rfl) (.bool false) (fun K9 hK9=>by go_simp;exact hK9) ?_
     (try simp only[pq])
     refine zac (by rw[hO];kernel_rfl) (.int .i64 (0:Int)) (fun K9 hK9=>by go_simp;exact hK9) ?_
     (try simp only[pq])
     refine zac (by rw[hO];kernel_rfl) (.int .i64 (0:Int)) (fun K9 hK9=>by go_simp;exact hK9) ?_
     (try simp only[pq])
     refine zac (by rw[hO];kernel_rfl) (.bool false) (fun K9 hK9=>by go_simp;exact hK9) ?_
     (try simp only[pq])
     refine zac (by rw[hO];kernel_rfl) (.bool false) (fun K9 hK9=>by go_simp;exact hK9) ?_
     (try simp only[pq])
     refine zac (by rw[hO];kernel_rfl) (.bool false) (fun K9 hK9=>by go_simp;exact hK9) ?_
     (try simp only[pq])
     refine zac (by rw[hO];kernel_rfl) (.slice ra sn rc) (fun K9 hK9=>by go_simp;exact hK9) ?_
     (try simp only[pq])
     refine zac (by rw[hO];kernel_rfl) (.int .i64 (sn:Int)) (fun K9 hK9=>by go_simp;exact hK9) ?_
     (try simp only[pq])
     refine zac (by rw[hO];kernel_rfl) (.slice xa sn xc) (fun K9 hK9=>by go_simp;exact hK9) ?_
     (try simp only[pq])
     refine zac (by rw[hO];kernel_rfl) (.int .i64 (sn:Int)) (fun K9 hK9=>by go_simp;exact hK9) ?_
     (try simp only[pq])
     refine zac (by rw[hO];kernel_rfl) (.bool false) (fun K9 hK9=>by go_simp;exact hK9) ?_
     (try simp only[pq])
     refine zac (by rw[hO];kernel_rfl) (.bool false) (fun K9 hK9=>by go_simp;exact hK9) ?_
     (try simp only[pq])
     refine zac (by rw[hO];kernel_rfl) (.bool false) (fun K9 hK9=>by go_simp;exact hK9) ?_
     (try simp only[pq])
     refine zac (by rw[hO];kernel_rfl) (.slice pa sn pc) (fun K9 hK9=>by go_simp;exact hK9) ?_
     (try simp only[pq])
     refine zac (by rw[hO];kernel_rfl) (.int .i64 (sn:Int)) (fun K9 hK9=>by go_simp;exact hK9) ?_
     (try simp only[pq])
     refine zac (by rw[hO];kernel_rfl) (.slice ra sn rc) (fun K9 hK9=>by go_simp;exact hK9) ?_
     (try simp only[pq])
     refine zac (by rw[hO];kernel_rfl) (.int .i64 (sn:Int)) (fun K9 hK9=>by go_simp;exact hK9) ?_
     (try simp only[pq])
     refine zac (by rw[hO];kernel_rfl) (.bool false) (fun K9 hK9=>by go_simp;exact hK9) ?_
     (try simp only[pq])
     refine zac (by rw[hO];kernel_rfl) (.bool false) (fun K9 hK9=>by go_simp;exact hK9) ?_
     (try simp only[pq])
     go_wp2_with fail
     go_loopw [9,10,11,12,13] (fun v9 vi _x11 _x12 _x13 wr=>∃ i a9:Nat,vi = .int .i64 i∧i≤sn∧v9 = .int .i64 (a9:Int)∧Hid (a9=offO s3 i∧w3.grownBy wr none)) (fun _ vi _ _ _ _=>sn - (intOf vi).toNat)
     case atStart=>exact ⟨0,6,rfl,Nat.zero_le _,rfl,⟨(zqs _).symm,zaa _ _⟩⟩
     case round =>
      obtain ⟨i,a9,rfl,hin,rfl,HR⟩:=hrel
      by_cases hi:i<sn
      ·have hiz:(i:Int)<(sn:Int):=by omega
       have hiw:IntKind.i64.wrap ((i:Int)+1)=(i:Int)+1:=by rw[IntKind.wrap_i64];omega
       have hiR:i<R.length:=by rw[← uh HSN];exact hi
       obtain ⟨ha9,hg⟩:=uh HR
       obtain ⟨ob,oo,hra,hobj⟩:=(uh HW).ob i hiR
       obtain ⟨xb,xo,hxa,hro⟩:=(uh HW).ro i hiR
       obtain ⟨pb,po,hpa,hpl⟩:=(uh HW).pl i hiR
       obtain ⟨his,hsi⟩:=zui (uh HRS) hiR
       obtain ⟨hsg,-⟩:=zi2 (uh HP) his
       have hoff:=zqt his
       rw[hsi] at hsg hoff
       obtain ⟨r,hr⟩:∃ r,r=R[i]:=⟨_,rfl⟩
       rw[← hr] at hobj hro hpl hsg hoff hsi
       obtain ⟨rk,rd,rao,rc2⟩:=r
       simp only[ObP.o] at hobj hro hpl hsg hoff hsi
       subst hra hxa hpa
       obtain ⟨dl,hdl⟩:∃ z,z=rd.length:=⟨_,rfl⟩
       obtain ⟨n9,hn9b⟩:∃ z,z=5+dl:=⟨_,rfl⟩
       rw[← ha9,← hdl,← hn9b] at hsg hoff
       have hbn:=uh HN
       have hw5:IntKind.i64.wrap (5+(dl:Int))=(n9:Int):=by rw[IntKind.wrap_i64];omega
       have hwa:IntKind.i64.wrap ((a9:Int)+(n9:Int))=((a9+n9:Nat):Int):=by rw[IntKind.wrap_i64];omega
       obtain ⟨TD,hTD⟩:∃ T,T=str rd:=⟨_,rfl⟩
       obtain ⟨IB,hIB⟩:∃ I,I=obId (rk,rd):=⟨_,rfl⟩
       have hIBl:IB.length=32:=by rw[hIB];exact zcb _
       obtain ⟨KB,hKB⟩:∃ k,k=IB.map bv:=⟨_,rfl⟩
       obtain ⟨PC,hPC⟩:∃ P,P=plC IB a9 n9:=⟨_,rfl⟩
       obtain ⟨OC,hOC⟩:∃ C:List Value,C=[.int .i64 rk,.slice rao dl rc2]:=⟨_,rfl⟩
       have hKl:KB.length=32:=by rw[hKB,List.length_map,hIBl]
       have HROW:Hid (∀ V,w3.grownBy V none→V.rangeAt ob (oo+i*2) OC):=fun V g=>by rw[hOC,hdl];exact (hobj V g).1
       have HBTS:Hid (∀ V,w3.grownBy V none→Bts V rao rc2 rd):=fun V g=>(hobj V g).2
       have HXRO:Hid (∀ V,w3.grownBy V none→V.rangeAt xb (xo+i*2) [.int .i64 rk,.string TD]):=fun V g=>by rw[hTD];exact hro V g
       have HPRO:Hid (∀ V,w3.grownBy V none→V.rangeAt pb (po+i*34) PC):=fun V g=>by
        have:=hpl V g
        rw[← hIB,← ha9,← hdl,← hn9b,← hPC] at this
        exact this
       have HKRO:Hid (∀ V,w3.grownBy V none→V.rangeAt pb (po+i*34) KB):=fun V g=>by
        have h9:=uh HPRO V g
        rw[hPC] at h9
        unfold plC at h9
        rw[← hKB] at h9
        intro j u hj
        exact h9 j u (by rw[List.getElem?_append_left (List.getElem?_eq_some_iff.1 hj).1];exact hj)
       have HIO:Hid ((Tryz.prog.info? 42).map (·.size)=some OC.length):=by rw[hOC];exact zc0
       have HIX:Hid ((Tryz.prog.info? 44).map (·.size)=some ([Value.int .i64 rk,.string TD]:List Value).length):=zj5
       have HIP:Hid ((Tryz.prog.info? 49).map (·.size)=some PC.length):=by rw[hPC,zqe _ hIBl];exact zi1
       have HIK:Hid ((Tryz.prog.info? 47).map (·.size)=some KB.length):=by rw[hKl];exact zba
       have HCOW:Hid (∀ V,w3.grownBy V none→Calls Tryz.prog 16 #[.agg OC.toArray] V fun e w'=>e = .returned (.agg #[.int .i64 rk,.string TD])∧V.grownBy w' none):=fun V g=>by
        have:=zr3 V rk rao rc2 rd (uh HBTS V g)
        rw[← hTD,← hdl] at this
        rw[hOC]
        exact this
       have HCID:Hid (∀ V,w3.grownBy V none→Calls Tryz.prog 17 #[.agg OC.toArray] V fun e w'=>e = .returned (.agg KB.toArray)∧V.grownBy w' none):=fun V g=>by
        have:=zlc V rk rao rc2 rd (uh HBTS V g) (by omega) ((uh HT).kept0 (tn (uh HG3) g))
        rw[← hdl] at this
        rw[hOC,hKB,hIB]
        exact this
       have HCFI:Hid (∀ V,w3.grownBy V none→Calls Tryz.prog 18 #[.slice ao n c,.agg KB.toArray] V fun e w'=>zvf V w' b IB e):=fun V g=>by
        have:=zqo V ao c b ((uh HB).kept (tn (uh HG3) g) (fun _ e=>by cases e)) (by omega) ((uh HT).kept0 (tn (uh HG3) g)) IB hIBl
        rw[← hbn,← hKB] at this
        exact this
       have HBP:Hid (Tryz.prog.built 49 [(0,.agg KB.toArray),(1,.int .i64 (a9:Int)),(2,.int .i64 (n9:Int))]=some PC.toArray):=by
        rw[hKB,hPC];exact zj3 IB hIBl a9 n9
       have HNQ:Hid (∀ W:World,(binOp .neq 49 (.agg PC.toArray) (.agg PC.toArray)).run Tryz.prog W = .ok (.bool false) W):=fun W=>by rw[hPC];exact zuh W IB hIBl a9 n9
       have hc1:wr.cell? ⟨ob,oo+i*2+1,none⟩=some (.slice rao dl rc2):=by
        have:=uh HROW wr hg 1 (.slice rao dl rc2) (by rw[hOC];rfl)
        exact this
       obtain ⟨HOC,HGW⟩:=zh2 hOC hg
       have hmem:(rk,rd)∈s3:=by rw[← hsi];exact List.getElem_mem _
       have HID:=hide (And.intro hIB hmem)
       obtain ⟨HOFF,HDL⟩:=zh2 hoff hdl
       clear hobj hro hpl hr hsg hoff hsi his hmem hTD hIB hIBl hKB hPC hOC hKl hg ha9 hiR hdl hbn hn9b
       go_upto_region 13 with fail
       clear hc1
       have h0:wr.grownBy wr.drew none:=zam (zaa _ _)
       refine wp_region_noPanic ?_
       refine wp_region_held_drew (S:=fun V=>wr.grownBy V none) (by kernel_rfl) h0 (fun _ => ?_)
       refine tq 0 68 (.move (.tmp 3)) ((.slice (some ⟨ob,oo,none⟩) sn rc)) h0 ?_
       refine tq 1 69 (.move (.tmp 10)) ((.int .i64 (i:Int))) h0 ?_
       refine tq 2 70 (.indexAddr 22 (.tmp 68) (.tmp 69)) ((.pointer (some ⟨ob,oo+i*2,none⟩))) h0 ?_
       refine tz 3 71 (.load 42 (.tmp 70)) (.agg OC.toArray) h0 ?_ (y:=(yieldsIf_load_mid (by rfl) _ _ rfl _ _ rfl OC _ (fun V hV=>zah (uh HROW wr (uh HGW)) hV (by simp)) Tryz.underlying42 rfl (uh HIO)))
       (try simp only[pq])
       refine tq 5 73 (.move (.tmp 5)) ((.slice (some ⟨xb,xo,none⟩) sn xc)) h0 ?_
       refine tq 6 74 (.move (.tmp 10)) ((.int .i64 (i:Int))) h0 ?_
       refine tq 7 75 (.indexAddr 30 (.tmp 73) (.tmp 74)) ((.pointer (some ⟨xb,xo+i*2,none⟩))) h0 ?_
       refine tz 8 76 (.load 44 (.tmp 75)) (.agg [Value.int .i64 rk,.string TD].toArray) h0 ?_ (y:=(yieldsIf_load_mid (by rfl) _ _ rfl _ _ rfl [Value.int .i64 rk,.string TD] _ (fun V hV=>zah (uh HXRO wr (uh HGW)) hV (by simp)) Tryz.underlying44 rfl (uh HIX)))
       (try simp only[pq])
       refine rdq 4 (some 72) (.call { callee := .value (.func 16),args := #[(.tmp 71)],argTypes := #[42] }) (fun K9 hK9 => ?_)
       go_simp
       go_at_call 16
       refine (uh HCOW _ (tn (uh HGW) h0)).mono ?_
       rintro e w4 ⟨rfl,g4⟩
       have h4:=tn h0 g4
       go_wp2_with fail
       refine hK9.out _ _ h4 (fun _ => ?_)
       clear hK9 K9
       refine tz 9 77 (.binOp .neq 44 (.tmp 72) (.tmp 76) 44) (.bool false) h4 ?_ (y:=(zg8 (by rfl) 44 44 _ _ rfl _ _ false rfl rfl zbk (fun W=>zsr W _ _)))
       refine tq 10 78 (.move (.tmp 77)) ((.bool false)) h4 ?_
       refine tq 11 79 (.move (.tmp 7)) ((.slice (some ⟨pb,po,none⟩) sn pc)) h4 ?_
       (try simp only[pq])
       refine tq 12 80 (.move (.tmp 10)) ((.int .i64 (i:Int))) h4 ?_
       refine tq 13 81 (.indexAddr 38 (.tmp 79) (.tmp 80)) ((.pointer (some ⟨pb,po+i*34,none⟩))) h4 ?_
       refine tz 14 82 (.load 49 (.tmp 81)) (.agg PC.toArray) h4 ?_ (y:=(yieldsIf_load_mid (by rfl) _ _ rfl _ _ rfl PC _ (fun V hV=>zah (uh HPRO wr (uh HGW)) hV (by simp)) Tryz.underlying49 rfl (uh HIP)))
       refine tq 15 83 (.move (.tmp 3)) ((.slice (some ⟨ob,oo,none⟩) sn rc)) h4 ?_
       (try simp only[pq])
       refine tq 16 84 (.move (.tmp 10)) ((.int .i64 (i:Int))) h4 ?_
       refine tq 17 85 (.indexAddr 22 (.tmp 83) (.tmp 84)) ((.pointer (some ⟨ob,oo+i*2,none⟩))) h4 ?_
       refine tz 18 86 (.load 42 (.tmp 85)) (.agg OC.toArray) h4 ?_ (y:=(yieldsIf_load_mid (by rfl) _ _ rfl _ _ rfl OC _ (fun V hV=>zah (uh HROW wr (uh HGW)) hV (by simp)) Tryz.underlying42 rfl (uh HIO)))
       refine tq 20 88 (.move (.tmp 9)) ((.int .i64 (a9:Int))) h4 ?_
       (try simp only[pq])
       refine tq 21 89 (.move (.tmp 11)) ((.int .i64 (n9:Int))) h4 ?_
       (try simp only[pq])
       refine rdq 19 (some 87) (.call { callee := .value (.func 17),args := #[(.tmp 86)],argTypes := #[42] }) (fun K9 hK9 => ?_)
       go_simp
       go_at_call 17
       refine (uh HCID _ (tn (uh HGW) h4)).mono ?_
       rintro e w5 ⟨rfl,g5⟩
       have h5:=tn h4 g5
       go_wp2_with fail
       refine hK9.out _ _ h5 (fun _ => ?_)
       clear hK9 K9
       refine tz 22 90 (.build 49 #[(0,(.tmp 87)),(1,(.tmp 88)),(2,(.tmp 89))]) (.agg PC.toArray) h5 ?_ (y:=(zbp (by rfl) _ _ rfl _ (Eq.trans (b:=Tryz.prog.built 49 [(0,.agg KB.toArray),(1,.int .i64 (a9:Int)),(2,.int .i64 (n9:Int))]) (by kernel_rfl) (uh HBP))))
       refine tz 23 91 (.binOp .neq 49 (.tmp 82) (.tmp 90) 49) (.bool false) h5 ?_ (y:=(zg8 (by rfl) 49 49 _ _ rfl _ _ false rfl rfl zqq (uh HNQ)))
       refine tq 24 92 (.pick (.tmp 78) (.const (.bool true)) (.tmp 91)) ((.bool false)) h5 ?_
       (try simp only[pq])
       refine wpAnyH_done (by kernel_rfl) ?_ _
       refine NoPanic.normal ?_
       have HG5:=hide (tn (uh HGW) h5)
       have hkr:=uh HKRO _ (uh HG5)
       clear h0 h4 h5 HCOW HCID HXRO HPRO
       go_wp2_with (refine wpList_load_mid rfl 47 _ rfl pb (po+i*34) rfl KB _ hkr Tryz.underlying47 rfl (uh HIK) ?_;clear hkr)
       refine (uh HCFI _ (uh HG5)).mono ?_
       rintro e w6 h6
       clear HCFI
       rcases h6 with ⟨s4,o4,v4,hP4,hm4,hi4,rfl,⟨va,vc,rfl,hbv,_⟩,g6⟩ | ⟨s4,hP4,hn4,rfl,g6⟩ | ⟨rfl,hno,g6⟩
       ·obtain rfl:s4=s3:=hP4.one (uh HP)
        obtain rfl:o4=(rk,rd):=zvh hP4.ris hm4 (uh HID).2 (by rw[hi4,(uh HID).1])
        simp only at hbv
        rw[← uh HDL]
        obtain ⟨O2,hO2⟩:∃ C:List Value,C=[.int .i64 rk,.slice va dl vc]:=⟨_,rfl⟩
        obtain ⟨W7,hW7,hBZ,hB7,g7⟩:=zjt w6 O2
        have hIO2:(Tryz.prog.info? 42).map (·.size)=some O2.toArray.size:=by rw[hO2];exact zc0
        have hIO3:(Tryz.prog.info? 42).map (·.size)=some O2.length:=by rw[hO2];exact zc0
        have hOO:O2.toArray.all (·.oneCell')=true:=by rw[hO2];simp[Value.oneCell']
        have hZS:([Value.int .i64 0,.slice none 0 0]:List Value).toArray.size=O2.toArray.size:=by rw[hO2];rfl
        have HAG:=hide (show Value.agg #[.int .i64 rk,.slice va dl vc] = .agg O2.toArray by rw[hO2])
        have g57:=tn (tn (uh HG5) g6) g7
        have HCS:Hid (∀ V,W7.grownBy V none→Calls Tryz.prog 19 #[.agg O2.toArray,.agg OC.toArray] V fun e w'=>e = .returned (.bool true)∧V.grownBy w' none):=fun V g=>by
         have:=zgl V rk rk va rao vc rc2 rd rd (hbv.kept (tn g7 g) (fun _ e=>by cases e)) (uh HBTS V (tn g57 g))
         rw[← uh HDL] at this
         rw[hO2,uh HOC]
         refine this.mono ?_
         rintro e w' ⟨h1,h2⟩
         exact ⟨by rw[h1];simp,h2⟩
        have HR2:=hide (zas hB7)
        obtain ⟨HW7,HBZ,HIO2,HIO3,HOO,HZS⟩:=zh6 hW7 hBZ hIO2 hIO3 hOO hZS
        have HG7:=hide g57
        clear hP4 hm4 hi4 hbv hO2 hW7 hBZ hB7 g7 g6 g57 hIO2 hIO3 hOO hZS
        rw[uh HAG]
        go_upto_region 16 with (refine wpList_store_row rfl 42 _ _ rfl w6.heap.size O2.toArray rfl rfl _ _ (uh HBZ) (uh HIO2) (uh HZS) (uh HOO) ?_;rw[← uh HW7])
        have h0:W7.grownBy W7.drew none:=zam (zaa _ _)
        refine wp_region_noPanic ?_
        refine wp_region_held_drew (S:=fun V=>W7.grownBy V none) (by kernel_rfl) h0 (fun _ => ?_)
        refine tq 0 103 (.move (.tmp 13)) ((.int .i64 (0:Int))) h0 ?_
        refine tq 1 104 (.binOp .neq 25 (.tmp 103) (.const (.int .i64 0)) 25) ((.bool false)) h0 ?_
        refine tq 2 105 (.move (.tmp 104)) ((.bool false)) h0 ?_
        refine tz 3 106 (.load 42 (.tmp 12)) (.agg O2.toArray) h0 ?_ (y:=(yieldsIf_load_mid (by rfl) _ _ rfl _ _ rfl O2 _ (fun V hV=>zah (uh HR2) hV (by simp)) Tryz.underlying42 rfl (uh HIO3)))
        (try simp only[pq])
        refine tq 4 107 (.move (.tmp 3)) ((.slice (some ⟨ob,oo,none⟩) sn rc)) h0 ?_
        refine tq 5 108 (.move (.tmp 10)) ((.int .i64 (i:Int))) h0 ?_
        refine tq 6 109 (.indexAddr 22 (.tmp 107) (.tmp 108)) ((.pointer (some ⟨ob,oo+i*2,none⟩))) h0 ?_
        refine tz 7 110 (.load 42 (.tmp 109)) (.agg OC.toArray) h0 ?_ (y:=(yieldsIf_load_mid (by rfl) _ _ rfl _ _ rfl OC _ (fun V hV=>zah (uh HROW W7 (uh HG7)) hV (by simp)) Tryz.underlying42 rfl (uh HIO)))
        (try simp only[pq])
        refine rdq 8 (some 111) (.call { callee := .value (.func 19),args := #[(.tmp 106),(.tmp 110)],argTypes := #[42,42] }) (fun K9 hK9 => ?_)
        go_simp
        go_at_call 19
        refine (uh HCS _ h0).mono ?_
        rintro e w8 ⟨rfl,g8⟩
        have h8:=tn h0 g8
        go_wp2_with fail
        refine hK9.out _ _ h8 (fun _ => ?_)
        clear hK9 K9
        refine tq 9 112 (.unOp .not 4 (.tmp 111)) ((.bool false)) h8 ?_
        refine tq 10 113 (.pick (.tmp 105) (.const (.bool true)) (.tmp 112)) ((.bool false)) h8 ?_
        (try simp only[pq])
        refine wpAnyH_done (by kernel_rfl) ?_ _
        refine NoPanic.normal ?_
        have HG9:=hide (tn (uh HG7) h8)
        clear h0 h8
        go_wp2_with fail
        go_roundw
        case rel=>exact ⟨i+1,a9+n9,by go_num,by omega,rfl,⟨(uh HOFF).symm,uh HG9⟩⟩
        case measure=>simp[intOf];omega
       ·obtain rfl:s4=s3:=hP4.one (uh HP)
        exact absurd (List.mem_map.2 ⟨_,(uh HID).2,(uh HID).1.symm⟩) hn4
       ·exact absurd (uh HP) (hno _)
      ·have hiz:¬ (i:Int)<(sn:Int):=by omega
       go_wp2_with (go_at_call 12;refine (zka _ ((uh HT).kept0 (tn (uh HG3) (uh HR).2))).mono ?_;rintro e w9 ⟨rfl,g9⟩)
       go_ret
       exact ⟨rfl,tn (tn (uh HG3) (uh HR).2) g9⟩
    ·exact absurd (uh HP) (hno _)
   ·exact absurd (uh HP) (hno _)
  ·have cv1:=uh HCV w1 g1
   have cd1:=uh HCD w1
   obtain ⟨HNO,HG1⟩:=zh2 hno g1
   clear hno g1 HCD
   go_wp2_with fail
   refine cd1.mono ?_
   rintro e w2 h2
   clear cd1 cv1
   rcases h2 with ⟨v2,s2,rfl,hP2,hX2,g2⟩ | ⟨rfl,hno2,g2⟩
   ·exact absurd hP2 (uh HNO _)
   ·have ci2:=uh HCI w2 (tn (uh HG1) g2)
    have HG2:=hide (tn (uh HG1) g2)
    clear hno2 g2 HCI
    go_wp2_with fail
    refine ci2.mono ?_
    rintro e w3 h3
    clear ci2
    rcases h3 with ⟨v3,s3,rfl,hP3,hI3,g3⟩ | ⟨rfl,hno3,g3⟩
    ·exact absurd hP3 (uh HNO _)
    ·have HG3:=hide (tn (uh HG2) g3)
     clear hno3 g3
     go_upto_region 6 with fail
     refine zby fun O hO => ?_
     refine zac (by rw[hO];kernel_rfl) (.int .i64 (11:Int)) (fun K9 hK9=>by go_simp;exact hK9) ?_
     (try simp only[pq])
     refine zac (by rw[hO];kernel_rfl) (.int .i64 (11:Int)) (fun K9 hK9=>by go_simp;exact hK9) ?_
     (try simp only[pq])
     refine zac (by rw[hO];kernel_rfl) (.bool false) (fun K9 hK9=>by go_simp;exact hK9) ?_
     (try simp only[pq])
     refine zac (by rw[hO];kernel_rfl) (.bool false) (fun K9 hK9=>by go_simp;exact hK9) ?_
     (try simp only[pq])
     refine zac (by rw[hO];kernel_rfl) (.int .i64 (11:Int)) (fun K9 hK9=>by go_simp;exact hK9) ?_
     (try simp only[pq])
     refine zac (by rw[hO];kernel_rfl) (.int .i64 (11:Int)) (fun K9 hK9=>by go_simp;exact hK9) ?_
     (try simp only[pq])
     refine zac (by rw[hO];kernel_rfl) (.bool false) (fun K9 hK9=>by go_simp;exact hK9) ?_
     (try simp only[pq])
     refine zac (by rw[hO];kernel_rfl) (.bool false) (fun K9 hK9=>by go_simp;exact hK9) ?_
     (try simp only[pq])
     refine zac (by rw[hO];kernel_rfl) (.bool false) (fun K9 hK9=>by go_simp;exact hK9) ?_
     (try simp only[pq])
     refine zac (by rw[hO];kernel_rfl) (.slice none 0 0) (fun K9 hK9=>by go_simp;exact hK9) ?_
     (try simp only[pq])
     refine zac (by rw[hO];kernel_rfl) (.int .i64 (0:Int)) (fun K9 hK9=>by go_simp;exact hK9) ?_
     (try simp only[pq])
     refine zac (by rw[hO];kernel_rfl) (.slice none 0 0) (fun K9 hK9=>by go_simp;exact hK9) ?_
     (try simp only[pq])
     refine zac (by rw[hO];kernel_rfl) (.int .i64 (0:Int)) (fun K9 hK9=>by go_simp;exact hK9) ?_
     (try simp only[pq])
     refine zac (by rw[hO];kernel_rfl) (.bool false) (fun K9 hK9=>by go_simp;exact hK9) ?_
     (try simp only[pq])
     refine zac (by rw[hO];kernel_rfl) (.bool false) (fun K9 hK9=>by go_simp;exact hK9) ?_
     (try simp only[pq])
     refine zac (by rw[hO];kernel_rfl) (.bool false) (fun K9 hK9=>by go_simp;exact hK9) ?_
     (try simp only[pq])
     refine zac (by rw[hO];kernel_rfl) (.slice none 0 0) (fun K9 hK9=>by go_simp;exact hK9) ?_
     (try simp only[pq])
     refine zac (by rw[hO];kernel_rfl) (.int .i64 (0:Int)) (fun K9 hK9=>by go_simp;exact hK9) ?_
     (try simp only[pq])
     refine zac (by rw[hO];kernel_rfl) (.slice none 0 0) (fun K9 hK9=>by go_simp;exact hK9) ?_
     (try simp only[pq])
     refine zac (by rw[hO];kernel_rfl) (.int .i64 (0:Int)) (fun K9 hK9=>by go_simp;exact hK9) ?_
     (try simp only[pq])
     refine zac (by rw[hO];kernel_rfl) (.bool false) (fun K9 hK9=>by go_simp;exact hK9) ?_
     (try simp only[pq])
     refine zac (by rw[hO];kernel_rfl) (.bool false) (fun K9 hK9=>by go_simp;exact hK9) ?_
     (try simp only[pq])
     go_wp2_with fail
     go_loopw [9,10,11,12,13] (fun _x9 vi _x11 _x12 _x13 wr=>vi = .int .i64 0∧wr=w3) (fun _ _ _ _ _ _=>0)
     case atStart=>exact ⟨rfl,rfl⟩
     case round =>
      obtain ⟨rfl,hw⟩:=hrel
      subst hw
      go_wp2_with (go_at_call 12;refine (zka _ ((uh HT).kept0 (uh HG3))).mono ?_;rintro e w9 ⟨rfl,g9⟩)
      go_ret
      exact ⟨rfl,tn (uh HG3) g9⟩
end Go.Proofs.YtegbbkgmiklhcaaGreatDoor
