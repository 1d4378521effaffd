/- Lemmas. -/
import Derived.Test.YtegbbkgmiklhcaaGreatDoorPkH
import Derived.Lib.SlBytesConst
import Derived.Deep.Upon
namespace Go.Proofs.YtegbbkgmiklhcaaGreatDoor
open Go.RowKit
theorem zmr:PackOf [67,80,75,49,0,1,1,0,0,0,1,97] [((1:Int),[97])]:=by
 refine ⟨by decide,fun o ho => ?_,List.pairwise_singleton _ _,by decide⟩
 rw[List.mem_singleton.1 ho]
 show zao 1 [97]=0
 decide
theorem zq7 {b:List UInt8} {y:Int} (h:PutP [((1:Int),[97])] b y):b=[67,80,75,49,0,1,1,0,0,0,1,97]∧y=0:=h.one (PutP.of zmr)
set_option maxRecDepth 100000 in
set_option maxHeartbeats 4000000 in
theorem zfo (w:World) (hT:Tabs w):Calls Tryz.prog 12 #[] w fun e w'=>e = .returned (.bool true)∧w.grownBy w' none:=by
 have hW1:∃ W1,W1=w.alloc (.cells #[.int .u8 97] 5 (1,2))∧Bts W1 (some ⟨w.heap.size,0,none⟩) 1 [97]∧w.grownBy W1 none:=by
  refine ⟨_,rfl,⟨(fun e=>by cases e),by decide,by decide,(fun ad e _=>by cases e;rfl),(fun ad e i hi => ?_)⟩,zai (zaa _ _) _⟩
  cases e
  have hh:=heap_alloc_new w (.cells #[.int .u8 97] 5 (1,2))
  match i,hi with
  | 0,_=>unfold World.cell?;rw[hh];rfl
 have kc:=fun (w:World) (C:Array Value) (n c:Nat)=>Lib.run_convert_bytes_const (P:=Tryz.prog) w 24 5 C n c Tryz.underlying24 Tryz.underlying5
 obtain ⟨W1,hW1,hb1,g1⟩:=hW1
 obtain ⟨W2,hW2,hB2,g2⟩:=zah W1 42 [.int .i64 1,.slice (some ⟨w.heap.size,0,none⟩) 1 1]
 have hbs:(Instr.buildSlice 22 1 #[(0,.agg #[.int .i64 1,.slice (some ⟨w.heap.size,0,none⟩) 1 1])]).run Tryz.prog W1 = .ok (.slice (some ⟨W1.heap.size,0,none⟩) 1 1) W2:=by rw[hW2];exact zmf _ _ _ _ W1
 have hO:Obsl W2 (some ⟨W1.heap.size,0,none⟩) 1 [⟨1,[97],some ⟨w.heap.size,0,none⟩,1⟩]:=by
  refine ⟨(fun e=>by cases e),by simp,by decide,(fun ad e _=>by cases e;rfl),(fun ad e i hi => ?_),fun r hr => ?_⟩
  ·cases e
   have hi0:i=0:=by simp at hi;omega
   subst hi0
   exact zal hB2
  ·rw[List.mem_singleton.1 hr]
   exact hb1.kept g2 (fun _ e=>by cases e)
 have G2:=tn g1 g2
 have cp:=zgw W2 _ 1 _ hO (by simp) (hT.kept0 G2)
 obtain ⟨HW1,HBS,HG2,HT⟩:=zh4 hW1 hbs G2 hT
 have kc1:=kc w #[.int .u8 97] 1 1
 have hs1:W1.heap.size=w.heap.size+1:=by rw[hW1];simp
 rw[hs1] at cp
 clear hW1 hb1 g1 kc hbs hO G2 hB2 hW2 g2 hT
 go_enter Tryz.func12,Tryz.ntmps12
 go_wp2_with (first
  | (rw[← uh HW1])
  | (refine zau rfl 22 _ rfl (.agg #[.int .i64 1,.slice (some ⟨w.heap.size,0,none⟩) 1 1]) _ rfl (uh HBS) ?_;(try simp only[pq])))
 refine cp.mono ?_
 rintro e w3 ⟨v3,b3,y3,rfl,hp,⟨a3,c3,rfl,hb3,_⟩,g3⟩
 clear cp HBS
 obtain ⟨rfl,rfl⟩:=zq7 (b:=b3) (y:=y3) hp
 have G3:=tn (uh HG2) g3
 have cr:=zfn w3 a3 c3 _ hb3 (by simp) ((uh HT).kept0 G3)
 clear hp hs1 kc1
 go_wp2_with fail
 refine cr.mono ?_
 rintro e w4 hr4
 clear cr
 rcases hr4 with ⟨v4,R,s,rfl,hP,hRs,hO4,g4⟩ | ⟨rfl,hno,g4⟩
 ·obtain rfl:s=[((1:Int),[97])]:=hP.one zmr
  obtain ⟨r,rfl⟩:∃ r,R=[r]:=List.length_eq_one_iff.1 (by have:=congrArg List.length hRs;simpa using this)
  have hro:r.o=((1:Int),[97]):=by simpa using hRs
  have hrd:r.d=[97]:=congrArg Prod.snd hro
  have hrk:r.k=1:=congrArg Prod.fst hro
  obtain ⟨a4,c4,rfl,hS⟩:=hO4.sl
  obtain ⟨bb,oo,rfl,hrow,hbt⟩:=hS.at 0 (by simp)
  simp only[List.getElem_cons_zero] at hrow hbt
  have cv3:=za0 (hb3.kept g4 (fun _ e=>by cases e))
  have cv4:=za0 hbt
  rw[hrd] at cv4
  have hc1:=hrow 1 _ rfl
  rw[hrd] at hc1
  rw[show str [67,80,75,49,0,1,1,0,0,0,1,97]=⟨#[67,80,75,49,0,1,1,0,0,0,1,97]⟩ from rfl] at cv3
  rw[show str [97]=⟨#[97]⟩ from rfl] at cv4
  simp only[List.length_cons,List.length_nil,Nat.zero_add,Nat.reduceAdd,Nat.zero_mul,Nat.add_zero] at cv3 cv4 hc1
  have HG:=hide (tn G3 g4)
  clear hP hRs hO4 hS hbt hrow hb3 g4 g3 hro
  go_wp2_with fail
  go_ret
  exact ⟨rfl,uh HG⟩
 ·exact absurd zmr (hno _)
theorem zms {l:List Ob} (h:∀ o∈l,OkO o):lenO l≤6+za8 l:=by
 unfold lenO za8
 have:∀ t:List Ob,(∀ o∈t,OkO o)→(t.map fun o=>5+o.2.length).sum≤(t.map fun o=>9+min o.2.length 40000).sum:=by
  intro t
  induction t with
  | nil=>intro _;simp
  | cons o t ih =>
   intro h
   obtain ⟨k,_,_,_,h1⟩:=zfd (h o (by simp))
   have h2:=ih fun q hq=>h q (by simp[hq])
   simp only[List.map_cons,List.sum_cons]
   omega
 have:=this l h
 omega
theorem zkp {s l:List Ob} (h:s.Perm l):lenO s=lenO l:=by
 unfold lenO
 rw[(h.map _).sum_nat]
theorem zmt {b:List UInt8} {s l:List Ob} (h:PackOf b s) (p:s.Perm l):b.length=lenO l:=by
 rw[h.eq,zi3,← zkp p];rfl
theorem zkq {b:List UInt8} {s l:List Ob} (h:PackOf b s) (p:s.Perm l) (hs:za8 l≤60000):b.length≤60006:=by
 have h1:=zms (l:=l) fun o ho=>h.ok o (p.mem_iff.2 ho)
 rw[zmt h p]
 omega
structure Obw (w:World) (lim base:Nat) (v:Value) (R:List ObP):Prop where
 own:w.ownsRow base 42 2 v R.length (R.flatMap obP)
 bts:∀ r∈R,Bts w r.ao r.c r.d
 typ:∀ r∈R,0<r.d.length→∀ ad,r.ao=some ad→ad.block<lim
 le:lim≤base
theorem Obw.nil (w:World) {lim base:Nat} (h:lim≤base):Obw w lim base (.slice none 0 0) []:=⟨World.ownsRow_nil w base _ 2,(fun _ e=>by cases e),(fun _ e=>by cases e),h⟩
theorem Obw.stay {w a:World} {lim base:Nat} {v:Value} {R:List ObP} (h:Obw w lim base v R) (g:w.grownBy a none):Obw a lim base v R :=
 ⟨zeq h.own g,fun r hr=>(h.bts r hr).kept g (fun _ e=>by cases e),h.typ,h.le⟩
theorem zp2 {w a:World} {ao:Option Addr} {c:Nat} {l:List UInt8} {r:Option Nat} (h:Bts w ao c l) (g:w.grownBy a r) (hr:∀ x,r=some x→0<l.length→Off ao x):Bts a ao c l :=
 ⟨h.zip,h.fits,h.most,h.shape,fun ad e i hi=>g.cell (h.cell ad e i hi) (fun e2=>hr ad.block e2.symm (by omega) ad e rfl)⟩
theorem Obw.puts {w a:World} {lim base:Nat} {v v2:Value} {R M:List ObP} (h:Obw w lim base v R) (hb:∀ r∈M,Bts w r.ao r.c r.d) (ht:∀ r∈M,0<r.d.length→∀ ad,r.ao=some ad→ad.block<lim) (g:w.grownBy a v.ownBlock)
  (ho:a.ownsRow base 42 2 v2 (R++M).length ((R++M).flatMap obP)):Obw a lim base v2 (R++M):=by
 have hle:=h.le
 have all:∀ q∈R++M,Bts w q.ao q.c q.d∧(0<q.d.length→∀ ad,q.ao=some ad→ad.block<lim):=by
  intro q hq
  rcases List.mem_append.1 hq with h1 | h1
  ·exact ⟨h.bts q h1,h.typ q h1⟩
  ·exact ⟨hb q h1,ht q h1⟩
 refine ⟨ho,fun q hq=>zp2 (all q hq).1 g (fun x e hl ad e2 e3 => ?_),fun q hq=>(all q hq).2,hle⟩
 have h1:=(h.own.lt x e).1
 have h2:=(all q hq).2 hl ad e2
 omega
theorem Obw.sl {w:World} {lim base:Nat} {v:Value} {R:List ObP} (h:Obw w lim base v R):∃ ao c,v = .slice ao R.length c∧Obsl w ao c R:=by
 obtain ⟨ao,c,h1,h2,h3,h4,h5,h6⟩:=zde obP 2 h.own (fun _ _=>rfl)
 exact ⟨ao,c,h1,⟨h2,h3,h4,fun ad e _=>(h5 ad e).1,h6,h.bts⟩⟩
theorem zp3 {w:World} {ao:Option Addr} {c:Nat} {l:List UInt8} (h:Bts w ao c l) (hl:0<l.length) (ad:Addr) (e:ao=some ad):ad.block<w.heap.size:=by
 have:=h.cell ad e 0 hl
 unfold World.cell? at this
 simp only at this
 cases hh:w.heap[ad.block]? with
 | none=>rw[hh] at this;cases this
 | some o=>exact (Array.getElem?_eq_some_iff.1 hh).1
theorem zqu (V:World):(Instr.buildSlice 24 0 #[]).run Tryz.prog V = .ok (.slice (some ⟨V.heap.size,0,none⟩) 0 0) (V.alloc (.cells #[] 5)):=by kernel_rfl
theorem zqv (V:World) (k:Int):(Instr.buildSlice 24 1 #[(0,.int .u8 k)]).run Tryz.prog V = .ok (.slice (some ⟨V.heap.size,0,none⟩) 1 1) (V.alloc (.cells #[.int .u8 k] 5)):=by kernel_rfl
theorem zp4 (V:World) (t:TypeId) (K base:Nat) (h:base≤V.heap.size):∃ Wb,Wb=V.alloc (.cells #[] t)∧Wb.ownsRow base t K (.slice (some ⟨V.heap.size,0,none⟩) 0 0) 0 []∧V.grownBy Wb none:=by
 refine ⟨_,rfl,⟨by simp,Or.inr ⟨V.heap.size,0,#[],rfl,h,?_,Nat.le_refl _,by unfold maxLen;omega,by simp,by simp⟩⟩,zai (zaa _ _) _⟩
 exact heap_alloc_new V (.cells #[] t)
theorem zog {n:Nat} (j:Nat) (hn:0<n):((List.range n).map fun i=>(i+j) % n).Perm (List.range n):=by
 have hnd:((List.range n).map fun i=>(i+j) % n).Nodup:=by
  rw[List.Nodup,List.pairwise_map]
  refine List.Pairwise.imp_of_mem ?_ List.nodup_range
  intro a b ha hb hab e
  have ha:=List.mem_range.1 ha
  have hb:=List.mem_range.1 hb
  apply hab
  have h1:=Nat.mod_add_div (a+j) n
  have h2:=Nat.mod_add_div (b+j) n
  have h3:(a+j) / n=(b+j) / n:=by
   rcases Nat.lt_trichotomy ((a+j) / n) ((b+j) / n) with q | q | q
   ·have:=Nat.mul_le_mul_left n q
    rw[Nat.succ_eq_add_one,Nat.mul_add,Nat.mul_one] at this
    omega
   ·exact q
   ·have:=Nat.mul_le_mul_left n q
    rw[Nat.succ_eq_add_one,Nat.mul_add,Nat.mul_one] at this
    omega
  rw[h3] at h1
  omega
 refine (List.perm_ext_iff_of_nodup hnd List.nodup_range).2 fun k=>⟨fun h => ?_,fun hk => ?_⟩
 ·obtain ⟨i,_,rfl⟩:=List.mem_map.1 h
  exact List.mem_range.2 (Nat.mod_lt _ hn)
 ·apply Classical.byContradiction
  intro hm
  have h1:(k::(List.range n).map fun i=>(i+j) % n).Nodup:=List.nodup_cons.2 ⟨hm,hnd⟩
  have:=zdy (U:=List.range n) h1 fun x hx=>by
   rcases List.mem_cons.1 hx with rfl | hx
   ·exact hk
   ·obtain ⟨i,_,rfl⟩:=List.mem_map.1 hx
    exact List.mem_range.2 (Nat.mod_lt _ hn)
  simp at this
  omega
theorem zim {α:Type} [Inhabited α] (l:List α) (j:Nat):((List.range l.length).map fun i=>l.getD ((i+j) % l.length) default).Perm l:=by
 by_cases hl:0<l.length
 ·have h1:=(zog j hl).map fun i=>l.getD i default
  rw[List.map_map] at h1
  have h2:(List.range l.length).map (fun i=>l.getD i default)=l:=by
   refine List.ext_getElem (by simp) fun i h1 h2 => ?_
   simp[h2]
  rw[h2] at h1
  exact h1
 ·have:l=[]:=List.eq_nil_of_length_eq_zero (by omega)
  subst this
  exact List.Perm.refl _
theorem zjf {w w' : World} {b x:List UInt8} {e:Ending} {s:List Ob} {o:Ob} (h:zmo w w' b x e) (hp:PackOf b s) (ho:o∈s) (hx:obId o=x) :
  ∃ v,e = .returned (.tuple #[.agg #[.int .i64 o.1,v],.int .i64 0])∧NewB w w' v o.2∧w.grownBy w' none:=by
 rcases h with ⟨t,p,v,h1,h2,h3,h4,h5,h6⟩ | ⟨t,h1,h2,-,-⟩ | ⟨-,h1,-⟩
 ·obtain rfl:t=s:=h1.one hp
  obtain rfl:p=o:=zcx h1.ris.nodup h2 ho (by rw[h3,hx])
  exact ⟨v,h4,h5,h6⟩
 ·obtain rfl:t=s:=h1.one hp
  exact absurd (List.mem_map.2 ⟨o,ho,hx⟩) h2
 ·exact absurd hp (h1 _)
theorem zmu {w w' : World} {b x:List UInt8} {e:Ending} {s:List Ob} (h:zmo w w' b x e) (hp:PackOf b s) (hx:x∉s.map obId) :
  e = .returned (.tuple #[.agg #[.int .i64 0,.slice none 0 0],.int .i64 13])∧w.grownBy w' none:=by
 rcases h with ⟨t,p,v,h1,h2,h3,h4,h5,h6⟩ | ⟨t,h1,h2,h3,h4⟩ | ⟨-,h1,-⟩
 ·obtain rfl:t=s:=h1.one hp
  exact absurd (List.mem_map.2 ⟨p,h2,h3⟩) hx
 ·exact ⟨h3,h4⟩
 ·exact absurd hp (h1 _)
theorem zoh {w w' : World} {b x:List UInt8} {e:Ending} {s:List Ob} (h:zmo w w' b x e) (hp:PackOf b s) :
  ∃ (k:Int) (a:Option Addr) (n c:Nat) (y:Int),e = .returned (.tuple #[.agg #[.int .i64 k,.slice a n c],.int .i64 y])∧y=(if x∈s.map obId then 0 else 13)∧w.grownBy w' none:=by
 by_cases hx:x∈s.map obId
 ·obtain ⟨o,ho,rfl⟩:=List.mem_map.1 hx
  obtain ⟨v,h1,⟨a,c,rfl,-,-⟩,h3⟩:=zjf h hp ho rfl
  exact ⟨o.1,a,_,c,0,h1,by rw[if_pos hx],h3⟩
 ·obtain ⟨h1,h2⟩:=zmu h hp hx
  exact ⟨0,none,0,0,13,h1,by rw[if_neg hx],h2⟩
theorem zhk:Tryz.prog.eqGuardType Tryz.prog.depth 47=false:=by kernel_rfl
theorem zp5 (w:World) (xs ys:List UInt8) (hx:xs.length=32) (hy:ys.length=32):(binOp .eql 47 (.agg (xs.map bv).toArray) (.agg (ys.map bv).toArray)).run Tryz.prog w = .ok (.bool (xs == ys)) w :=
 run_eql_bytes w 47 5 32 Tryz.underlying47 Tryz.underlying5 zat xs ys hx hy
end Go.Proofs.YtegbbkgmiklhcaaGreatDoor
