/- Lemmas. -/
import Derived.Lib.SlBytesConst
import Derived.Test.YtegbbkgmiklhcaaGreatDoorPkL
namespace Go.Proofs.YtegbbkgmiklhcaaGreatDoor
open Go.RowKit
theorem zm3:PackOf [67,80,75,49,0,1,1,0,0,0,1,97] [((1:Int),[97])]:=by
 refine ⟨by decide,fun o ho => ?_,List.pairwise_singleton _ _,by decide⟩
 rw[List.mem_singleton.1 ho]
 show zar 1 [97]=0
 decide
theorem zra {b:List UInt8} {y:Int} (h:PutP [((1:Int),[97])] b y):b=[67,80,75,49,0,1,1,0,0,0,1,97]∧y=0:=h.one (PutP.of zm3)
set_option maxRecDepth 100000 in
set_option maxHeartbeats 4000000 in
theorem zd6 (w:World) (hT:Tabs w):Calls Tryz.prog 12 #[] w fun e w'=>e = .returned (.bool true)∧w.grownBy w' none:=by
 have hW1:∃ W1,W1=w.alloc (.cells #[.int .u8 97] 5 (1,2))∧Bts W1 (some ⟨w.heap.size,0,none⟩) 1 [97]∧w.grownBy W1 none:=by
  refine ⟨_,rfl,⟨(fun e=>by cases e),by decide,by decide,(fun ad e _=>by cases e;rfl),(fun ad e i hi => ?_)⟩,zai (zab _ _) _⟩
  cases e
  have hh:=heap_alloc_new w (.cells #[.int .u8 97] 5 (1,2))
  match i,hi with
  | 0,_=>unfold World.cell?;rw[hh];rfl
 have kc:=fun (w:World) (C:Array Value) (n c:Nat)=>Lib.run_convert_bytes_const (P:=Tryz.prog) w 24 5 C n c Tryz.underlying24 Tryz.underlying5
 obtain ⟨W1,hW1,hb1,g1⟩:=hW1
 obtain ⟨W2,hW2,hB2,g2⟩:=zah W1 42 [.int .i64 1,.slice (some ⟨w.heap.size,0,none⟩) 1 1]
 have hbs:(Instr.buildSlice 22 1 #[(0,.agg #[.int .i64 1,.slice (some ⟨w.heap.size,0,none⟩) 1 1])]).run Tryz.prog W1 = .ok (.slice (some ⟨W1.heap.size,0,none⟩) 1 1) W2:=by rw[hW2];exact zow _ _ _ _ W1
 have hO:Obsl W2 (some ⟨W1.heap.size,0,none⟩) 1 [⟨1,[97],some ⟨w.heap.size,0,none⟩,1⟩]:=by
  refine ⟨(fun e=>by cases e),by simp,by decide,(fun ad e _=>by cases e;rfl),(fun ad e i hi => ?_),fun r hr => ?_⟩
  ·cases e
   have hi0:i=0:=by simp at hi;omega
   subst hi0
   exact zal hB2
  ·rw[List.mem_singleton.1 hr]
   exact hb1.kept g2 (fun _ e=>by cases e)
 have G2:=tn g1 g2
 have cp:=ze1 W2 _ 1 _ hO (by simp) (hT.kept0 G2)
 obtain ⟨HW1,HBS,HG2,HT⟩:=zh4 hW1 hbs G2 hT
 have kc1:=kc w #[.int .u8 97] 1 1
 have hs1:W1.heap.size=w.heap.size+1:=by rw[hW1];simp
 rw[hs1] at cp
 clear hW1 hb1 g1 kc hbs hO G2 hB2 hW2 g2 hT
 go_enter Tryz.func12,Tryz.ntmps12
 go_wp2_with (first
  | (rw[← uh HW1])
  | (refine zav rfl 22 _ rfl (.agg #[.int .i64 1,.slice (some ⟨w.heap.size,0,none⟩) 1 1]) _ rfl (uh HBS) ?_;(try simp only[pq])))
 refine cp.mono ?_
 rintro e w3 ⟨v3,b3,y3,rfl,hp,⟨a3,c3,rfl,hb3,_⟩,g3⟩
 clear cp HBS
 obtain ⟨rfl,rfl⟩:=zra (b:=b3) (y:=y3) hp
 have G3:=tn (uh HG2) g3
 have cr:=zmy w3 a3 c3 _ hb3 (by simp) ((uh HT).kept0 G3)
 clear hp hs1 kc1
 go_wp2_with fail
 refine cr.mono ?_
 rintro e w4 hr4
 clear cr
 rcases hr4 with ⟨v4,R,s,rfl,hP,hRs,hO4,g4⟩ | ⟨rfl,hno,g4⟩
 ·obtain rfl:s=[((1:Int),[97])]:=hP.one zm3
  obtain ⟨r,rfl⟩:∃ r,R=[r]:=List.length_eq_one_iff.1 (by have:=congrArg List.length hRs;simpa using this)
  have hro:r.o=((1:Int),[97]):=by simpa using hRs
  have hrd:r.d=[97]:=congrArg Prod.snd hro
  have hrk:r.k=1:=congrArg Prod.fst hro
  obtain ⟨a4,c4,rfl,hS⟩:=hO4.sl
  obtain ⟨bb,oo,rfl,hrow,hbt⟩:=hS.at 0 (by simp)
  simp only[List.getElem_cons_zero] at hrow hbt
  have cv3:=za6 (hb3.kept g4 (fun _ e=>by cases e))
  have cv4:=za6 hbt
  rw[hrd] at cv4
  have hc1:=hrow 1 _ rfl
  rw[hrd] at hc1
  rw[show str [67,80,75,49,0,1,1,0,0,0,1,97]=⟨#[67,80,75,49,0,1,1,0,0,0,1,97]⟩ from rfl] at cv3
  rw[show str [97]=⟨#[97]⟩ from rfl] at cv4
  simp only[List.length_cons,List.length_nil,Nat.zero_add,Nat.reduceAdd,Nat.zero_mul,Nat.add_zero] at cv3 cv4 hc1
  have HG:=hide (tn G3 g4)
  clear hP hRs hO4 hS hbt hrow hb3 g4 g3 hro
  go_wp2_with fail
  go_ret
  exact ⟨rfl,uh HG⟩
 ·exact absurd zm3 (hno _)
def zdi (l s:List Ob) (i:Nat):Bool:=((l.take i).map obId).any fun z=>decide (z∈s.map obId)
theorem zk7 (l s:List Ob):zdi l s 0=false:=by simp[zdi]
theorem zk8 {l s:List Ob} {i:Nat} {o:Ob} (h:l[i]? = some o):zdi l s (i+1)=(zdi l s i || decide (obId o∈s.map obId)):=by
 obtain ⟨h1,h2⟩:=List.getElem?_eq_some_iff.1 h
 unfold zdi
 rw[List.take_succ_eq_append_getElem h1,h2,List.map_append,List.any_append]
 simp
theorem zh0 {l s:List Ob} {n:Nat} (hn:n=l.length):zdi l s n=true↔∃ o∈l,obId o∈s.map obId:=by
 unfold zdi
 rw[hn,List.take_length,List.any_eq_true]
 constructor
 ·rintro ⟨z,hz,h⟩
  obtain ⟨o,ho,rfl⟩:=List.mem_map.1 hz
  exact ⟨o,ho,by simpa using h⟩
 ·rintro ⟨o,ho,h⟩
  exact ⟨obId o,List.mem_map.2 ⟨o,ho,rfl⟩,by simpa using h⟩
structure TwoP (a b:List Ob) (x y:List UInt8) (s t:List Ob):Prop where
 pa:PackOf x s
 pb:PackOf y t
 qa:s.Perm a
 qb:t.Perm b
theorem TwoP.ok {a b:List Ob} {x y:List UInt8} {s t:List Ob} (h:TwoP a b x y s t):∀ o∈a++b,OkO o:=fun o ho=>by
 rcases List.mem_append.1 ho with q | q
 ·exact h.pa.ok o (h.qa.mem_iff.2 q)
 ·exact h.pb.ok o (h.qb.mem_iff.2 q)
theorem TwoP.bad {a b:List Ob} {x y z:List UInt8} {s t:List Ob} {e:Int} (h:TwoP a b x y s t) (hl:(a++b).length≤256) (hp:PutP (a++b) z e) (hc:zdi a t a.length=true):e=14∧z=[]:=by
 obtain ⟨o,ho,hi⟩:=(zh0 rfl).1 hc
 obtain ⟨p,hpm,hpi⟩:=List.mem_map.1 hi
 have hpb:p∈b:=h.qb.mem_iff.1 hpm
 have hnn:¬ ((a++b).map obId).Nodup:=fun hn=>by
  rw[List.map_append,List.nodup_append] at hn
  exact hn.2.2 _ (List.mem_map.2 ⟨o,ho,rfl⟩) _ (List.mem_map.2 ⟨p,hpb,rfl⟩) hpi.symm
 have he:e=14:=by rw[hp.1,zeh,if_neg (by omega),if_neg (by rw[zfw h.ok];decide),if_neg hnn]
 exact ⟨he,hp.2.1 (by rw[he];decide)⟩
theorem TwoP.nodup {a b:List Ob} {x y:List UInt8} {s t:List Ob} (h:TwoP a b x y s t) (hc:zdi a t a.length=false):((a++b).map obId).Nodup:=by
 rw[List.map_append,List.nodup_append]
 refine ⟨(h.qa.map obId).nodup_iff.1 h.pa.ris.nodup,(h.qb.map obId).nodup_iff.1 h.pb.ris.nodup,fun u hu v hv e => ?_⟩
 subst e
 obtain ⟨o,ho,rfl⟩:=List.mem_map.1 hu
 have:zdi a t a.length=true:=(zh0 rfl).2 ⟨o,ho,((h.qb.map obId).mem_iff).2 hv⟩
 rw[hc] at this
 cases this
theorem TwoP.good {a b:List Ob} {x y z:List UInt8} {s t:List Ob} {e:Int} (h:TwoP a b x y s t) (hl:(a++b).length≤256) (hp:PutP (a++b) z e) (hc:zdi a t a.length=false) :
  e=0∧∃ r,r.Perm (a++b)∧PackOf z r∧z.length+6=x.length+y.length∧r.length=a.length+b.length:=by
 have he:e=0:=by rw[hp.1,zeh,if_neg (by omega),if_neg (by rw[zfw h.ok];decide),if_pos (h.nodup hc)]
 obtain ⟨r,p1,p2⟩:=hp.2.2 he
 refine ⟨he,r,p1,p2,?_,by rw[p1.length_eq,List.length_append]⟩
 rw[zd5 p2 p1,zd5 h.pa h.qa,zd5 h.pb h.qb]
 unfold lenO
 rw[List.map_append,List.sum_append]
 omega
theorem TwoP.each {a b:List Ob} {x y:List UInt8} {s t:List Ob} (h:TwoP a b x y s t) (hc:zdi a t a.length=false) {o:Ob} (ho:o∈a++b):(obId o∈s.map obId∧obId o∉t.map obId)∨(obId o∉s.map obId∧obId o∈t.map obId):=by
 have hn:=h.nodup hc
 rw[List.map_append,List.nodup_append] at hn
 have ea:∀ z,z∈s.map obId↔z∈a.map obId:=fun z=>(h.qa.map obId).mem_iff
 have eb:∀ z,z∈t.map obId↔z∈b.map obId:=fun z=>(h.qb.map obId).mem_iff
 rw[ea,eb]
 rcases List.mem_append.1 ho with q | q
 ·have h1:obId o∈a.map obId:=List.mem_map.2 ⟨o,q,rfl⟩
  exact Or.inl ⟨h1,fun h2=>hn.2.2 _ h1 _ h2 rfl⟩
 ·have h1:obId o∈b.map obId:=List.mem_map.2 ⟨o,q,rfl⟩
  exact Or.inr ⟨fun h2=>hn.2.2 _ h2 _ h1 rfl,h1⟩
theorem zh1:Tryz.prog.eqGuardType Tryz.prog.depth 47=false:=by kernel_rfl
theorem zqc (w:World) (xs ys:List UInt8) (hx:xs.length=32) (hy:ys.length=32):(binOp .neq 47 (.agg (xs.map bv).toArray) (.agg (ys.map bv).toArray)).run Tryz.prog w = .ok (.bool (!(xs == ys))) w:=by
 have h:(Op.equalIn 10000 47 (.agg (xs.map bv).toArray) (.agg (ys.map bv).toArray)).run Tryz.prog w = .ok (xs == ys) w:=run_equalIn_bytes w 9998 47 5 32 Tryz.underlying47 Tryz.underlying5 zau xs ys hx hy
 rw[run_neq_struct,h]
 cases (xs == ys) <;> rfl
end Go.Proofs.YtegbbkgmiklhcaaGreatDoor
