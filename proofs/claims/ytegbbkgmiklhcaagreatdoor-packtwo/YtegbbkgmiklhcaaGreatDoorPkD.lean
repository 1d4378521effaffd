/- Lemmas. -/
import Derived.Test.YtegbbkgmiklhcaaGreatDoorOEq
namespace Go.Proofs.YtegbbkgmiklhcaaGreatDoor
open Go.RowKit
structure Opn (b:List UInt8) (n i:Nat) (s:List Ob) (li:List UInt8):Prop where
 mark:b.take 4=[67,80,75,49]
 head:∃ m,numS (b.drop 4) 0 2=(n,m,0)∧rdOs i m 0=(s,li,0)
 ok:∀ o∈s,OkO o
 ris:RisO s
theorem zmu {l m:List UInt8} {n:Nat} (h:numS l 0 2=(n,m,0)):l=lb n 2++m∧n<65536:=by
 unfold numS at h
 have hnb:nb 2=2:=by decide
 simp only[hnb,if_true] at h
 by_cases h1:l.length<2
 ·rw[if_pos h1] at h;simp at h
 ·rw[if_neg h1] at h
  simp only[Prod.mk.injEq,and_true] at h
  obtain ⟨h2,h3⟩:=h
  have hl:(l.take 2).length=2:=by simp;omega
  have h4:=zjw (l.take 2)
  rw[hl] at h4
  refine ⟨?_,by omega⟩
  rw[← h2,zjp 2 _ hl,← h3,List.take_append_drop]
theorem Opn.start {b m:List UInt8} {n:Nat} (h:b.take 4=[67,80,75,49]) (hn:numS (b.drop 4) 0 2=(n,m,0)):Opn b n 0 [] m :=
 ⟨h,⟨m,hn,rfl⟩,by simp,List.Pairwise.nil⟩
theorem Opn.eq {b li:List UInt8} {n i:Nat} {s:List Ob} (h:Opn b n i s li):b=zdh n++(s.flatMap obB++li)∧s.length=i:=by
 obtain ⟨m,h1,h2⟩:=h.head
 obtain ⟨e1,e2⟩:=zoh h2
 refine ⟨?_,e2⟩
 have e3:=(zmu h1).1
 rw[← List.take_append_drop 4 b,h.mark,e3,e1]
 simp[zdh]
theorem Opn.at {b li:List UInt8} {n i:Nat} {s:List Ob} (h:Opn b n i s li):b.length=6+(s.flatMap obB).length+li.length:=by
 have:=congrArg List.length h.eq.1
 rw[List.length_append,zfo,List.length_append] at this
 omega
theorem Opn.falls {b li l2:List UInt8} {n i:Nat} {s:List Ob} (h:Opn b n i s li) (hi:i<n) {o:Ob} {e:Int} (hr:rdO li 0=(o,l2,e)) (hf:e≠0∨¬ OkO o∨∃ x,s.getLast? = some x∧za5 (obId x) (obId o)=false):∀ t,¬ PackOf b t:=by
 intro t ht
 obtain ⟨m,h1,h2⟩:=h.head
 obtain ⟨-,-,h3,h4⟩:=zd2 ht
 rw[h1] at h3
 injection h3 with e1 e2
 injection e2 with e2 _
 subst e1 e2
 obtain ⟨p,m2,q1,q2,q3⟩:=zmt ht h2 hi
 rw[hr] at q1
 injection q1 with r1 r2
 injection r2 with r2 r3
 subst r1
 rcases hf with hf | hf | ⟨x,hx,hf⟩
 ·exact hf r3
 ·exact hf q2
 ·rw[q3 x hx] at hf;cases hf
theorem zjq {s:List Ob} (h:RisO s) {o:Ob} (hl:∀ x,s.getLast? = some x→za5 (obId x) (obId o)=true):RisO (s++[o]):=by
 refine List.pairwise_append.2 ⟨h,List.pairwise_singleton _ _,fun a ha y hy => ?_⟩
 rw[List.mem_singleton] at hy
 subst hy
 rcases List.eq_nil_or_concat s with rfl | ⟨t,x,rfl⟩
 ·cases ha
 ·have hx:=hl x (by simp)
  rw[List.concat_eq_append] at ha h
  rcases List.mem_append.1 ha with ha | ha
  ·exact zdm _ _ _ ((List.pairwise_append.1 h).2.2 a ha x (by simp)) hx
  ·rw[List.mem_singleton] at ha
   rw[ha];exact hx
theorem Opn.next {b li l2:List UInt8} {n i:Nat} {s:List Ob} (h:Opn b n i s li) {o:Ob} (hr:rdO li 0=(o,l2,0)) (ho:OkO o) (hl:∀ x,s.getLast? = some x→za5 (obId x) (obId o)=true):Opn b n (i+1) (s++[o]) l2∧li.length=5+o.2.length+l2.length:=by
 obtain ⟨m,h1,h2⟩:=h.head
 refine ⟨⟨h.mark,⟨m,h1,?_⟩,fun p hp => ?_,zjq h.ris hl⟩,?_⟩
 ·unfold rdOs
  rw[h2]
  simp only
  rw[hr]
 ·rcases List.mem_append.1 hp with hp | hp
  ·exact h.ok p hp
  ·rw[List.mem_singleton] at hp
   rw[hp];exact ho
 ·have:=congrArg List.length (zms hr)
  rw[List.length_append,zfn] at this
  exact this
theorem Opn.fresh {s:List Ob} (h:RisO s) {o:Ob} (hl:∀ x,s.getLast? = some x→za5 (obId x) (obId o)=true):obId o∉s.map obId:=by
 have:=(zjq h hl).nodup
 rw[List.map_append,List.nodup_append] at this
 intro hm
 exact this.2.2 _ hm _ (by simp) rfl
theorem Opn.ends {b:List UInt8} {n:Nat} {s:List Ob} (h:Opn b n n s []) (hn:n≤256):PackOf b s:=by
 obtain ⟨e1,e2⟩:=h.eq
 refine ⟨by omega,h.ok,h.ris,?_⟩
 rw[e1,List.append_nil,zdp,e2]
theorem Opn.left {b li:List UInt8} {n:Nat} {s:List Ob} (h:Opn b n n s li) (hl:li≠[]):∀ t,¬ PackOf b t:=by
 intro t ht
 obtain ⟨m,h1,h2⟩:=h.head
 obtain ⟨-,-,h3,h4⟩:=zd2 ht
 rw[h1] at h3
 injection h3 with e1 e2
 injection e2 with e2 _
 subst e1 e2
 rw[h2] at h4
 injection h4 with _ q
 injection q with q _
 exact hl q
theorem zp5 {b:List UInt8} (h:(rawS b 0 4).1≠[67,80,75,49]):∀ t,¬ PackOf b t:=by
 intro t ht
 obtain ⟨h1,h2,-,-⟩:=zd2 ht
 apply h
 unfold rawS
 rw[if_pos rfl,if_neg (by simp;omega)]
 exact h2
theorem zp6 {b:List UInt8} (h:(rawS b 0 4).1=[67,80,75,49]):b.take 4=[67,80,75,49]∧rawS b 0 4=(b.take 4,b.drop 4,0):=by
 unfold rawS at h ⊢
 rw[if_pos rfl] at h ⊢
 by_cases hl:b.length<(4:Int).toNat
 ·rw[if_pos hl] at h;simp at h
 ·rw[if_neg hl] at h ⊢
  exact ⟨h,rfl⟩
theorem zox {b m:List UInt8} {n:Nat} {e:Int} (h:numS (b.drop 4) 0 2=(n,m,e)) (hf:e≠0∨256<n):∀ t,¬ PackOf b t:=by
 intro t ht
 obtain ⟨-,-,h3,h4⟩:=zd2 ht
 rw[h] at h3
 injection h3 with e1 e2
 injection e2 with _ e3
 have:=ht.few
 rcases hf with hf | hf
 ·exact hf e3
 ·omega
theorem zol {l m:List UInt8} {n:Nat} {e:Int} (h:numS l 0 2=(n,m,e)) (he:e≠0):n=0∧m=[]:=by
 unfold numS at h
 rw[if_pos rfl] at h
 split at h
 ·injection h with e1 e2
  injection e2 with e2 _
  exact ⟨e1.symm,e2.symm⟩
 ·injection h with e1 e2
  injection e2 with _ e3
  exact absurd e3.symm he
theorem zp7 (l:List UInt8) (e:Int):(numS l e 2).1<65536:=by
 unfold numS
 have hnb:nb 2=2:=by decide
 have h1:=zjw (l.take 2)
 have h2:256 ^ (l.take 2).length≤256 ^ 2:=Nat.pow_le_pow_right (by omega) (by simp;omega)
 rw[hnb]
 split
 ·split
  ·simp
  ·simp only;omega
 ·simp
theorem zp8 (l:List UInt8) (e:Int):(numS l e 1).1<256:=by
 unfold numS
 have hnb:nb 1=1:=by decide
 have h1:=zjw (l.take 1)
 have h2:256 ^ (l.take 1).length≤256 ^ 1:=Nat.pow_le_pow_right (by omega) (by simp;omega)
 rw[hnb]
 split
 ·split
  ·simp
  ·simp only;omega
 ·simp
theorem zk2 (l:List UInt8) (e n:Int):(numS l e n).2.1.length≤l.length:=by
 unfold numS
 split
 ·split
  ·simp
  ·simp
 ·simp
theorem zhy (l:List UInt8) (e:Int):(zak l e).2.1.length≤l.length∧(zak l e).1.length≤l.length:=by
 unfold zak
 split
 ·split
  ·simp
  ·split
   ·simp
   ·split
    ·simp
    ·simp;omega
 ·simp
def zoy (w w' : World) (b:List UInt8) (e:Ending):Prop :=
 (∃ v m s K,e = .returned (.tuple #[v,.map (some m),.int .i64 0])∧PackOf b s∧w'.ownsRow w.heap.size 47 32 v s.length ((s.map obId).flatMap (·.map bv))∧MapAt w' m K∧KPl s K∧w.grownBy w' none) ∨
 (e = .returned (.tuple #[.slice none 0 0,.map none,.int .i64 11])∧(∀ t,¬ PackOf b t)∧w.grownBy w' none)
theorem Rd.asBlk {w:World} {rb:Nat} {l:List UInt8} {e:Int} (h:Rd w rb l e):∃ v,Blk w rb 114 [v,.int .i64 e]:=by
 obtain ⟨ao,c,h1,_,_⟩:=h
 exact ⟨_,h1⟩
structure OpM (u w:World) (rb mB:Nat) (v:Value) (i:Nat) (s:List Ob) (li:List UInt8) (e:Int):Prop where
 rd:Rd w rb li e
 own:w.ownsRow u.heap.size 47 32 v i ((s.map obId).flatMap (·.map bv))
 map:∃ K,MapAt w mB K∧KPl s K
 gr:u.grownBy w none
 nr:u.heap.size≤rb
 nm:u.heap.size≤mB
theorem zd3 {w a:World} {base n k:Nat} {t:TypeId} {v:Value} {xs:List Value} (h:w.ownsRow base t k v n xs) (g:w.grownBy a none):a.ownsRow base t k v n xs :=
 h.kept g (by cases v.ownBlock <;> simp)
theorem OpM.stay {u w a:World} {rb mB i:Nat} {v:Value} {s:List Ob} {li:List UInt8} {e:Int} (h:OpM u w rb mB v i s li e) (g:w.grownBy a none):OpM u a rb mB v i s li e:=by
 obtain ⟨K,h1,h2⟩:=h.map
 exact ⟨h.rd.kept g (Or.inl rfl),zd3 h.own g,⟨K,h1.none g,h2⟩,tn h.gr g,h.nr,h.nm⟩
theorem OpM.read {u w a:World} {rb mB i:Nat} {v:Value} {s:List Ob} {li l2:List UInt8} {e e2:Int} (h:OpM u w rb mB v i s li e) (hr:Rd a rb l2 e2) (g:w.grownBy a (some rb)):OpM u a rb mB v i s l2 e2:=by
 obtain ⟨K,h1,h2⟩:=h.map
 obtain ⟨x,hB⟩:=h.rd.asBlk
 refine ⟨hr,h.own.kept g (Or.inr fun e=>zan h.own hB (by decide) e.symm),⟨K,h1.kept g (fun e=>by injection e with e;exact h1.blk hB e),h2⟩,zac h.gr g (fun y e=>Or.inl (by injection e with e;have:=h.nr;omega)),h.nr,h.nm⟩
theorem OpM.name {u w a:World} {rb mB i:Nat} {v:Value} {s:List Ob} {li:List UInt8} {e:Int} (h:OpM u w rb mB v i s li e) (g:w.grownBy a v.ownBlock) :
  Rd a rb li e∧(∃ K,MapAt a mB K∧KPl s K)∧u.grownBy a none:=by
 obtain ⟨K,h1,h2⟩:=h.map
 obtain ⟨x,hB⟩:=h.rd.asBlk
 refine ⟨h.rd.keptTyp g (fun y e=>⟨fun e2 => ?_,zbx h.own e (by decide)⟩),⟨K,h1.kept g (h1.own h.own),h2⟩,zac h.gr g (fun y e=>Or.inl (h.own.lt y e).1)⟩
 subst e2
 exact zan h.own hB (by decide) e.symm
theorem OpM.place {u w a:World} {rb mB i:Nat} {v:Value} {s2:List Ob} {li:List UInt8} {e:Int} {K K2:List (List UInt8 × Value)} (hr:Rd w rb li e) (ho:w.ownsRow u.heap.size 47 32 v i ((s2.map obId).flatMap (·.map bv)))
  (hm:MapAt w mB K) (hg:u.grownBy w none) (nr:u.heap.size≤rb) (nm:u.heap.size≤mB) (g:w.grownBy a (some mB)) (hm2:MapAt a mB K2) (hk:KPl s2 K2):OpM u a rb mB v i s2 li e:=by
 obtain ⟨x,hB⟩:=hr.asBlk
 refine ⟨hr.keptTyp g (fun y e=>⟨fun e2 => ?_,?_⟩),zmk ho hm g,⟨K2,hm2,hk⟩,zac hg g (fun y e=>Or.inl (by injection e with e;omega)),nr,nm⟩
 ·injection e with e
  exact hm.blk hB (by omega)
 ·injection e with e
  rw[← e];exact hm.typ
theorem zmv (x:List UInt8) (hx:x.length=32) (a n:Nat):Tryz.prog.built 49 [(0,.agg (x.map bv).toArray),(1,.int .i64 (a:Int)),(2,.int .i64 (n:Int))]=some (plC x a n).toArray:=by
 obtain ⟨a0,a1,a2,a3,a4,a5,a6,a7,a8,a9,a10,a11,a12,a13,a14,a15,a16,a17,a18,a19,a20,a21,a22,a23,a24,a25,a26,a27,a28,a29,a30,a31,rfl⟩:=zem x hx
 kernel_rfl
theorem zk3 (k:Int) (ao:Option Addr) (n c:Nat):Tryz.prog.built 42 [(0,.int .i64 k),(1,.slice ao n c)]=some #[.int .i64 k,.slice ao n c]:=by kernel_rfl
structure Obo (w:World) (lim base:Nat) (v:Value) (R:List ObP):Prop where
 own:w.ownsRow base 42 2 v R.length (R.flatMap obP)
 bts:∀ r∈R,Bts w r.ao r.c r.d
 typ:∀ r∈R,∀ ad,r.ao=some ad→Typ w ad.block∨ad.block<lim
 le:lim≤base
theorem Obo.nil (w:World) {lim base:Nat} (h:lim≤base):Obo w lim base (.slice none 0 0) []:=⟨World.ownsRow_nil w base _ 2,(fun _ e=>by cases e),(fun _ e=>by cases e),h⟩
theorem Obo.stay {w a:World} {lim base:Nat} {v:Value} {R:List ObP} (h:Obo w lim base v R) (g:w.grownBy a none):Obo a lim base v R :=
 ⟨zd3 h.own g,fun r hr=>(h.bts r hr).kept g (fun _ e=>by cases e),fun r hr ad e=>(h.typ r hr ad e).imp (fun q=>q.kept g (by simp)) id,h.le⟩
theorem Obo.low {w:World} {lim base b2:Nat} {v:Value} {R:List ObP} (h:Obo w lim base v R) (h1:b2≤base) (h2:lim≤b2):Obo w lim b2 v R :=
 ⟨zb5 h.own h1,h.bts,h.typ,h2⟩
theorem Obo.put {w a:World} {lim base:Nat} {v v2:Value} {R:List ObP} (h:Obo w lim base v R) (r:ObP) (hb:Bts w r.ao r.c r.d) (ht:∀ ad,r.ao=some ad→Typ w ad.block∨ad.block<lim) (g:w.grownBy a v.ownBlock)
  (ho:a.ownsRow base 42 2 v2 (R.length+1) (R.flatMap obP++obP r)):Obo a lim base v2 (R++[r]):=by
 have ne:∀ x,v.ownBlock=some x→¬ Typ w x∧base≤x:=fun x e=>⟨zbx h.own e (by decide),(h.own.lt x e).1⟩
 have hle:=h.le
 have all:∀ q∈R++[r],Bts w q.ao q.c q.d∧∀ ad,q.ao=some ad→Typ w ad.block∨ad.block<lim:=by
  intro q hq
  rcases List.mem_append.1 hq with h1 | h1
  ·exact ⟨h.bts q h1,h.typ q h1⟩
  ·rw[List.mem_singleton.1 h1];exact ⟨hb,ht⟩
 have off:∀ q∈R++[r],∀ x,v.ownBlock=some x→∀ ad,q.ao=some ad→ad.block≠x:=fun q hq x e ad e2 e3=>by
  rcases (all q hq).2 ad e2 with h1 | h1
  ·exact (ne x e).1 (by rw[← e3];exact h1)
  ·have:=(ne x e).2;omega
 refine ⟨by simpa using ho,fun q hq=>(all q hq).1.kept g (fun x e ad e2 e3=>off q hq x e ad e2 e3),fun q hq ad e => ?_,hle⟩
 rcases (all q hq).2 ad e with h1 | h1
 ·exact Or.inl (h1.kept g (fun e2=>off q hq _ e2.symm ad e rfl))
 ·exact Or.inr h1
theorem Obo.sl {w:World} {lim base:Nat} {v:Value} {R:List ObP} (h:Obo w lim base v R):∃ ao c,v = .slice ao R.length c∧Obsl w ao c R:=by
 obtain ⟨ao,c,h1,h2,h3,h4,h5,h6⟩:=zde obP 2 h.own (fun _ _=>rfl)
 exact ⟨ao,c,h1,⟨h2,h3,h4,fun ad e _=>(h5 ad e).1,h6,h.bts⟩⟩
theorem zmw:(Tryz.prog.info? 49).map (fun i=>(i.zero,i.size,i.bytes))=some (some (.agg (plC (List.replicate 32 0) 0 0).toArray),34,48):=by kernel_rfl
theorem zjr:(Tryz.prog.info? 49).map (·.size)=some 34:=by kernel_rfl
theorem zd4 (w:World):(zeroValue 49).run Tryz.prog w = .ok (.agg (plC (List.replicate 32 0) 0 0).toArray) w:=by kernel_rfl
theorem zi0 (x:List UInt8) (a n:Nat):∀ u∈plC x a n,u.oneCell'=true:=by
 intro u hu
 unfold plC at hu
 rcases List.mem_append.1 hu with h | h
 ·exact zaw _ u h
 ·simp only[List.mem_cons,List.not_mem_nil,or_false] at h
  rcases h with rfl | rfl <;> rfl
theorem zqw (x:List UInt8) (hx:x.length=32) (a n:Nat) (V:World):(Instr.buildSlice 38 1 #[(0,.agg (plC x a n).toArray)]).run Tryz.prog V = .ok (.slice (some ⟨V.heap.size,0,none⟩) 1 1) (V.alloc (.cells (plC x a n).toArray 49)):=by
 obtain ⟨a0,a1,a2,a3,a4,a5,a6,a7,a8,a9,a10,a11,a12,a13,a14,a15,a16,a17,a18,a19,a20,a21,a22,a23,a24,a25,a26,a27,a28,a29,a30,a31,rfl⟩:=zem x hx
 kernel_rfl
theorem zei {w:World} {ops:Array Oper} {rest:List Oper} {o:Oper} {a:Act} {Q:Exit→Act→World→Prop} (hgd:o.guard=none) (s x:Operand)
  (ho:o.op = .call { callee := .builtin .append,args := #[s,x],argTypes := #[38,38] })
  (base:Nat) (v:Value) (n:Nat) (xs:List Value) (hs:a.eval s=v) (hown:w.ownsRow base 49 34 v n xs) (p:Nat) (EC:List Value) (hB:Blk w p 49 EC) (hEl:EC.length=34) (hE1:∀ u∈EC,u.oneCell'=true)
  (hx:a.eval x = .slice (some ⟨p,0,none⟩) 1 1) (hn:n≤100000) (hbase:base≤w.heap.size)
  (h:∀ v' w',w'.ownsRow base 49 34 v' (n+1) (xs++EC)→w.grownBy w' v.ownBlock→wpList Tryz.prog ops Q rest (a.put o.dst v') w'):wpList Tryz.prog ops Q (o::rest) a w:=by
 obtain ⟨i0,hi,hz0,hz1,hz2⟩:=info_parts zmw
 exact wpList_append_own w hgd s x 38 ho base 49 i0 _ 34 48 Tryz.underlying38 hi hz0 hz1 hz2 rfl (by decide) v n xs hs hown ⟨p,0,none⟩ 1 1 EC hx (by rw[hEl]) (fun j u hu=>World.news_of_block hB j u (by simpa using hu)) hE1 (by unfold maxLen;omega) (by omega) hbase (fun v' w' q1 q2 _=>h v' w' q1 q2)
def plO (s:List Ob) (j:Nat):List Value:=plC (nmO s j) (offO s j) (5+(s.getD j (0,[])).2.length) where
 nmO (s:List Ob) (j:Nat):List UInt8:=obId (s.getD j (0,[]))
theorem zoz {s:List Ob} {j:Nat} (h:j<s.length):plO s j=plC (obId s[j]) (offO s j) (5+s[j].2.length):=by
 unfold plO plO.nmO
 rw[List.getD_eq_getElem?_getD,List.getElem?_eq_getElem h]
 rfl
theorem zmx (s:List Ob) (j:Nat):(plO s j).length=34:=by
 unfold plO plO.nmO
 exact plC_len' _ (zbe _) _ _
where plC_len' (x:List UInt8) (hx:x.length=32) (a n:Nat):(plC x a n).length=34:=by simp[plC,hx]
theorem zg6 {b:List UInt8} {s:List Ob} (h:PackOf b s) {j:Nat} (hj:j<s.length):offO s j+(5+s[j].2.length)≤b.length∧(b.drop (offO s j)).take (5+s[j].2.length)=obB s[j]:=by
 have hb:b=zdh s.length++(s.flatMap obB):=h.eq
 have hs:s.flatMap obB=(s.take j).flatMap obB++(obB s[j]++(s.drop (j+1)).flatMap obB):=by
  conv=>lhs;rw[← List.take_append_drop j s]
  rw[List.flatMap_append,List.drop_eq_getElem_cons hj,List.flatMap_cons]
 have ho:(obB s[j]).length=5+s[j].2.length:=zfn _
 have hd:b.drop (offO s j)=obB s[j]++(s.drop (j+1)).flatMap obB:=by
  rw[hb,hs,← List.append_assoc]
  have hl:offO s j=(zdh s.length++(s.take j).flatMap obB).length:=by unfold offO;rw[List.length_append,zfo]
  rw[hl,List.drop_left]
 constructor
 ·have:=congrArg List.length hd
  rw[List.length_drop,List.length_append,ho] at this
  omega
 ·rw[hd,← ho,List.take_left]
theorem zjs {P:Program} (W:World) (t e:TypeId) (ht:P.underlying t=some (.slice e)) (hz:∀ w,(Go.sizeOf e).run P w = .ok 1 w) (ao:Option Addr) (n c lo hi:Nat) (h1:lo≤hi) (h2:hi≤c) :
  (Instr.slice t (.slice ao n c) (some (.int .i64 (lo:Int))) (some (.int .i64 (hi:Int))) none).run P W = .ok (.slice (cutA ao c lo) (hi - lo) (c - lo)) W:=by
 have ht' : P.underlying t=some (.slice (P.elem t)):=by simp[Program.elem,ht]
 have he:P.elem t=e:=by simp[Program.elem,ht]
 rw[run_slice_lh W t _ _ _ ht' .i64 .i64 _ _ (by omega) (by omega) (by omega),he,hz]
 simp[Result.andThen,sliced,cutA]
theorem zo0 {o:Ob} (h:OkO o):rdL (obB o)=(0,o.1,o.2):=by
 have h1:=zio h []
 rw[List.append_nil] at h1
 unfold rdO at h1
 simp only[Prod.mk.injEq] at h1
 obtain ⟨h2,h3,h4⟩:=h1
 have h5:=congrArg Prod.fst h2
 have h6:=congrArg Prod.snd h2
 simp only at h5 h6
 unfold rdL
 simp only
 rw[h3,h4,h6,h5]
 have:zd9 [] 0=0∧zar o.1 o.2=0:=⟨rfl,h⟩
 rw[if_pos this]
theorem zp9 (x:List UInt8) (hx:x.length=32) (a n:Nat):(plC x a n).length=34:=by simp[plC,hx]
theorem zo1 (x:List UInt8) (hx:x.length=32) (a n:Nat):(plC x a n)[32]? = some (.int .i64 (a:Int)):=by
 unfold plC
 rw[List.getElem?_append_right (by simp[hx])]
 simp[hx]
theorem zo2 (x:List UInt8) (hx:x.length=32) (a n:Nat):(plC x a n)[33]? = some (.int .i64 (n:Int)):=by
 unfold plC
 rw[List.getElem?_append_right (by simp[hx])]
 simp[hx]
set_option maxRecDepth 100000 in
set_option maxHeartbeats 2000000 in
theorem zge (w:World) (ao:Option Addr) (c:Nat) (b:List UInt8) (hb:Bts w ao c b) (hl:b.length≤200000) (x:List UInt8) (hx:x.length=32) (a n:Nat) (ha:a+n≤b.length) (o:Ob) (hok:OkO o) (hseg:(b.drop a).take n=obB o) :
  Calls Tryz.prog 30 #[.slice ao b.length c,.agg (plC x a n).toArray] w fun e w'=>∃ v,e = .returned (.agg #[.int .i64 o.1,v])∧NewB w w' v o.2∧w.grownBy w' none:=by
 have hfit:=hb.fits
 obtain ⟨PC,hPC⟩:∃ p,p=plC x a n:=⟨_,rfl⟩
 rw[← hPC]
 obtain ⟨W1,hW1,hB1,g1⟩:=zah w 49 PC
 obtain ⟨W2,hW2,hB2,g2⟩:∃ W2,W2=W1.alloc (.cells #[.int .i64 0,.slice none 0 0] 42)∧Blk W2 W1.heap.size 42 [.int .i64 0,.slice none 0 0]∧W1.grownBy W2 none:=zah W1 _ _
 have hs1:W1.heap.size=w.heap.size+1:=by rw[hW1];simp
 rw[hs1] at hB2
 have G2:=tn g1 g2
 have hB12:=hB1.kept g2 (by simp)
 have c32:W2.cell? ⟨w.heap.size,32,none⟩=some (.int .i64 (a:Int)):=by rw[hB12.cell 32,hPC];exact zo1 x hx a n
 have c33:W2.cell? ⟨w.heap.size,33,none⟩=some (.int .i64 (n:Int)):=by rw[hB12.cell 33,hPC];exact zo2 x hx a n
 obtain ⟨hi,hhi⟩:∃ z,z=a+n:=⟨_,rfl⟩
 have hsl:=fun W=>zjs W 24 5 Tryz.underlying24 zau ao b.length c a hi (by omega) (by omega)
 have eah:(a:Int)+(n:Int)=(hi:Int):=by omega
 have hbs:Bts W2 (cutA ao c a) (c - a) (obB o):=by
  have:=((hb.kept G2 (fun _ e=>by cases e)).drop a (by omega)).take n (by simp;omega)
  rw[hseg] at this
  exact this
 have hol:(obB o).length=n:=by rw[← hseg];simp;omega
 have hbl:=hol
 have cr:=zhx W2 _ _ (obB o) hbs (by obtain ⟨_,_,_,_,h⟩:=zdq hok;rw[zfn];omega)
 rw[zo0 hok] at cr
 rw[hol] at cr
 have hin:hi - a=n:=by omega
 rw[hin] at hsl
 obtain ⟨bn,hbn⟩:∃ z,z=b.length:=⟨_,rfl⟩
 rw[← hbn] at hsl ⊢
 have HS:w.heap.size+2≤W2.heap.size:=by have:=hB2.lt;omega
 have HW:=hide (show W2=(w.alloc (.cells PC.toArray 49)).alloc (.cells #[.int .i64 0,.slice none 0 0] 42) by rw[hW2,hW1])
 obtain ⟨HB2,HG2,HSL⟩:=zh3 hB2 G2 hsl
 have hn9:n≤200000:=by omega
 have ha9:a≤200000:=by omega
 clear hsl hW1 hW2 hB1 hB2 g1 g2 hs1 G2 hB12 hPC hhi hbs hol hbl hbn hin hb hl ha hseg hfit
 go_enter Tryz.func30,Tryz.ntmps30
 have hsl:=uh HSL
 go_wp2_with (rw[← uh HW])
 refine cr.mono ?_
 rintro e w3 ⟨v3,y3,k3,rfl,rfl,rfl,⟨a3,x3,rfl,hb3,ht3⟩,g3⟩
 clear cr
 obtain ⟨W4,hW4,hB4,g4⟩:=zah w3 42 [.int .i64 o.1,.slice a3 o.2.length x3]
 have hBr:=(uh HB2).kept (tn g3 g4) (by simp)
 have hc0:W4.cell? ⟨w3.heap.size,0,none⟩=some (.int .i64 o.1):=by rw[hB4.cell 0];rfl
 have hc1:W4.cell? ⟨w3.heap.size,1,none⟩=some (.slice a3 o.2.length x3):=by rw[hB4.cell 1];rfl
 have HN:=hide (And.intro hb3 ht3)
 have HG4:=hide (tn g3 g4)
 have G34:=g4
 have HW4:=hide (show W4=w3.alloc (.cells #[.int .i64 o.1,.slice a3 o.2.length x3] 42) from hW4)
 clear hb3 ht3 g3 g4 hW4 hB4
 go_wp2_with (first
  | (rw[← uh HW4])
  | (refine wpList_store_row rfl 42 _ _ rfl (w.heap.size+1) #[.int .i64 o.1,.slice a3 o.2.length x3] rfl rfl _ _ hBr zam rfl (zdo rfl) ?_))
 have hs2:w.heap.size+2≤W2.heap.size:=HS
 have g5:W4.grownBy (W4.setRow (w.heap.size+1) #[.int .i64 o.1,.slice a3 o.2.length x3]) (some (w.heap.size+1)):=zaq (zab _ _) _ (Or.inr rfl)
 obtain ⟨hb3,ht3⟩:=uh HN
 have g4:w3.grownBy W4 none:=G34
 have hb4:=hb3.kept g4 (fun _ e=>by cases e)
 refine bodyPost_ret (results_cell_row rfl _ _ _ _ _ _ _ rfl (hBr.row [.int .i64 o.1,.slice a3 o.2.length x3]) Tryz.underlying42 rfl zam) rfl ?_
 refine ⟨_,rfl,⟨a3,x3,rfl,hb4.kept g5 (fun x e => ?_),fun ad e=>⟨?_,((ht3 ad e).2.kept g4 (by simp)).kept g5 ?_⟩⟩,zaq (tn (uh HG2) (uh HG4)) _ (Or.inl (Nat.le_succ _))⟩
 ·cases e
  intro ad e2
  have:=(ht3 ad e2).1
  omega
 ·have:=(ht3 ad e).1
  omega
 ·have:=(ht3 ad e).1
  simp only[ne_eq,Option.some.injEq]
  omega
end Go.Proofs.YtegbbkgmiklhcaaGreatDoor
