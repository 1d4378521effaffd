/- Lemmas. -/
import Derived.Test.YtoilcpdhhlcidaaGreatDoorRows
import Derived.WalkKit
import Derived.WalkSpells
import Derived.WalkLawsBesides
import Derived.Laws.AppendOwnNone
namespace Go.Proofs.YtoilcpdhhlcidaaGreatDoor
open Go.RowKit
theorem hide {p:Prop} (h:p):Hid p:=h
theorem uh {p:Prop} (h:Hid p):p:=h
structure Bts (w:World) (ao:Option Addr) (c:Nat) (l:List UInt8):Prop where
 zip:ao=none→l.length=0∧c=0
 fits:l.length≤c
 most:c≤maxLen
 shape:∀ ad,ao=some ad→0<l.length→ad.spot=none
 cell:∀ ad,ao=some ad→∀ i (h:i<l.length),w.cell? ⟨ad.block,ad.off+i,none⟩=some (.int .u8 ((l[i].toNat:Nat):Int))
def Off (ao:Option Addr) (r:Nat):Prop:=∀ ad,ao=some ad→ad.block≠r
theorem Bts.nil (w:World):Bts w none 0 []:=⟨fun _=>⟨rfl,rfl⟩,Nat.le_refl _,Nat.zero_le _,(fun _ h=>by cases h),(fun _ h=>by cases h)⟩
theorem zae {w a b:World} {r s:Option Nat} (h:w.grownBy a r) (k:a.grownBy b s) (hs:∀ x,s=some x→w.heap.size≤x∨r=some x):w.grownBy b r :=
 ⟨k.os.trans h.os,k.tape.trans h.tape,k.output.trans h.output,Nat.le_trans h.size k.size,fun i hi hne=>by
  have h1:=h.block i hi hne
  have h2:some i≠s:=fun e=>by
   rcases hs i e.symm with h3 | h3
   ·omega
   ·exact hne h3.symm
  rw[k.block i (Nat.lt_of_lt_of_le hi h.size) h2,h1]⟩
theorem tn {x y z:World} {r:Option Nat} (h:x.grownBy y r) (k:y.grownBy z Option.none):x.grownBy z r:=zae h k (fun _ e=>by cases e)
theorem zac (w:World) (r:Option Nat):w.grownBy w r:=World.grownBy.refl w r
theorem zav {w a:World} (r:Option Nat) (h:w.grownBy a none):w.grownBy a r :=
 ⟨h.os,h.tape,h.output,h.size,fun i hi _=>h.block i hi (by simp)⟩
theorem zaf {w a:World} {r:Option Nat} (h:w.grownBy a r) (o:Obj):w.grownBy (a.alloc o) r :=
 zae h (World.grownBy_alloc a o r) (fun _ e=>Or.inr e)
theorem zam {w a:World} {r:Option Nat} (h:w.grownBy a r) (p:Addr) (v:Value) (hp:w.heap.size≤p.block∨r=some p.block):w.grownBy (a.setCell p v) r :=
 zae h (s:=some p.block) ⟨rfl,rfl,rfl,by simp[World.setCell],fun k _ hne=>Below.heap_setCell a p v k (fun e=>hne (by rw[e]))⟩ (fun x e=>by cases e;exact hp)
theorem zdp {w a:World} (h:w.grownBy a none):Below w.heap.size w a:=⟨h.os,h.tape,h.output,h.size,fun k hk=>h.block k hk (by simp)⟩
theorem zdq {w a:World} (h:Below w.heap.size w a):w.grownBy a none:=⟨h.os,h.tape,h.output,h.size,fun k hk _=>h.block k hk⟩
theorem Bts.kept {w a:World} {r:Option Nat} {ao:Option Addr} {c:Nat} {l:List UInt8} (h:Bts w ao c l) (g:w.grownBy a r) (hr:∀ x,r=some x→Off ao x):Bts a ao c l :=
 ⟨h.zip,h.fits,h.most,h.shape,fun ad e i hi=>g.cell (h.cell ad e i hi) (fun e2=>hr ad.block e2.symm ad e rfl)⟩
def Typ (w:World) (b:Nat):Prop:=∃ cur m,w.heap[b]? = some (.cells cur 5 m)
theorem Typ.lt {w:World} {b:Nat} (h:Typ w b):b<w.heap.size:=by
 obtain ⟨_,_,h⟩:=h
 exact (Array.getElem?_eq_some_iff.1 h).1
theorem Typ.kept {w a:World} {b:Nat} {r:Option Nat} (h:Typ w b) (g:w.grownBy a r) (hr:some b≠r):Typ a b:=by
 have hlt:=h.lt
 obtain ⟨cur,m,h⟩:=h
 exact ⟨cur,m,by rw[g.block b hlt hr];exact h⟩
theorem Typ.own {w:World} {base n cap g:Nat} {xs:List Value} (h:w.ownsRow base 5 1 (.slice (some ⟨g,0,none⟩) n cap) n xs):Typ w g:=by
 rcases h.2 with ⟨h2,_⟩ | ⟨g',cap',cur,hv,_,hh,_⟩
 ·cases h2
 ·cases hv
  exact ⟨cur,_,hh⟩
def Inb (w:World) (ao:Option Addr) (r:Nat):Prop:=∀ ad,ao=some ad→Typ w ad.block∧ad.block≠r
theorem Inb.off {w:World} {ao:Option Addr} {r:Nat} (h:Inb w ao r):Off ao r:=fun ad e=>(h ad e).2
theorem Inb.off_typ {w:World} {ao:Option Addr} {r k:Nat} (h:Inb w ao r) (hk:¬ Typ w k):Off ao k:=fun ad e e2=>hk (by rw[← e2];exact (h ad e).1)
theorem zmr {w:World} {k:Nat} (hk:w.heap.size≤k):¬ Typ w k:=fun t=>by have:=t.lt;omega
theorem Inb.off_new {w:World} {ao:Option Addr} {r k:Nat} (h:Inb w ao r) (hk:w.heap.size≤k):Off ao k:=h.off_typ (zmr hk)
theorem Inb.kept {w a:World} {ao:Option Addr} {r:Nat} {s:Option Nat} (h:Inb w ao r) (g:w.grownBy a s) (hs:∀ x,s=some x→Off ao x):Inb a ao r :=
 fun ad e=>⟨(h ad e).1.kept g (fun e2=>hs _ e2.symm ad e rfl),(h ad e).2⟩
theorem zbs (w:World) (rb o:Nat) (v:Value):w.grownBy (w.setCell ⟨rb,o,none⟩ v) (some rb):=zam (zac w (some rb)) ⟨rb,o,none⟩ v (Or.inr rfl)
def bv (x:UInt8):Value := .int .u8 ((x.toNat:Nat):Int)
theorem zch (l:List UInt8):∀ u∈l.map bv,u.oneCell'=true:=by
 intro u hu
 obtain ⟨_,_,rfl⟩:=List.mem_map.1 hu
 rfl
theorem Bts.news {w:World} {ao:Option Addr} {c:Nat} {l:List UInt8} (h:Bts w ao c l):∀ ad,ao=some ad→∀ j u,(l.map bv)[j]? = some u→w.cell? (ad.add j)=some u:=by
 intro ad e j u hu
 obtain ⟨hj,rfl⟩:=List.getElem?_eq_some_iff.1 hu
 have hj' : j<l.length:=by simpa using hj
 have h1:=h.cell ad e j hj'
 have h2:=h.shape ad e (by omega)
 obtain ⟨b,o,s⟩:=ad
 simp only at h2
 subst h2
 rw[Addr.add_lit]
 simpa[bv] using h1
theorem Bts.own {w:World} {base n cap g:Nat} {l:List UInt8} (h:w.ownsRow base 5 1 (.slice (some ⟨g,0,none⟩) n cap) n (l.map bv)):n=l.length∧base≤g∧Bts w (some ⟨g,0,none⟩) cap l:=by
 obtain ⟨h1,h2⟩:=h
 have hn:n=l.length:=by simpa using h1.symm
 subst hn
 rcases h2 with ⟨h2,_⟩ | ⟨g',cap',cur,hv,hg,hh,h3,h4,h5,h6⟩
 ·cases h2
 ·cases hv
  refine ⟨rfl,hg,⟨(fun e=>by cases e),h3,h4,(fun ad e _=>by cases e;rfl),(fun ad e i hi => ?_)⟩⟩
  cases e
  have h7:(cur.toList.take (l.length*1))[i]? = (l.map bv)[i]? := by rw[h6]
  rw[List.getElem?_take_of_lt (by omega)] at h7
  simp[World.cell?,hh,hi,bv] at h7 ⊢
  exact h7
def cutA (ao:Option Addr) (c n:Nat):Option Addr:=if c=n then ao else ao.map (·.add n)
theorem zd6 {ao:Option Addr} {c n r:Nat} (h:Off ao r):Off (cutA ao c n) r:=by
 intro ad e
 unfold cutA at e
 split at e
 ·exact h ad e
 ·obtain ⟨a,ha,rfl⟩:=Option.map_eq_some_iff.1 e
  have:=h a ha
  unfold Addr.add
  split <;> exact this
theorem zo7 {w:World} {ao:Option Addr} {c n r:Nat} (h:Inb w ao r):Inb w (cutA ao c n) r:=by
 intro ad e
 unfold cutA at e
 split at e
 ·exact h ad e
 ·obtain ⟨a,ha,rfl⟩:=Option.map_eq_some_iff.1 e
  have:=h a ha
  unfold Addr.add
  split <;> exact this
theorem Bts.take {w:World} {ao:Option Addr} {c:Nat} {l:List UInt8} (h:Bts w ao c l) (n:Nat) (hn:n≤l.length):Bts w ao c (l.take n):=by
 refine ⟨(fun e => ?_),?_,h.most,(fun ad e hp=>h.shape ad e (by simp at hp;omega)),(fun ad e i hi => ?_)⟩
 ·have:=h.zip e
  exact ⟨by simp;omega,this.2⟩
 ·have:=h.fits;simp;omega
 ·have hi' : i<l.length:=by simp at hi;omega
  rw[h.cell ad e i hi']
  simp
theorem Bts.drop {w:World} {ao:Option Addr} {c:Nat} {l:List UInt8} (h:Bts w ao c l) (n:Nat) (hn:n≤l.length):Bts w (cutA ao c n) (c - n) (l.drop n):=by
 have hf:=h.fits
 refine ⟨(fun e => ?_),?_,Nat.le_trans (Nat.sub_le _ _) h.most,(fun ad e hp => ?_),(fun ad e i hi => ?_)⟩
 ·unfold cutA at e
  split at e
  ·have:=h.zip e
   exact ⟨by simp;omega,by omega⟩
  ·rw[Option.map_eq_none_iff] at e
   have:=h.zip e
   exact ⟨by simp;omega,by omega⟩
 ·simp;omega
 ·unfold cutA at e
  split at e
  ·exact h.shape ad e (by simp at hp;omega)
  ·obtain ⟨a,ha,rfl⟩:=Option.map_eq_some_iff.1 e
   have:=h.shape a ha (by simp at hp;omega)
   unfold Addr.add
   split
   ·exact this
   ·rfl
 ·have hi' : n+i<l.length:=by simp at hi;omega
  unfold cutA at e
  rw[if_neg (by omega)] at e
  obtain ⟨a,ha,rfl⟩:=Option.map_eq_some_iff.1 e
  have hs:=h.shape a ha (by omega)
  have hc:=h.cell a ha (n+i) hi'
  obtain ⟨b,o,s⟩:=a
  simp only at hs
  subst hs
  rw[Addr.add_lit]
  simp only[List.getElem_drop]
  rw[Nat.add_assoc]
  exact hc
theorem Bts.below {w a:World} {ao:Option Addr} {c:Nat} {l:List UInt8} (h:Bts w ao c l) (g:Below w.heap.size w a):Bts a ao c l:=h.kept (zdq g) (fun _ e=>by cases e)
def be (l:List UInt8):Nat:=l.foldl (fun a x=>a*256+x.toNat) 0
theorem zjq (l:List UInt8) (x:UInt8):be (l++[x])=be l*256+x.toNat:=by simp[be]
theorem zr1 (l:List UInt8):be l<256 ^ l.length:=by
 rw[← List.reverse_reverse l]
 generalize l.reverse=m
 induction m with
 | nil=>simp[be]
 | cons x m ih =>
   rw[List.reverse_cons,zjq]
   have:=x.toNat_lt
   simp only[List.length_append,List.length_reverse,List.length_cons,List.length_nil] at ih ⊢
   rw[Nat.pow_add]
   omega
theorem zfs {l:List UInt8} {k:Nat} (h:k<l.length):l.take (k+1)=l.take k++[l[k]]:=by
 rw[List.take_succ_eq_append_getElem h]
theorem za2 (w:World):(Go.sizeOf 5).run Tryz.prog w = .ok 1 w:=by kernel_rfl
theorem zkc {P:Program} (W:World) (t e:TypeId) (ht:P.underlying t=some (.slice e)) (hz:∀ w,(Go.sizeOf e).run P w = .ok 1 w) (ao:Option Addr) (n c k:Nat) (hk:k≤c) :
  (Instr.slice t (.slice ao n c) none (some (.int .i64 (k:Int))) none).run P W = .ok (.slice ao k c) W:=by
 have ht' : P.underlying t=some (.slice (P.elem t)):=by simp[Program.elem,ht]
 have he:P.elem t=e:=by simp[Program.elem,ht]
 rw[run_slice_h W t _ _ _ ht' .i64 _ (by omega) (by omega),he,hz]
 cases ao <;> simp[Result.andThen,sliced,Addr.add]
theorem zb1 {P:Program} (W:World) (t e:TypeId) (ht:P.underlying t=some (.slice e)) (hz:∀ w,(Go.sizeOf e).run P w = .ok 1 w) (ao:Option Addr) (n c k:Nat) (hk:k≤n) :
  (Instr.slice t (.slice ao n c) (some (.int .i64 (k:Int))) none none).run P W = .ok (.slice (cutA ao c k) (n - k) (c - k)) W:=by
 have ht' : P.underlying t=some (.slice (P.elem t)):=by simp[Program.elem,ht]
 have he:P.elem t=e:=by simp[Program.elem,ht]
 rw[run_slice_l W t _ _ _ ht' .i64 _ (by omega) (by omega),he,hz]
 simp[Result.andThen,sliced,cutA]
theorem pq1 (l:List Value) (i:Nat) (v:Value):l.toArray.setIfInBounds i v=(l.set i v).toArray:=List.setIfInBounds_toArray ..
theorem pq2 (x:Value) (l:List Value) (v:Value):(x::l).set 0 v=v::l:=rfl
theorem pq3 (x:Value) (l:List Value) (i:Nat) (v:Value):(x::l).set (i+1) v=x::l.set i v:=rfl
theorem pq : (∀ (a : Act) (d : Nat) (v : Value), a.put (some d) v = { a with tmps := a.tmps.setIfInBounds d v }) ∧ (∀ (a : Act) (v : Value), a.put none v = a) ∧ (∀ (l : List Value) (i : Nat) (v : Value), l.toArray.setIfInBounds i v = (l.set i v).toArray) ∧ (∀ (x : Value) (l : List Value) (v : Value), (x :: l).set 0 v = v :: l) ∧ (∀ (x : Value) (l : List Value) (i : Nat) (v : Value), (x :: l).set (i + 1) v = x :: l.set i v) := ⟨fun _ _ _ => rfl, fun _ _ => rfl, pq1, pq2, pq3⟩
theorem zh2 {p0 p1 : Prop} (h0 : p0) (h1 : p1) : Hid p0 ∧ Hid p1 := ⟨hide h0, hide h1⟩
theorem zh3 {p0 p1 p2 : Prop} (h0 : p0) (h1 : p1) (h2 : p2) : Hid p0 ∧ Hid p1 ∧ Hid p2 := ⟨hide h0, hide h1, hide h2⟩
theorem zh4 {p0 p1 p2 p3 : Prop} (h0 : p0) (h1 : p1) (h2 : p2) (h3 : p3) : Hid p0 ∧ Hid p1 ∧ Hid p2 ∧ Hid p3 := ⟨hide h0, hide h1, hide h2, hide h3⟩
theorem zh5 {p0 p1 p2 p3 p4 : Prop} (h0 : p0) (h1 : p1) (h2 : p2) (h3 : p3) (h4 : p4) : Hid p0 ∧ Hid p1 ∧ Hid p2 ∧ Hid p3 ∧ Hid p4 := ⟨hide h0, hide h1, hide h2, hide h3, hide h4⟩
theorem zh6 {p0 p1 p2 p3 p4 p5 : Prop} (h0 : p0) (h1 : p1) (h2 : p2) (h3 : p3) (h4 : p4) (h5 : p5) : Hid p0 ∧ Hid p1 ∧ Hid p2 ∧ Hid p3 ∧ Hid p4 ∧ Hid p5 := ⟨hide h0, hide h1, hide h2, hide h3, hide h4, hide h5⟩
theorem zb5:(Tryz.prog.info? 5).map (fun i=>(i.zero,i.size,i.bytes))=some (some (.int .u8 0),1,1):=by kernel_rfl
def NewB (w w' : World) (v:Value) (x:List UInt8):Prop:=∃ ao c,v = .slice ao x.length c∧Bts w' ao c x∧∀ ad,ao=some ad→w.heap.size≤ad.block∧Typ w' ad.block
theorem NewB.nil (w w' : World):NewB w w' (.slice none 0 0) []:=⟨none,0,rfl,Bts.nil _,fun _ e=>by cases e⟩
theorem NewB.own {w w' : World} {v:Value} {x:List UInt8} (h:w'.ownsRow w.heap.size 5 1 v x.length (x.map bv)):NewB w w' v x:=by
 rcases h.2 with ⟨rfl,h2⟩ | ⟨g,cap,cur,rfl,hg,hh,_⟩
 ·have:=List.eq_nil_of_length_eq_zero h2
  subst this
  exact NewB.nil _ _
 ·obtain ⟨_,h3,h4⟩:=Bts.own h
  exact ⟨_,_,rfl,h4,fun ad e=>by cases e;exact ⟨h3,⟨cur,_,hh⟩⟩⟩
structure Lst (w:World) (ao:Option Addr) (c:Nat) (L:List (List UInt8)):Prop where
 zip:ao=none→L.length=0∧c=0
 fits:L.length≤c
 most:c≤maxLen
 shape:∀ ad,ao=some ad→0<L.length→ad.spot=none
 cell:∀ ad,ao=some ad→∀ i (h:i<L.length),∃ ai ci,w.cell? ⟨ad.block,ad.off+i,none⟩=some (.slice ai (L[i]).length ci)∧Bts w ai ci L[i]
theorem Lst.below {w a:World} {ao:Option Addr} {c:Nat} {L:List (List UInt8)} (h:Lst w ao c L) (g:Below w.heap.size w a):Lst a ao c L :=
 ⟨h.zip,h.fits,h.most,h.shape,fun ad e i hi=>by
  obtain ⟨ai,ci,h1,h2⟩:=h.cell ad e i hi
  exact ⟨ai,ci,(zdq g).cell h1 (by simp),h2.below g⟩⟩
theorem Lst.take {w:World} {ao:Option Addr} {c:Nat} {L:List (List UInt8)} (h:Lst w ao c L) (n:Nat) (hn:n≤L.length):Lst w ao c (L.take n):=by
 refine ⟨(fun e => ?_),?_,h.most,(fun ad e hp=>h.shape ad e (by simp at hp;omega)),(fun ad e i hi => ?_)⟩
 ·have:=h.zip e
  exact ⟨by simp;omega,this.2⟩
 ·have:=h.fits;simp;omega
 ·have hi' : i<L.length:=by simp at hi;omega
  obtain ⟨ai,ci,h1,h2⟩:=h.cell ad e i hi'
  exact ⟨ai,ci,by simpa using h1,by simpa using h2⟩
theorem zli {L:List (List UInt8)} {k:Nat} (h:k<L.length):L.take (k+1)=L.take k++[L[k]]:=by
 rw[List.take_succ_eq_append_getElem h]
theorem zet {w:World} {ops:Array Oper} {rest:List Oper} {o:Oper} {a:Act} {Q:Exit→Act→World→Prop} (hgd:o.guard=none) (s x:Operand)
  (ho:o.op = .call { callee := .builtin .append,args := #[s,x],argTypes := #[53,53] })
  (base:Nat) (v:Value) (n:Nat) (xs:List Value) (hs:a.eval s=v) (hown:w.ownsRow base 5 1 v n xs)
  (ao:Option Addr) (c:Nat) (l:List UInt8) (hb:Bts w ao c l) (hx:a.eval x = .slice ao l.length c) (hn:n+l.length≤140737488355328) (hbase:base≤w.heap.size)
  (h:∀ v' w',w'.ownsRow base 5 1 v' (n+l.length) (xs++l.map bv)→w.grownBy w' v.ownBlock→wpList Tryz.prog ops Q rest (a.put o.dst v') w'):wpList Tryz.prog ops Q (o::rest) a w:=by
 obtain ⟨i0,hi,hz0,hz1,hz2⟩:=info_parts zb5
 cases ao with
 | none =>
   have hz:=hb.zip rfl
   have hx0:l=[]:=List.eq_nil_of_length_eq_zero hz.1
   have hc0:=hz.2
   subst hx0 hc0
   exact wpList_append_own_none hgd s x 53 ho base 5 i0 1 Tryz.underlying53 hi v n xs hs hown hx (h v w (by simpa using hown) (zac _ _))
 | some ad =>
   exact wpList_append_own w hgd s x 53 ho base 5 i0 (.int .u8 0) 1 1 Tryz.underlying53 hi hz0 hz1 hz2 rfl (by decide) v n xs hs hown ad l.length c (l.map bv) hx (by simp) (hb.news ad rfl) (zch l) (by unfold maxLen;omega) (by omega) hbase (fun v' w' q1 q2 _=>h v' w' q1 q2)
def RdAt (w:World) (rb:Nat) (v:Value) (e:Int):Prop:=w.heap[rb]? = some (.cells #[v,.int .i64 e] 159 (0,0))
theorem RdAt.c0 {w:World} {rb:Nat} {v:Value} {e:Int} (h:RdAt w rb v e):w.cell? ⟨rb,0,none⟩=some v:=by
 unfold RdAt at h;simp[World.cell?,h]
theorem RdAt.c1 {w:World} {rb:Nat} {v:Value} {e:Int} (h:RdAt w rb v e):w.cell? ⟨rb,1,none⟩=some (.int .i64 e):=by
 unfold RdAt at h;simp[World.cell?,h]
theorem RdAt.fz {w:World} {rb:Nat} {v:Value} {e:Int} (h:RdAt w rb v e) (o:Nat):w.frozen? ⟨rb,o,none⟩=false:=by
 unfold RdAt at h;simp[World.frozen?,h]
theorem RdAt.lt {w:World} {rb:Nat} {v:Value} {e:Int} (h:RdAt w rb v e):rb<w.heap.size:=(Array.getElem?_eq_some_iff.1 h).1
theorem RdAt.set0 {w:World} {rb:Nat} {v:Value} {e:Int} (h:RdAt w rb v e) (u:Value):RdAt (w.setCell ⟨rb,0,none⟩ u) rb u e:=by
 unfold RdAt at h ⊢;simp[World.setCell,Array.getElem?_modify,h]
theorem RdAt.set1 {w:World} {rb:Nat} {v:Value} {e:Int} (h:RdAt w rb v e) (k:Int):RdAt (w.setCell ⟨rb,1,none⟩ (.int .i64 k)) rb v k:=by
 unfold RdAt at h ⊢;simp[World.setCell,Array.getElem?_modify,h]
theorem RdAt.kept {w a:World} {rb:Nat} {v:Value} {e:Int} {r:Option Nat} (h:RdAt w rb v e) (g:w.grownBy a r) (hr:some rb≠r):RdAt a rb v e:=by
 unfold RdAt;rw[g.block rb h.lt hr];exact h
theorem RdAt.alloc {w:World} {rb:Nat} {v:Value} {e:Int} (h:RdAt w rb v e) (o:Obj):RdAt (w.alloc o) rb v e:=h.kept (World.grownBy_alloc w o none) (by simp)
def Rd (w:World) (rb:Nat) (l:List UInt8) (e:Int):Prop:=∃ ao c,RdAt w rb (.slice ao l.length c) e∧Bts w ao c l∧Inb w ao rb
theorem Rd.lt {w:World} {rb:Nat} {l:List UInt8} {e:Int} (h:Rd w rb l e):rb<w.heap.size:=by
 obtain ⟨ao,c,h1,_⟩:=h
 exact h1.lt
theorem Rd.keptTyp {w a:World} {rb:Nat} {l:List UInt8} {e:Int} {s:Option Nat} (h:Rd w rb l e) (g:w.grownBy a s) (hs:∀ x,s=some x→x≠rb∧¬ Typ w x):Rd a rb l e:=by
 obtain ⟨ao,c,h1,h2,h3⟩:=h
 refine ⟨ao,c,h1.kept g ?_,h2.kept g ?_,h3.kept g ?_⟩
 ·intro e;exact (hs rb e.symm).1 rfl
 ·intro x e;exact h3.off_typ (hs x e).2
 ·intro x e;exact h3.off_typ (hs x e).2
theorem Rd.kept {w a:World} {rb:Nat} {l:List UInt8} {e:Int} {s:Option Nat} (h:Rd w rb l e) (g:w.grownBy a s) (hs:s=none∨∃ x,s=some x∧w.heap.size≤x):Rd a rb l e:=by
 have hlt:=h.lt
 refine h.keptTyp g ?_
 rcases hs with rfl | ⟨x,rfl,hx⟩
 ·intro x e;cases e
 ·intro y e;cases e;exact ⟨by omega,zmr hx⟩
theorem Rd.failed {w:World} {rb:Nat} {v:Value} {e:Int} (h:RdAt w rb v e) (k:Int):Rd ((w.setCell ⟨rb,1,none⟩ (.int .i64 k)).setCell ⟨rb,0,none⟩ (.slice none 0 0)) rb [] k :=
 ⟨none,0,(h.set1 k).set0 _,Bts.nil _,fun _ e=>by cases e⟩
theorem zft (w:World) (rb:Nat) (k:Int):w.grownBy ((w.setCell ⟨rb,1,none⟩ (.int .i64 k)).setCell ⟨rb,0,none⟩ (.slice none 0 0)) (some rb) :=
 zam (zbs w rb 1 (.int .i64 k)) ⟨rb,0,none⟩ _ (Or.inr rfl)
theorem Rd.read {w:World} {rb:Nat} {ao:Option Addr} {c k:Nat} {l:List UInt8} {e:Int} (h1:RdAt w rb (.slice ao l.length c) e) (h2:Bts w ao c l) (h3:Inb w ao rb) (hk:k≤l.length) :
  Rd (w.setCell ⟨rb,0,none⟩ (.slice (cutA ao c k) (l.length - k) (c - k))) rb (l.drop k) e:=by
 have g:=zbs w rb 0 (.slice (cutA ao c k) (l.length - k) (c - k))
 refine ⟨cutA ao c k,c - k,?_,(h2.drop k hk).kept g ?_,(zo7 h3).kept g ?_⟩
 ·rw[List.length_drop];exact h1.set0 _
 ·intro x e;cases e;exact zd6 h3.off
 ·intro x e;cases e;exact zd6 h3.off
set_option maxHeartbeats 400000 in
theorem zfu (w:World) (ao:Option Addr) (c:Nat) (l:List UInt8) (room:Nat) (hb:Bts w ao c l) (hr:l.length+room≤70368744177664) :
  Calls Tryz.prog 98 #[.slice ao l.length c,.int .i64 room] w fun e w'=>e = .returned (.slice (some ⟨w.heap.size,0,none⟩) l.length (l.length+room)) ∧
   w'.ownsRow w.heap.size 5 1 (.slice (some ⟨w.heap.size,0,none⟩) l.length (l.length+room)) l.length (l.map bv)∧w.grownBy w' none:=by
 obtain ⟨i0,hi,hz0,hz1,hz2⟩:=info_parts zb5
 go_enter Tryz.func98,Tryz.ntmps98
 go_wp2_with (at_make;refine wpList_make_own _ rfl _ _ 53 rfl w.heap.size 5 i0 (.int .u8 0) 1 Tryz.underlying53 hi hz0 hz1 _ _ _ (l.length+room) rfl rfl ?c1 ?c2 ?c3 ?c4 ?_)
 case c1=>omega
 case c2=>rw[hz2];omega
 case c3=>unfold maxLen;omega
 case c4=>exact Nat.le_refl _
 intro w1 hown hgrow
 have hb1:Bts w1 ao c l:=hb.kept hgrow (fun _ e=>by cases e)
 go_wp2_with (at_builtin;refine wpList_append_fits_any _ rfl _ _ 53 rfl w.heap.size 5 i0 1 Tryz.underlying53 hi hz1 _ 0 _ _ rfl hown ao l.length c (l.map bv) rfl ?d1 hb1.zip hb1.news (zch l) ?d2 ?_)
 case d1=>simp
 case d2=>omega
 intro w2 hown2 hgrow2
 go_wp2
 go_ret
 exact ⟨by simp,hown2,zae hgrow hgrow2 (fun x e=>by cases e;exact Or.inl (Nat.le_refl _))⟩
end Go.Proofs.YtoilcpdhhlcidaaGreatDoor
