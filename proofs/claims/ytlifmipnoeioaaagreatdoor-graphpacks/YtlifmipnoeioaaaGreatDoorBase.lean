/- Lemmas. -/
import Derived.Test.YtlifmipnoeioaaaGreatDoorMem
import Derived.Laws.AppendOwnNone
namespace Go.Proofs.YtlifmipnoeioaaaGreatDoor
open Go.RowKit
theorem info_byte:(Tryz.prog.info? 5).map (fun i=>(i.zero,i.size,i.bytes))=some (some (.int .u8 0),1,1):=by kernel_rfl
def NewB (w w' : World) (v:Value) (x:List UInt8):Prop:=∃ ao c,v = .slice ao x.length c∧Bts w' ao c x∧∀ ad,ao=some ad→w.heap.size≤ad.block∧Typ w' ad.block
theorem NewB.nil (w w' : World):NewB w w' (.slice none 0 0) []:=⟨none,0,rfl,Bts.nil _,fun _ e=>by cases e⟩
theorem NewB.own {w w' : World} {v:Value} {x:List UInt8} (h:w'.ownsRow w.heap.size 5 1 v x.length (x.map bv)):NewB w w' v x:=by
 rcases h.2 with ⟨rfl,h2⟩ | ⟨g,cap,cur,rfl,hg,hh,_⟩
 ·have:=List.eq_nil_of_length_eq_zero h2
  subst this
  exact NewB.nil _ _
 ·obtain ⟨_,h3,h4⟩:=Bts.own h
  exact ⟨_,_,rfl,h4,fun ad e=>by cases e;exact ⟨h3,⟨cur,_,hh⟩⟩⟩
structure Lst (w:World) (ao:Option Addr) (c:Nat) (L:List (List UInt8)):Prop where
 zip:ao=none→L.length=0∧c=0
 fits:L.length≤c
 most:c≤maxLen
 shape:∀ ad,ao=some ad→0<L.length→ad.spot=none
 cell:∀ ad,ao=some ad→∀ i (h:i<L.length),∃ ai ci,w.cell? ⟨ad.block,ad.off+i,none⟩=some (.slice ai (L[i]).length ci)∧Bts w ai ci L[i]
theorem Lst.below {w a:World} {ao:Option Addr} {c:Nat} {L:List (List UInt8)} (h:Lst w ao c L) (g:Below w.heap.size w a):Lst a ao c L :=
 ⟨h.zip,h.fits,h.most,h.shape,fun ad e i hi=>by
  obtain ⟨ai,ci,h1,h2⟩:=h.cell ad e i hi
  exact ⟨ai,ci,(below_gb g).cell h1 (by simp),h2.below g⟩⟩
theorem Lst.take {w:World} {ao:Option Addr} {c:Nat} {L:List (List UInt8)} (h:Lst w ao c L) (n:Nat) (hn:n≤L.length):Lst w ao c (L.take n):=by
 refine ⟨(fun e => ?_),?_,h.most,(fun ad e hp=>h.shape ad e (by simp at hp;omega)),(fun ad e i hi => ?_)⟩
 ·have:=h.zip e
  exact ⟨by simp;omega,this.2⟩
 ·have:=h.fits;simp;omega
 ·have hi' : i<L.length:=by simp at hi;omega
  obtain ⟨ai,ci,h1,h2⟩:=h.cell ad e i hi'
  exact ⟨ai,ci,by simpa using h1,by simpa using h2⟩
theorem takeL_snoc {L:List (List UInt8)} {k:Nat} (h:k<L.length):L.take (k+1)=L.take k++[L[k]]:=by
 rw [List.take_succ_eq_append_getElem h]
theorem wpList_append_bts {w:World} {ops:Array Oper} {rest:List Oper} {o:Oper} {a:Act} {Q:Exit→Act→World→Prop} (hgd:o.guard=none) (s x:Operand)
  (ho:o.op = .call { callee := .builtin .append,args := #[s,x],argTypes := #[37,37] })
  (base:Nat) (v:Value) (n:Nat) (xs:List Value) (hs:a.eval s=v) (hown:w.ownsRow base 5 1 v n xs)
  (ao:Option Addr) (c:Nat) (l:List UInt8) (hb:Bts w ao c l) (hx:a.eval x = .slice ao l.length c) (hn:n+l.length≤140737488355328) (hbase:base≤w.heap.size)
  (h:∀ v' w',w'.ownsRow base 5 1 v' (n+l.length) (xs++l.map bv)→w.grownBy w' v.ownBlock→wpList Tryz.prog ops Q rest (a.put o.dst v') w'):wpList Tryz.prog ops Q (o::rest) a w:=by
 obtain ⟨i0,hi,hz0,hz1,hz2⟩:=info_parts info_byte
 cases ao with
 | none =>
  have hz:=hb.zip rfl
  have hx0:l=[]:=List.eq_nil_of_length_eq_zero hz.1
  have hc0:=hz.2
  subst hx0 hc0
  exact wpList_append_own_none hgd s x 37 ho base 5 i0 1 Tryz.underlying37 hi v n xs hs hown hx (h v w (by simpa using hown) (gb_refl _ _))
 | some ad =>
  exact wpList_append_own w hgd s x 37 ho base 5 i0 (.int .u8 0) 1 1 Tryz.underlying37 hi hz0 hz1 hz2 rfl (by decide) v n xs hs hown ad l.length c (l.map bv) hx (by simp) (hb.news ad rfl) (bv_one l) (by unfold maxLen;omega) (by omega) hbase (fun v' w' q1 q2 _=>h v' w' q1 q2)
end Go.Proofs.YtlifmipnoeioaaaGreatDoor

/- Lemmas. -/
namespace Go.Proofs.YtlifmipnoeioaaaGreatDoor
open Go.RowKit
def RdAt (w:World) (rb:Nat) (v:Value) (e:Int):Prop:=w.heap[rb]? = some (.cells #[v,.int .i64 e] 200 (0,0))
theorem RdAt.c0 {w:World} {rb:Nat} {v:Value} {e:Int} (h:RdAt w rb v e):w.cell? ⟨rb,0,none⟩=some v:=by
 unfold RdAt at h;simp [World.cell?,h]
theorem RdAt.c1 {w:World} {rb:Nat} {v:Value} {e:Int} (h:RdAt w rb v e):w.cell? ⟨rb,1,none⟩=some (.int .i64 e):=by
 unfold RdAt at h;simp [World.cell?,h]
theorem RdAt.fz {w:World} {rb:Nat} {v:Value} {e:Int} (h:RdAt w rb v e) (o:Nat):w.frozen? ⟨rb,o,none⟩=false:=by
 unfold RdAt at h;simp [World.frozen?,h]
theorem RdAt.lt {w:World} {rb:Nat} {v:Value} {e:Int} (h:RdAt w rb v e):rb<w.heap.size:=(Array.getElem?_eq_some_iff.1 h).1
theorem RdAt.set0 {w:World} {rb:Nat} {v:Value} {e:Int} (h:RdAt w rb v e) (u:Value):RdAt (w.setCell ⟨rb,0,none⟩ u) rb u e:=by
 unfold RdAt at h ⊢;simp [World.setCell,Array.getElem?_modify,h]
theorem RdAt.set1 {w:World} {rb:Nat} {v:Value} {e:Int} (h:RdAt w rb v e) (k:Int):RdAt (w.setCell ⟨rb,1,none⟩ (.int .i64 k)) rb v k:=by
 unfold RdAt at h ⊢;simp [World.setCell,Array.getElem?_modify,h]
theorem RdAt.kept {w a:World} {rb:Nat} {v:Value} {e:Int} {r:Option Nat} (h:RdAt w rb v e) (g:w.grownBy a r) (hr:some rb≠r):RdAt a rb v e:=by
 unfold RdAt;rw [g.block rb h.lt hr];exact h
theorem RdAt.alloc {w:World} {rb:Nat} {v:Value} {e:Int} (h:RdAt w rb v e) (o:Obj):RdAt (w.alloc o) rb v e:=h.kept (World.grownBy_alloc w o none) (by simp)
def Rd (w:World) (rb:Nat) (l:List UInt8) (e:Int):Prop:=∃ ao c,RdAt w rb (.slice ao l.length c) e∧Bts w ao c l∧Inb w ao rb
theorem Rd.lt {w:World} {rb:Nat} {l:List UInt8} {e:Int} (h:Rd w rb l e):rb<w.heap.size:=by
 obtain ⟨ao,c,h1,_⟩:=h
 exact h1.lt
theorem Rd.keptTyp {w a:World} {rb:Nat} {l:List UInt8} {e:Int} {s:Option Nat} (h:Rd w rb l e) (g:w.grownBy a s) (hs:∀ x,s=some x→x≠rb∧¬ Typ w x):Rd a rb l e:=by
 obtain ⟨ao,c,h1,h2,h3⟩:=h
 refine ⟨ao,c,h1.kept g ?_,h2.kept g ?_,h3.kept g ?_⟩
 ·intro e;exact (hs rb e.symm).1 rfl
 ·intro x e;exact h3.off_typ (hs x e).2
 ·intro x e;exact h3.off_typ (hs x e).2
theorem Rd.kept {w a:World} {rb:Nat} {l:List UInt8} {e:Int} {s:Option Nat} (h:Rd w rb l e) (g:w.grownBy a s) (hs:s=none∨∃ x,s=some x∧w.heap.size≤x):Rd a rb l e:=by
 have hlt:=h.lt
 refine h.keptTyp g ?_
 rcases hs with rfl | ⟨x,rfl,hx⟩
 ·intro x e;cases e
 ·intro y e;cases e;exact ⟨by omega,typ_new hx⟩
theorem Rd.failed {w:World} {rb:Nat} {v:Value} {e:Int} (h:RdAt w rb v e) (k:Int):Rd ((w.setCell ⟨rb,1,none⟩ (.int .i64 k)).setCell ⟨rb,0,none⟩ (.slice none 0 0)) rb [] k :=
 ⟨none,0,(h.set1 k).set0 _,Bts.nil _,fun _ e=>by cases e⟩
theorem gb_failed (w:World) (rb:Nat) (k:Int):w.grownBy ((w.setCell ⟨rb,1,none⟩ (.int .i64 k)).setCell ⟨rb,0,none⟩ (.slice none 0 0)) (some rb) :=
 gb_setCell (gb_set w rb 1 (.int .i64 k)) ⟨rb,0,none⟩ _ (Or.inr rfl)
theorem Rd.read {w:World} {rb:Nat} {ao:Option Addr} {c k:Nat} {l:List UInt8} {e:Int} (h1:RdAt w rb (.slice ao l.length c) e) (h2:Bts w ao c l) (h3:Inb w ao rb) (hk:k≤l.length) :
  Rd (w.setCell ⟨rb,0,none⟩ (.slice (cutA ao c k) (l.length - k) (c - k))) rb (l.drop k) e:=by
 have g:=gb_set w rb 0 (.slice (cutA ao c k) (l.length - k) (c - k))
 refine ⟨cutA ao c k,c - k,?_,(h2.drop k hk).kept g ?_,(cutA_inb h3).kept g ?_⟩
 ·rw [List.length_drop];exact h1.set0 _
 ·intro x e;cases e;exact cutA_off h3.off
 ·intro x e;cases e;exact cutA_off h3.off
end Go.Proofs.YtlifmipnoeioaaaGreatDoor
