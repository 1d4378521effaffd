/- Lemmas. -/
import Derived.Test.YtegbbkgmiklhcaaGreatDoorDFrs
import Derived.Deep.MidRow
import Derived.Deep.RegionHeld3
import Derived.Laws.BitsAllLaws
import Derived.Deep.AppendLies
import Derived.Laws.AppendOwnNone
import Derived.Deep.DrawnRows
namespace Go.Proofs.YtegbbkgmiklhcaaGreatDoor
open Go.RowKit
theorem zdv {P:Program} (t e:TypeId) (n:Nat) (cs:List Value) (i:Nat) (v:Value) (hu:P.underlying t=some (.array n e)) (hz:∀ w,(Go.sizeOf e).run P w = .ok 1 w) (ha:∀ w,(isAgg e).run P w = .ok false w)
  (hi:i<n) (hv:cs[i]? = some v) (w:World):(Instr.index t (.agg cs.toArray) (.int .i64 (i:Int))).run P w = .ok v w:=by
 simp only[Instr.index,asIntOf,Sem.run_bind,Sem.run_pure,Result.andThen_ok,run_underlying hu]
 rw[if_pos (by omega)]
 simp[part,hz,ha,hv]
def Blk (w:World) (b:Nat) (t:TypeId) (cs:List Value):Prop:=w.heap[b]? = some (.cells cs.toArray t (0,0))
theorem Blk.lt {w:World} {b:Nat} {t:TypeId} {cs:List Value} (h:Blk w b t cs):b<w.heap.size:=(Array.getElem?_eq_some_iff.1 h).1
theorem Blk.cell {w:World} {b:Nat} {t:TypeId} {cs:List Value} (h:Blk w b t cs) (j:Nat):w.cell? ⟨b,j,none⟩=cs[j]? := by
 rw[cell_of_row w b j _ t _ h];simp
theorem Blk.fz {w:World} {b:Nat} {t:TypeId} {cs:List Value} (h:Blk w b t cs) (o:Nat):w.frozen? ⟨b,o,none⟩=false:=by
 unfold Blk at h;simp[World.frozen?,h]
theorem Blk.kept {w a:World} {b:Nat} {t:TypeId} {cs:List Value} {r:Option Nat} (h:Blk w b t cs) (g:w.grownBy a r) (hr:some b≠r):Blk a b t cs:=by
 unfold Blk;rw[g.block b h.lt hr];exact h
theorem Blk.alloc {w:World} {b:Nat} {t:TypeId} {cs:List Value} (h:Blk w b t cs) (o:Obj):Blk (w.alloc o) b t cs:=h.kept (World.grownBy_alloc w o none) (by simp)
theorem Blk.new (w:World) (t:TypeId) (cs:List Value):Blk (w.alloc (.cells cs.toArray t)) w.heap.size t cs:=heap_alloc_new w _
theorem Blk.set {w:World} {b:Nat} {t:TypeId} {cs:List Value} (h:Blk w b t cs) (j:Nat) (v:Value):Blk (w.setCell ⟨b,j,none⟩ v) b t (cs.set j v):=by
 unfold Blk at h ⊢
 simp[World.setCell,Array.getElem?_modify,h]
theorem Blk.other {w:World} {b:Nat} {t:TypeId} {cs:List Value} (h:Blk w b t cs) (p:Addr) (v:Value) (hp:p.block≠b):Blk (w.setCell p v) b t cs:=by
 unfold Blk at h ⊢
 rw[heap_setCell_other w p b v (fun e=>hp e.symm)];exact h
theorem Blk.there {w:World} {b:Nat} {t:TypeId} {cs:List Value} (h:Blk w b t cs) (o n:Nat) (hn:o+n≤cs.length):∀ j,j<n→(w.cell? ⟨b,o+j,none⟩).isSome=true∧w.frozen? ⟨b,o+j,none⟩=false:=by
 intro j hj
 refine ⟨?_,h.fz _⟩
 rw[h.cell,List.getElem?_eq_getElem (by omega)];rfl
theorem zad {w a:World} {b o:Nat} {cs:List Value} {r:Option Nat} (h:w.rangeAt b o cs) (g:w.grownBy a r) (hr:some b≠r):a.rangeAt b o cs :=
 fun j v hv=>g.cell (h j v hv) hr
theorem zc2 {P:Program} (t e:TypeId) (n:Nat) (ht:P.underlying t=some (.array n e)) (hz:∀ w,(Go.sizeOf e).run P w = .ok 1 w) (b o lo hi:Nat) (zl zh:Int) (hl:zl=(lo:Int)) (hh:zh=(hi:Int)) (h1:lo≤hi) (h2:hi≤n) (h3:lo<n) (W:World) :
  (Instr.sliceAt t (.pointer (some ⟨b,o,none⟩)) (some (.int .i64 zl)) (some (.int .i64 zh)) none).run P W = .ok (.slice (some ⟨b,o+lo,none⟩) (hi - lo) (n - lo)) W:=by
 subst hl hh
 have ea:P.arrayLen t=n:=by simp[Program.arrayLen,ht]
 have ee:P.elem t=e:=by simp[Program.elem,ht]
 rw[run_sliceAt_array_lh W t ⟨b,o,none⟩ (by rw[ea,ee];exact ht) .i64 .i64 _ _ (by omega) (by omega) (by omega),ea,ee,hz]
 simp only[Result.andThen_ok,slicedAt,Int.toNat_natCast,Nat.mul_one]
 rw[if_neg (by omega),Addr.add_mid]
theorem zf0 {P:Program} (t e:TypeId) (n:Nat) (ht:P.underlying t=some (.array n e)) (hz:∀ w,(Go.sizeOf e).run P w = .ok 1 w) (b o lo:Nat) (zl:Int) (hl:zl=(lo:Int)) (h3:lo<n) (W:World) :
  (Instr.sliceAt t (.pointer (some ⟨b,o,none⟩)) (some (.int .i64 zl)) none none).run P W = .ok (.slice (some ⟨b,o+lo,none⟩) (n - lo) (n - lo)) W:=by
 subst hl
 have ea:P.arrayLen t=n:=by simp[Program.arrayLen,ht]
 have ee:P.elem t=e:=by simp[Program.elem,ht]
 rw[run_sliceAt_array_l W t ⟨b,o,none⟩ (by rw[ea,ee];exact ht) .i64 _ (by omega) (by omega),ea,ee,hz]
 simp only[Result.andThen_ok,slicedAt,Int.toNat_natCast,Nat.mul_one]
 rw[if_neg (by omega),Addr.add_mid]
theorem Blk.drew {w:World} {b:Nat} {t:TypeId} {cs:List Value} (h:Blk w b t cs):Blk w.drew b t cs:=h
theorem zas {w a:World} {r:Option Nat} (h:w.grownBy a r):w.grownBy a.drew r:=⟨h.os,h.tape,h.output,h.size,h.block⟩
theorem Blk.row {w:World} {b:Nat} {t:TypeId} {cs:List Value} (h:Blk w b t cs) (cs' : List Value):Blk (w.setRow b cs'.toArray) b t cs':=by
 unfold Blk at h ⊢
 simp[World.setRow,Array.getElem?_modify,h]
theorem Blk.row_other {w:World} {b:Nat} {t:TypeId} {cs:List Value} (h:Blk w b t cs) (g:Nat) (cs' : Array Value) (hp:g≠b):Blk (w.setRow g cs') b t cs:=by
 unfold Blk at h ⊢
 simp[World.setRow,Array.getElem?_modify,h,hp]
theorem zaq {w a:World} {r:Option Nat} (h:w.grownBy a r) (cs:Array Value) {g:Nat} (hp:w.heap.size≤g∨r=some g):w.grownBy (a.setRow g cs) r :=
 zac h (s:=some g) ⟨rfl,rfl,rfl,by simp,fun k _ hne=>by
  have:g≠k:=fun e=>hne (by rw[e])
  simp[World.setRow,Array.getElem?_modify,this]⟩ (fun x e=>by cases e;exact hp)
theorem zi8 {w a:World} {r:Option Nat} (h:w.grownBy a r) (n:Nat):w.grownBy (a.drewN n) r:=⟨h.os,h.tape,h.output,h.size,h.block⟩
theorem Blk.setCells {b:Nat} {t:TypeId} : ∀ (vs old:List Value) {w:World} {A C:List Value},Blk w b t (A++(old++C))→old.length=vs.length→Blk (w.setCells b A.length vs) b t (A++(vs++C))
 | [],old,w,A,C,h,hl=>by
  have:old=[]:=List.length_eq_zero_iff.1 (by simpa using hl)
  subst this
  exact h
 | v::r,[],w,A,C,h,hl=>by simp at hl
 | v::r,o::old,w,A,C,h,hl=>by
  have h1:=h.set A.length v
  rw[List.set_append_right _ _ (Nat.le_refl _),Nat.sub_self,List.cons_append,List.set_cons_zero] at h1
  have h2:=Blk.setCells r old (w:=w.setCell ⟨b,A.length,none⟩ v) (A:=A++[v]) (C:=C) (by simpa using h1) (by simpa using hl)
  simpa[World.setCells] using h2
theorem Blk.setCells_other {b b' : Nat} {t:TypeId} {cs:List Value} (hne:b'≠b):∀ (vs:List Value) (o:Nat) {w:World},Blk w b t cs→Blk (w.setCells b' o vs) b t cs
 | [],_,_,h=>h
 | v::r,o,_,h=>Blk.setCells_other hne r (o+1) (h.other ⟨b',o,none⟩ v hne)
theorem za0 {w:World} {r:Option Nat} {b:Nat} (hp:w.heap.size≤b∨r=some b):∀ (vs:List Value) (o:Nat) {a:World},w.grownBy a r→w.grownBy (a.setCells b o vs) r
 | [],_,_,h=>h
 | v::vs,o,_,h=>za0 hp vs (o+1) (zae h ⟨b,o,none⟩ v hp)
theorem zdw (b:Nat) (v:Value):∀ (vs:List Value) (o:Nat) (w:World),(w.setCells b o vs).setCell ⟨b,o+vs.length,none⟩ v=w.setCells b o (vs++[v])
 | [],_,_=>rfl
 | x::r,o,w=>by
  have:=zdw b v r (o+1) (w.setCell ⟨b,o,none⟩ x)
  simp only[List.cons_append,World.setCells,List.length_cons]
  rw[← this]
  congr 2
  omega
theorem Blk.range {w:World} {b:Nat} {t:TypeId} {A vs C:List Value} (h:Blk w b t (A++(vs++C))):w.rangeAt b A.length vs:=by
 intro j v hv
 have hj:j<vs.length:=(List.getElem?_eq_some_iff.1 hv).1
 rw[h.cell,List.getElem?_append_right (by omega),Nat.add_sub_cancel_left,List.getElem?_append_left hj,hv]
theorem Blk.thereIn {w:World} {b:Nat} {t:TypeId} {A vs C:List Value} (h:Blk w b t (A++(vs++C))):w.there b A.length vs.length :=
 fun j hj=>⟨h.range.isSome j hj,h.fz _⟩
theorem zgi {α:Type} (f:α→List Value) (k:Nat) (L:List α) (h:∀ x∈L,(f x).length=k) (i j:Nat) (hi:i<L.length) (hj:j<k):(L.flatMap f)[i*k+j]? = (f L[i])[j]? := by
 induction L generalizing i with
 | nil=>simp at hi
 | cons x L ih =>
  have hx:=h x (by simp)
  rw[List.flatMap_cons]
  cases i with
  | zero=>rw[Nat.zero_mul,Nat.zero_add,List.getElem?_append_left (by omega)];rfl
  | succ i =>
   rw[List.getElem?_append_right (by rw[hx,Nat.succ_mul];omega),hx,show (i+1)*k+j - k=i*k+j by rw[Nat.succ_mul];omega]
   exact ih (fun y hy=>h y (List.mem_cons_of_mem _ hy)) i (by simpa using hi)
theorem zcm {α:Type} (f:α→List Value) (k:Nat) (L:List α) (h:∀ x∈L,(f x).length=k):(L.flatMap f).length=L.length*k:=by
 induction L with
 | nil=>simp
 | cons x L ih =>
  have hx:=h x (by simp)
  rw[List.flatMap_cons,List.length_append,hx,ih (fun y hy=>h y (List.mem_cons_of_mem _ hy)),List.length_cons,Nat.succ_mul]
  omega
theorem zde {α:Type} (f:α→List Value) (k:Nat) {w:World} {base:Nat} {t:TypeId} {v:Value} {L:List α} (h:w.ownsRow base t k v L.length (L.flatMap f)) (hf:∀ x∈L,(f x).length=k) :
  ∃ ao c,v = .slice ao L.length c∧(ao=none→L.length=0∧c=0)∧L.length≤c∧c≤maxLen∧(∀ ad,ao=some ad→ad.spot=none∧base≤ad.block)∧∀ ad,ao=some ad→∀ i (h:i<L.length),w.rangeAt ad.block (ad.off+i*k) (f L[i]):=by
 rcases h.2 with ⟨rfl,h2⟩ | ⟨g,cap,cur,rfl,hg,hh,h3,h4,h5,h6⟩
 ·have:=List.eq_nil_of_length_eq_zero h2
  subst this
  exact ⟨none,0,rfl,fun _=>⟨rfl,rfl⟩,Nat.le_refl _,Nat.zero_le _,(fun _ e=>by cases e),fun _ e=>by cases e⟩
 ·refine ⟨_,_,rfl,(fun e=>by cases e),h3,h4,(fun ad e=>by cases e;exact ⟨rfl,hg⟩),fun ad e i hi j v hv => ?_⟩
  cases e
  have hj:j<k:=by rw[← hf L[i] (List.getElem_mem _)];exact (List.getElem?_eq_some_iff.1 hv).1
  have h7:(cur.toList.take (L.length*k))[i*k+j]? = (L.flatMap f)[i*k+j]? := by rw[h6]
  have h8:(i+1)*k≤L.length*k:=Nat.mul_le_mul_right k hi
  rw[Nat.succ_mul] at h8
  rw[List.getElem?_take_of_lt (by omega),zgi f k L hf i j hi hj,hv] at h7
  simp only[World.cell?,hh,Nat.zero_add]
  simpa using h7
theorem Blk.typ {w:World} {b:Nat} {t:TypeId} {cs:List Value} (h:Blk w b t cs) (ht:t≠5):¬ Typ w b:=by
 rintro ⟨cur,m,h2⟩
 unfold Blk at h
 rw[h] at h2
 injection h2 with h3
 injection h3 with _ h4
 exact ht h4
theorem zbw {w:World} {ops:Array Oper} {rest:List Oper} {o:Oper} {a:Act} {Q:Exit→Act→World→Prop} (hgd:o.guard=none) (s x:Operand)
  (ho:o.op = .call { callee := .builtin .append,args := #[s,x],argTypes := #[24,24] })
  (base:Nat) (v:Value) (n:Nat) (xs:List Value) (hs:a.eval s=v) (hown:w.ownsRow base 5 1 v n xs)
  (ao:Option Addr) (c:Nat) (l:List UInt8) (hb:Bts w ao c l) (m:Nat) (hm:m=l.length) (hx:a.eval x = .slice ao m c) (hn:n+m≤140737488355328) (hbase:base≤w.heap.size)
  (h:∀ v' w',w'.ownsRow base 5 1 v' (n+m) (xs++l.map bv)→w.grownBy w' v.ownBlock→wpList Tryz.prog ops Q rest (a.put o.dst v') w'):wpList Tryz.prog ops Q (o::rest) a w:=by
 subst hm
 exact zbv hgd s x ho base v n xs hs hown ao c l hb hx hn hbase h
theorem zpc (V:World) (base:Nat) (h:base≤V.heap.size):∃ Wb,Wb=V.alloc (.cells #[] 5)∧Wb.ownsRow base 5 1 (.slice (some ⟨V.heap.size,0,none⟩) 0 0) 0 []∧V.grownBy Wb none :=
 ⟨_,rfl,World.ownsRow_made V #[] 0 h (by unfold maxLen;omega) rfl,zai (zab _ _) _⟩
theorem zlh {V:World} {base n:Nat} {v:Value} {xs cs:List Value} {p:Nat} {t:TypeId} (h:V.ownsRow base 5 1 v n xs) (hB:Blk V p t cs) (ht:t≠5):some p≠v.ownBlock:=by
 rcases h.2 with ⟨rfl,_⟩ | ⟨g,cap,cur,rfl,hg,hh,_⟩
 ·intro e;cases e
 ·intro e
  have e2:p=g:=by simpa[Value.ownBlock] using e
  subst e2
  exact hB.typ ht ⟨cur,_,hh⟩
theorem zdf {V V' : World} {base n:Nat} {v:Value} {xs:List Value} (h:V.ownsRow base 5 1 v n xs) (g:V.grownBy V' none):V'.ownsRow base 5 1 v n xs :=
 h.kept g (by
  by_cases e:v.ownBlock=none
  ·exact Or.inl e
  ·exact Or.inr e)
theorem zgj {u V V' : World} {n:Nat} {v:Value} {xs:List Value} (g:u.grownBy V none) (h:V.ownsRow u.heap.size 5 1 v n xs) (q:V.grownBy V' v.ownBlock):u.grownBy V' none :=
 zac g q (fun x e=>Or.inl (h.lt x e).1)
theorem zb5 {w:World} {b1 b2 k n:Nat} {t:TypeId} {v:Value} {xs:List Value} (h:w.ownsRow b1 t k v n xs) (hb:b2≤b1):w.ownsRow b2 t k v n xs:=by
 refine ⟨h.1,?_⟩
 rcases h.2 with h1 | ⟨g,cap,cur,h1,h2,h3⟩
 ·exact Or.inl h1
 ·exact Or.inr ⟨g,cap,cur,h1,Nat.le_trans hb h2,h3⟩
theorem zcf {w:World} {base n:Nat} {v:Value} {l:List UInt8} (h:w.ownsRow base 5 1 v n (l.map bv)):n=l.length∧∃ ao c,v = .slice ao n c∧Bts w ao c l∧∀ ad,ao=some ad→base≤ad.block∧Typ w ad.block:=by
 have hn:n=l.length:=by have:=h.1;simpa using this.symm
 refine ⟨hn,?_⟩
 rcases h.2 with ⟨rfl,h2⟩ | ⟨g,cap,cur,rfl,hg,hh,_⟩
 ·have:l=[]:=List.eq_nil_of_length_eq_zero (by omega)
  subst this
  exact ⟨none,0,by rw[hn];rfl,Bts.nil _,fun _ e=>by cases e⟩
 ·obtain ⟨_,h3,h4⟩:=Bts.own h
  exact ⟨_,_,rfl,h4,fun ad e=>by cases e;exact ⟨h3,⟨cur,_,hh⟩⟩⟩
theorem zqf (b o n c:Nat) (W:World):(binOp .eql 24 (.slice (some ⟨b,o,none⟩) n c) (.slice none 0 0)).run Tryz.prog W = .ok (.bool false) W:=by kernel_rfl
set_option maxRecDepth 100000 in
theorem zf5 (w:World) (b o c:Nat) (l:List UInt8) (hb:Bts w (some ⟨b,o,none⟩) c l) (hl:l.length≤1000000) :
  Calls Tryz.prog 146 #[.slice (some ⟨b,o,none⟩) l.length c] w fun e w'=>∃ v,e = .returned v∧w'.ownsRow w.heap.size 5 1 v l.length (l.map bv)∧w.grownBy w' none:=by
 obtain ⟨W1,hW1,ho1,g1⟩:=zpc w w.heap.size (Nat.le_refl _)
 have hb1:=hb.kept g1 (fun _ e=>by cases e)
 obtain ⟨n,hn⟩:∃ n,n=l.length:=⟨_,rfl⟩
 have hne:=zqf b o n c
 obtain ⟨HN,HW1⟩:=zh2 hn hW1
 rw[← hn] at hl ⊢
 clear hn hW1 hb
 go_enter Tryz.func146,Tryz.ntmps146
 go_wp2_with (rw[← uh HW1];refine zbw rfl _ _ rfl w.heap.size _ _ _ rfl ho1 _ _ l hb1 n (uh HN) rfl (by omega) g1.size ?_;intro v5 w5 ho5 g5;have G5:=hide (zgj g1 ho1 g5);have HO5:=hide ho5;clear g5 ho5 ho1 hb1)
 go_ret
 exact ⟨_,rfl,by simpa using uh HO5,uh G5⟩
structure ObP where
 k:Int
 d:List UInt8
 ao:Option Addr
 c:Nat
deriving Inhabited
def obP (r:ObP):List Value:=[.int .i64 r.k,.slice r.ao r.d.length r.c]
theorem zli (r:ObP):∀ u∈obP r,u.oneCell'=true:=by
 intro u hu
 simp only[obP,List.mem_cons,List.not_mem_nil,or_false] at hu
 rcases hu with rfl | rfl <;> rfl
def ObP.o (r:ObP):Int × List UInt8:=(r.k,r.d)
structure Obsl (w:World) (ao:Option Addr) (c:Nat) (L:List ObP):Prop where
 zip:ao=none→L.length=0∧c=0
 fits:L.length≤c
 most:c≤maxLen
 shape:∀ ad,ao=some ad→0<L.length→ad.spot=none
 row:∀ ad,ao=some ad→∀ i (h:i<L.length),w.rangeAt ad.block (ad.off+i*2) (obP L[i])
 bts:∀ r∈L,Bts w r.ao r.c r.d
theorem Obsl.kept {w a:World} {ao:Option Addr} {c:Nat} {L:List ObP} (h:Obsl w ao c L) (g:w.grownBy a none):Obsl a ao c L :=
 ⟨h.zip,h.fits,h.most,h.shape,fun ad e i hi=>zad (h.row ad e i hi) g (by simp),fun r hr=>(h.bts r hr).kept g (fun _ e=>by cases e)⟩
theorem Obsl.at {w:World} {ao:Option Addr} {c:Nat} {L:List ObP} (h:Obsl w ao c L) (i:Nat) (hi:i<L.length):∃ b o,ao=some ⟨b,o,none⟩∧w.rangeAt b (o+i*2) (obP L[i])∧Bts w L[i].ao L[i].c L[i].d:=by
 have h1:=h.bts _ (List.getElem_mem hi)
 cases ao with
 | none=>have:=(h.zip rfl).1;omega
 | some ad =>
  have hs:=h.shape ad rfl (by omega)
  have hc:=h.row ad rfl i hi
  obtain ⟨b,o,s⟩:=ad
  simp only at hs hc
  subst hs
  exact ⟨b,o,rfl,hc,h1⟩
structure Rws {α:Type} (w:World) (K:Nat) (f:α→List Value) (ao:Option Addr) (c:Nat) (L:List α):Prop where
 zip:ao=none→L.length=0∧c=0
 fits:L.length≤c
 most:c≤maxLen
 spot:∀ ad,ao=some ad→ad.spot=none
 row:∀ ad,ao=some ad→∀ i (h:i<L.length),w.rangeAt ad.block (ad.off+i*K) (f L[i])
theorem Rws.kept {α:Type} {w a:World} {K:Nat} {f:α→List Value} {ao:Option Addr} {c:Nat} {L:List α} (h:Rws w K f ao c L) (g:w.grownBy a none):Rws a K f ao c L :=
 ⟨h.zip,h.fits,h.most,h.spot,fun ad e i hi=>zad (h.row ad e i hi) g (by simp)⟩
theorem Rws.own {α:Type} (f:α→List Value) {w:World} {K base:Nat} {t:TypeId} {v:Value} {L:List α} (h:w.ownsRow base t K v L.length (L.flatMap f)) (hf:∀ x∈L,(f x).length=K):∃ ao c,v = .slice ao L.length c∧Rws w K f ao c L∧∀ ad,ao=some ad→base≤ad.block:=by
 obtain ⟨ao,c,h1,h2,h3,h4,h5,h6⟩:=zde f K h hf
 exact ⟨ao,c,h1,⟨h2,h3,h4,fun ad e=>(h5 ad e).1,h6⟩,fun ad e=>(h5 ad e).2⟩
theorem Rws.at {α:Type} {w:World} {K:Nat} {f:α→List Value} {ao:Option Addr} {c:Nat} {L:List α} (h:Rws w K f ao c L) (i:Nat) (hi:i<L.length):∃ b o,ao=some ⟨b,o,none⟩∧w.rangeAt b (o+i*K) (f L[i]):=by
 cases ao with
 | none=>have:=(h.zip rfl).1;omega
 | some ad =>
  have hs:=h.spot ad rfl
  have hc:=h.row ad rfl i hi
  obtain ⟨b,o,s⟩:=ad
  simp only at hs hc
  subst hs
  exact ⟨b,o,rfl,hc⟩
theorem Rws.take {α:Type} {w:World} {K:Nat} {f:α→List Value} {ao:Option Addr} {c:Nat} {L:List α} (h:Rws w K f ao c L) (n:Nat):Rws w K f ao c (L.take n):=by
 refine ⟨(fun e => ?_),?_,h.most,h.spot,(fun ad e i hi => ?_)⟩
 ·have:=h.zip e
  exact ⟨by rw[List.length_take];omega,this.2⟩
 ·have:=h.fits;rw[List.length_take];omega
 ·have hi' : i<L.length:=by simp at hi;omega
  have:=h.row ad e i hi'
  simpa using this
def cutK (ao:Option Addr) (c n K:Nat):Option Addr:=if c=n then ao else ao.map (·.add (n*K))
theorem Rws.drop {α:Type} {w:World} {K:Nat} {f:α→List Value} {ao:Option Addr} {c:Nat} {L:List α} (h:Rws w K f ao c L) (n:Nat) (hn:n≤L.length):Rws w K f (cutK ao c n K) (c - n) (L.drop n):=by
 have hf:=h.fits
 have hm:=h.most
 unfold cutK
 split
 ·rename_i hc
  have hl:L.drop n=[]:=List.drop_of_length_le (by omega)
  rw[hl,hc]
  exact ⟨fun _=>⟨rfl,by omega⟩,Nat.zero_le _,by omega,h.spot,fun ad e i hi=>by simp at hi⟩
 ·cases ao with
  | none=>have:=h.zip rfl;omega
  | some ad =>
   have hs:=h.spot ad rfl
   have hr:=h.row ad rfl
   obtain ⟨b,o,s⟩:=ad
   simp only at hs hr
   subst hs
   rw[Option.map_some,Addr.add_lit]
   refine ⟨(fun e=>by cases e),by simp;omega,by omega,(fun ad e=>by cases e;rfl),fun ad e i hi => ?_⟩
   cases e
   have hi' : n+i<L.length:=by simp at hi;omega
   have:=hr (n+i) hi'
   rw[List.getElem_drop]
   rw[Nat.add_mul,← Nat.add_assoc] at this
   exact this
theorem zhb {α:Type} (f:α→List Value) (hf:∀ x,∀ u∈f x,u.oneCell'=true) (L:List α):∀ u∈L.flatMap f,u.oneCell'=true:=by
 intro u hu
 obtain ⟨x,_,h⟩:=List.mem_flatMap.1 hu
 exact hf x u h
theorem zgk {α:Type} {w:World} {o:Oper} {a:Act} {K9:Act→World→Prop} {Q:Exit→Act→World→Prop} (s x:Operand) (t e:TypeId)
  (ho:o.op = .call { callee := .builtin .append,args := #[s,x],argTypes := #[t,t] })
  (i0:TypeInfo) (z:Value) (K bytes:Nat) (ht:Tryz.prog.underlying t=some (.slice e)) (hi:Tryz.prog.info? e=some i0) (hz:i0.zero=some z) (hz1:i0.size=K) (hz2:i0.bytes=bytes) (hzs:z.cells.size=K) (hK:0<K)
  (f:α→List Value) (hf1:∀ x,∀ u∈f x,u.oneCell'=true)
  (base:Nat) (v:Value) (L M:List α) (hfM:∀ x∈M,(f x).length=K) (hs:a.eval s=v) (hown:w.ownsRow base e K v L.length (L.flatMap f)) (xo:Option Addr) (m c:Nat) (hx:a.eval x = .slice xo m c) (hm:m=M.length) (hM:Rws w K f xo c M)
  (hn:(L.length+M.length)*bytes≤140737488355328) (hn2:L.length+M.length≤140737488355328) (hbase:base≤w.heap.size)
  (h:∀ v' w',w'.ownsRow base e K v' (L++M).length ((L++M).flatMap f)→w.grownBy w' v.ownBlock→K9 (a.put o.dst v') w'):o.wp Tryz.prog a w K9 Q:=by
 subst hm
 cases xo with
 | none =>
  obtain ⟨h1,h2⟩:=hM.zip rfl
  have h0:M=[]:=List.eq_nil_of_length_eq_zero h1
  subst h0
  subst h2
  have hrun:=run_append_owned_none (P:=Tryz.prog) (w:=w) base t o.type e i0 K ht hi v L.length (L.flatMap f) hown
  have hfin:=h v w (by simpa using hown) (zab _ _)
  unfold Oper.wp
  simp[execOp,ho,resolve,invoke,builtin,hs,hx,hrun,Result.andThen]
  exact hfin
 | some ad =>
  have hsp:=hM.spot ad rfl
  have hr:=hM.row ad rfl
  obtain ⟨b,p,sp⟩:=ad
  simp only at hsp hr
  subst hsp
  refine wp_append_own w s x t ho base e i0 z K bytes ht hi hz hz1 hz2 hzs hK v L.length (L.flatMap f) hs hown ⟨b,p,none⟩ M.length c (M.flatMap f) hx (zcm f K M hfM) ?_ (zhb f hf1 M) (by unfold maxLen;omega) hn hbase (fun v' w' q1 q2 _=>h v' w' (by simpa using q1) q2)
  intro j u hu
  have hjl:j<M.length*K:=by
   have:=(List.getElem?_eq_some_iff.1 hu).1
   rwa [zcm f K M hfM] at this
  have hq:j / K<M.length:=Nat.div_lt_of_lt_mul (by rwa [Nat.mul_comm] at hjl)
  have hmod:=Nat.mod_lt j hK
  have hj:j=j / K*K+j % K:=by have:=Nat.div_add_mod j K;rw[Nat.mul_comm] at this;omega
  rw[hj,zgi f K M hfM (j / K) (j % K) hq hmod] at hu
  have:=hr (j / K) hq (j % K) u hu
  rw[Addr.add_lit,show p+j=p+j / K*K+j % K by omega]
  exact this
end Go.Proofs.YtegbbkgmiklhcaaGreatDoor
