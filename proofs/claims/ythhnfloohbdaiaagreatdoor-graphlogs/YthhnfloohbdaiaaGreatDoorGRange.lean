/- Lemmas. -/
import Derived.Test.YthhnfloohbdaiaaGreatDoorOObj
import Derived.Test.YthhnfloohbdaiaaGreatDoorSMath
import Derived.MapKept
import Derived.Carry
import Derived.Stop.BytesEq
import GoSem.Builtin.Delete
import GoSem.Extern.MapsClone
import Derived.Deep.AppendLies
import Derived.Deep.LoopGhost
import Derived.Maps.RangeRun
namespace Go.Proofs.YthhnfloohbdaiaaGreatDoor
open Go.RowKit
set_option maxRecDepth 100000
def Ris (l:List (List UInt8)):Prop:=l.Pairwise fun a b=>za8 a b=true
theorem zfo {a b:List UInt8} (h:za8 a b=true):a≠b:=by
 rintro rfl
 rw[zf3] at h
 cases h
theorem Ris.nodup {l:List (List UInt8)} (h:Ris l):l.Nodup:=List.Pairwise.imp zfo h
theorem Ris.filter {l:List (List UInt8)} (h:Ris l) (p:List UInt8→Bool):Ris (l.filter p):=List.Pairwise.filter p h
theorem Ris.cons {x:List UInt8} {l:List (List UInt8)} (h:Ris (x::l)):(∀ y∈l,za8 x y=true)∧Ris l:=List.pairwise_cons.1 h
theorem Ris.ext:∀ {a b:List (List UInt8)},Ris a→Ris b→(∀ x,x∈a↔x∈b)→a=b
 | [],[],_,_,_=>rfl
 | [],y::b,_,_,h=>absurd ((h y).2 (by simp)) (by simp)
 | x::a,[],_,_,h=>absurd ((h x).1 (by simp)) (by simp)
 | x::a,y::b,ha,hb,h=>by
  have hxy:x=y:=by
   rcases List.mem_cons.1 ((h x).1 (by simp)) with h1 | h1
   ·exact h1
   ·rcases List.mem_cons.1 ((h y).2 (by simp)) with h2 | h2
    ·exact h2.symm
    ·have h3:=zma _ _ (hb.cons.1 x h1)
     rw[ha.cons.1 y h2] at h3
     cases h3
  subst hxy
  rw[Ris.ext ha.cons.2 hb.cons.2 fun z => ?_]
  constructor
  ·intro hz
   rcases List.mem_cons.1 ((h z).1 (by simp[hz])) with h1 | h1
   ·exact absurd h1.symm (zfo (ha.cons.1 z hz))
   ·exact h1
  ·intro hz
   rcases List.mem_cons.1 ((h z).2 (by simp[hz])) with h1 | h1
   ·exact absurd h1.symm (zfo (hb.cons.1 z hz))
   ·exact h1
theorem zbn {α:Type} [DecidableEq α]:∀ {K U:List α},K.Nodup→(∀ x∈K,x∈U)→K.length≤U.length
 | [],_,_,_=>Nat.zero_le _
 | x::K,U,hn,h=>by
  have hc:=List.nodup_cons.1 hn
  have hx:=h x (by simp)
  have h1:K.length≤(U.erase x).length:=zbn hc.2 fun y hy=>(List.mem_erase_of_ne (fun e=>hc.1 (by rw[← e];exact hy))).2 (h y (by simp[hy]))
  have h2:=List.length_erase_of_mem hx
  have h3:0<U.length:=List.length_pos_of_mem hx
  rw[List.length_cons]
  omega
inductive Rch (nx:List UInt8→List (List UInt8)) (R:List (List UInt8)):List UInt8→Prop
 | root {x:List UInt8} : x∈R→Rch nx R x
 | next {x y:List UInt8} : Rch nx R x→y∈nx x→Rch nx R y
theorem Rch.mono {nx:List UInt8→List (List UInt8)} {R Q:List (List UInt8)} (h:∀ x∈R,Rch nx Q x) {x:List UInt8} (hx:Rch nx R x):Rch nx Q x:=by
 induction hx with
 | root hm=>exact h _ hm
 | next _ hm ih=>exact .next ih hm
theorem Rch.more {nx:List UInt8→List (List UInt8)} {R Q:List (List UInt8)} (h:∀ x∈R,x∈Q) {x:List UInt8} (hx:Rch nx R x):Rch nx Q x:=hx.mono fun x hm => .root (h x hm)
theorem Rch.none {nx:List UInt8→List (List UInt8)} {x:List UInt8} (hx:Rch nx [] x):False:=by
 induction hx with
 | root h=>simp at h
 | next _ _ ih=>exact ih
theorem Rch.to {nx my:List UInt8→List (List UInt8)} {R:List (List UInt8)} (h:∀ x,Rch nx R x→nx x=my x) {x:List UInt8} (hx:Rch nx R x):Rch my R x:=by
 induction hx with
 | root hm=>exact .root hm
 | next h1 hm ih=>exact .next ih (by rw[← h _ h1];exact hm)
theorem Rch.in {nx:List UInt8→List (List UInt8)} {R:List (List UInt8)} {p:List UInt8→Prop} (h0:∀ x∈R,p x) (h1:∀ x,p x→∀ y∈nx x,p y) {x:List UInt8} (hx:Rch nx R x):p x:=by
 induction hx with
 | root hm=>exact h0 _ hm
 | next _ hm ih=>exact h1 _ ih _ hm
structure ObE where
 id:List UInt8
 k:Int
 d:List UInt8
deriving Inhabited,DecidableEq
def lkS (S:List ObE) (x:List UInt8):Option ObE:=S.find? fun e=>e.id == x
def hasS (S:List ObE) (x:List UInt8):Bool:=(lkS S x).isSome
def idsS (S:List ObE):List (List UInt8):=S.map (·.id)
def nxO (o:Option ObE):List (List UInt8):=match o with | some e=>zbm e.k e.d | .none=>[]
def prO (o:Option ObE):List (List UInt8):=match o with | some e=>(telC e.k e.d).2.pars | .none=>[]
def nxS (S:List ObE) (x:List UInt8):List (List UInt8):=nxO (lkS S x)
def prS (S:List ObE) (x:List UInt8):List (List UInt8):=prO (lkS S x)
theorem zn5 (S:List ObE) (x:List UInt8):hasS S x=true↔x∈idsS S:=by
 unfold hasS lkS idsS
 rw[List.find?_isSome]
 constructor
 ·rintro ⟨e,he,h⟩
  exact List.mem_map.2 ⟨e,he,by simpa using h⟩
 ·intro h
  obtain ⟨e,he,rfl⟩:=List.mem_map.1 h
  exact ⟨e,he,by simp⟩
theorem ze1 {S:List ObE} {x:List UInt8} {e:ObE} (h:lkS S x=some e):e∈S∧e.id=x:=by
 unfold lkS at h
 exact ⟨List.mem_of_find?_eq_some h,by simpa using List.find?_some h⟩
theorem zgf {S:List ObE} (hn:(idsS S).Nodup) {e:ObE} (he:e∈S):lkS S e.id=some e:=by
 induction S with
 | nil=>simp at he
 | cons a S ih =>
  unfold lkS
  rw[List.find?_cons]
  have hn':=List.nodup_cons.1 hn
  rcases List.mem_cons.1 he with rfl | h
  ·simp
  ·have:(a.id == e.id)=false:=beq_eq_false_iff_ne.2 fun h2=>hn'.1 (by
    show a.id∈List.map (·.id) S
    rw[h2];exact List.mem_map.2 ⟨e,h,rfl⟩)
   rw[this]
   exact ih hn'.2 h
theorem zkj {S:List ObE} {x:List UInt8} (h:x∉idsS S):lkS S x=none:=by
 cases hl:lkS S x with
 | none=>rfl
 | some e=>exact absurd (by obtain ⟨h1,rfl⟩:=ze1 hl;exact List.mem_map.2 ⟨e,h1,rfl⟩) h
theorem zp5 {S:List ObE} {x:List UInt8} (h:lkS S x=none):x∉idsS S:=fun hm=>by
 have:=(zn5 S x).2 hm
 unfold hasS at this
 rw[h] at this
 cases this
def putS:List ObE→ObE→List ObE
 | [],e=>[e]
 | x::l,e=>if za8 x.id e.id=true then x::putS l e else if x.id=e.id then e::l else e::x::l
def zmz (S:List ObE) (x:List UInt8):List ObE:=S.filter fun e=>e.id != x
theorem zdw {S:List ObE} (h:Ris (idsS S)) (e y:ObE):y∈putS S e↔y=e∨(y∈S∧y.id≠e.id):=by
 induction S with
 | nil=>simp[putS]
 | cons x l ih =>
  have hc:=Ris.cons h
  have ih:=ih hc.2
  unfold putS
  split
  ·rename_i hl
   have hne:=zfo hl
   simp only[List.mem_cons,ih]
   constructor
   ·rintro (rfl | rfl | ⟨h1,h2⟩)
    ·exact Or.inr ⟨Or.inl rfl,hne⟩
    ·exact Or.inl rfl
    ·exact Or.inr ⟨Or.inr h1,h2⟩
   ·rintro (rfl | ⟨rfl | h1,h2⟩)
    ·exact Or.inr (Or.inl rfl)
    ·exact Or.inl rfl
    ·exact Or.inr (Or.inr ⟨h1,h2⟩)
  ·rename_i hl
   have hgt:∀ y∈l,y.id≠x.id:=fun y hy e2=>zfo (hc.1 y.id (List.mem_map.2 ⟨y,hy,rfl⟩)) e2.symm
   split
   ·rename_i he
    simp only[List.mem_cons]
    constructor
    ·rintro (rfl | h1)
     ·exact Or.inl rfl
     ·exact Or.inr ⟨Or.inr h1,by rw[← he];exact hgt y h1⟩
    ·rintro (rfl | ⟨rfl | h1,h2⟩)
     ·exact Or.inl rfl
     ·exact absurd he h2
     ·exact Or.inr h1
   ·rename_i he
    have hlt:za8 e.id x.id=true:=by
     cases h3:za8 e.id x.id with
     | true=>rfl
     | false=>exact absurd (zc4 _ _ (by simpa using hl) h3) he
    simp only[List.mem_cons]
    constructor
    ·rintro (rfl | rfl | h1)
     ·exact Or.inl rfl
     ·exact Or.inr ⟨Or.inl rfl,he⟩
     ·exact Or.inr ⟨Or.inr h1,fun e2=>zfo (zc5 _ _ _ hlt (hc.1 y.id (List.mem_map.2 ⟨y,h1,rfl⟩))) e2.symm⟩
    ·rintro (rfl | ⟨rfl | h1,_⟩)
     ·exact Or.inl rfl
     ·exact Or.inr (Or.inl rfl)
     ·exact Or.inr (Or.inr h1)
theorem zkk {S:List ObE} (h:Ris (idsS S)) (e:ObE):Ris (idsS (putS S e)):=by
 induction S with
 | nil=>exact List.pairwise_singleton _ _
 | cons x l ih =>
  have hc:=Ris.cons h
  have ih:=ih hc.2
  unfold putS
  split
  ·rename_i hl
   refine List.pairwise_cons.2 ⟨fun y hy => ?_,ih⟩
   obtain ⟨z,hz,rfl⟩:=List.mem_map.1 hy
   rcases (zdw hc.2 e z).1 hz with rfl | ⟨h1,_⟩
   ·exact hl
   ·exact hc.1 z.id (List.mem_map.2 ⟨z,h1,rfl⟩)
  ·rename_i hl
   split
   ·rename_i he
    refine List.pairwise_cons.2 ⟨fun y hy => ?_,hc.2⟩
    show za8 e.id y=true
    rw[← he];exact hc.1 y hy
   ·rename_i he
    have hlt:za8 e.id x.id=true:=by
     cases h3:za8 e.id x.id with
     | true=>rfl
     | false=>exact absurd (zc4 _ _ (by simpa using hl) h3) he
    refine List.pairwise_cons.2 ⟨fun y hy => ?_,h⟩
    rcases List.mem_cons.1 hy with rfl | h1
    ·exact hlt
    ·exact zc5 _ _ _ hlt (hc.1 y h1)
theorem zn6 (S:List ObE) (e:ObE):(putS S e).length≤S.length+1:=by
 induction S with
 | nil=>simp[putS]
 | cons x l ih =>
  unfold putS
  split
  ·simpa using ih
  ·split <;> simp
theorem zse {S:List ObE} (h:Ris (idsS S)) (x:List UInt8):Ris (idsS (zmz S x)):=by
 unfold idsS zmz
 exact List.Pairwise.sublist (List.Sublist.map _ List.filter_sublist) h
theorem zgg (S:List ObE) (x:List UInt8) (y:ObE):y∈zmz S x↔y∈S∧y.id≠x:=by simp[zmz]
theorem zsf (S:List ObE) (x:List UInt8):(zmz S x).length≤S.length:=List.length_filter_le _ _
theorem zm0 {S:List ObE} (h:Ris (idsS S)) (e:ObE) (x:List UInt8):lkS (putS S e) x=if x=e.id then some e else lkS S x:=by
 have hn:=(zkk h e).nodup
 split
 ·rename_i hx
  subst hx
  exact zgf hn ((zdw h e e).2 (Or.inl rfl))
 ·rename_i hx
  cases hl:lkS S x with
  | none =>
   refine zkj fun hm => ?_
   obtain ⟨y,hy,rfl⟩:=List.mem_map.1 hm
   rcases (zdw h e y).1 hy with rfl | ⟨h1,_⟩
   ·exact hx rfl
   ·exact zp5 hl (List.mem_map.2 ⟨y,h1,rfl⟩)
  | some y =>
   obtain ⟨h1,rfl⟩:=ze1 hl
   exact zgf hn ((zdw h e y).2 (Or.inr ⟨h1,hx⟩))
structure SetS (S:List ObE):Prop where
 ris:Ris (idsS S)
 len:∀ e∈S,e.id.length=32
 is:∀ e∈S,e.id=shaL (putL e.k e.d)
 ok:∀ e∈S,zau e.k e.d=0
 few:S.length≤1000
def keyV (x:List UInt8):Value := .agg (x.map bv).toArray
theorem zy4:∀ {a b:UInt8},bv a=bv b→a=b:=by
 intro a b h
 unfold bv at h
 injection h with _ h
 exact UInt8.toNat_inj.1 (by omega)
theorem zn7 {a b:List UInt8} (h:keyV a=keyV b):a=b:=by
 unfold keyV at h
 injection h with h
 have h:=congrArg Array.toList h
 simp only at h
 exact List.map_inj_right (fun _ _=>zy4) |>.1 h
theorem zsg (w:World) (a b:List UInt8) (ha:a.length=32) (hb:b.length=32):(Op.equal 33 (keyV a) (keyV b)).run Tryz.prog w = .ok (a == b) w :=
 run_equalIn_bytes w 9998 33 5 32 Tryz.underlying33 Tryz.underlying5 zbf a b ha hb
theorem zio (w:World) (b:Bool) (a:List UInt8) (ha:a.length=32):(Instr.checkKey b 10000 33 (keyV a)).run Tryz.prog w = .ok () w:=by
 unfold Instr.checkKey keyV
 simp only[Sem.run_bind,run_underlying Tryz.underlying33,Result.andThen_ok,Std.Legacy.Range.forIn_eq_forIn_range',Std.Legacy.Range.size,Nat.sub_zero,Nat.add_sub_cancel,Nat.div_one]
 have hl:∀ i∈List.range' 0 32 1,i<32:=fun i hi=>by simpa using (List.mem_range'_1.1 hi).2
 generalize List.range' 0 32 1=l at hl ⊢
 induction l with
 | nil=>simp
 | cons i l ih =>
  have hi:i<a.length:=by rw[ha];exact hl i (by simp)
  have ih:=ih fun j hj=>hl j (by simp[hj])
  have hp:(part 5 (a.map bv).toArray (i*1)).run Tryz.prog w = .ok (bv a[i]) w:=by
   simp[part,Result.andThen,hi]
  have hc:(Instr.checkKey b 9999 5 (bv a[i])).run Tryz.prog w = .ok () w:=MapKept.run_checkKey (d := .int .u8) Tryz.underlying5 (by simp[MapKept.IsKey,bv]) b 9998
  simp only[List.forIn_cons,Sem.run_bind,zbf,Result.andThen_ok,hp,hc,Sem.run_pure]
  exact ih
theorem zvk (a:List UInt8):Instr.sameBits 10000 (keyV a) (keyV a)=true:=by
 unfold Instr.sameBits keyV
 simp only[beq_self_eq_true,Bool.true_and]
 rw[List.all_eq_true]
 rintro ⟨x,y⟩ h
 have:x=y∧∃ u,x=bv u:=by
  have h2:=List.mem_iff_getElem?.1 h
  obtain ⟨i,hi⟩:=h2
  rw[List.getElem?_zip_eq_some] at hi
  obtain ⟨h3,h4⟩:=hi
  simp only at h3 h4
  rw[h3] at h4
  injection h4 with h4
  refine ⟨h4,?_⟩
  have h5:=List.mem_of_getElem? h3
  obtain ⟨u,_,rfl⟩:=List.mem_map.1 h5
  exact ⟨u,rfl⟩
 obtain ⟨rfl,u,rfl⟩:=this
 simp[Instr.sameBits,bv]
structure MapAt (w:World) (m:Nat) (K:List (List UInt8 × Value)):Prop where
 is:∃ A clock,w.heap[m]? = some (.map A clock)∧A.toList.map (fun e=>(e.key,e.val))=K.map (fun p=>(keyV p.1,p.2))∧(∀ e∈A.toList,e.born<clock)∧(A.toList.map (·.born)).Nodup
 once:(K.map (·.1)).Nodup
 wide:∀ p∈K,p.1.length=32
theorem MapAt.lt {w:World} {m:Nat} {K:List (List UInt8 × Value)} (h:MapAt w m K):m<w.heap.size:=by
 obtain ⟨_,_,h,_⟩:=h.is
 exact (Array.getElem?_eq_some_iff.1 h).1
theorem MapAt.same {w a:World} {m:Nat} {K:List (List UInt8 × Value)} (h:MapAt w m K) (g:a.heap[m]? = w.heap[m]?):MapAt a m K:=by
 obtain ⟨A,c,h1,h2⟩:=h.is
 exact ⟨⟨A,c,by rw[g];exact h1,h2⟩,h.once,h.wide⟩
theorem MapAt.kept {w a:World} {m:Nat} {K:List (List UInt8 × Value)} {r:Option Nat} (h:MapAt w m K) (g:w.grownBy a r) (hr:some m≠r):MapAt a m K:=h.same (g.block m h.lt hr)
theorem MapAt.none {w a:World} {m:Nat} {K:List (List UInt8 × Value)} (h:MapAt w m K) (g:w.grownBy a Option.none):MapAt a m K:=h.kept g (by simp)
theorem MapAt.new (w:World):MapAt (w.alloc (.map #[] 0)) w.heap.size []:=⟨⟨#[],0,heap_alloc_new w _,rfl,by simp,by simp⟩,by simp,by simp⟩
theorem MapAt.blk {w:World} {m b:Nat} {K:List (List UInt8 × Value)} {t:TypeId} {cs:List Value} (h:MapAt w m K) (hb:Blk w b t cs):m≠b:=by
 rintro rfl
 obtain ⟨_,_,h,_⟩:=h.is
 unfold Blk at hb
 rw[hb] at h
 cases h
theorem MapAt.typ {w:World} {m:Nat} {K:List (List UInt8 × Value)} (h:MapAt w m K):¬ Typ w m:=by
 rintro ⟨_,_,h2⟩
 obtain ⟨_,_,h,_⟩:=h.is
 rw[h2] at h
 cases h
theorem MapAt.own {w:World} {m base k n:Nat} {K:List (List UInt8 × Value)} {t:TypeId} {v:Value} {xs:List Value} (h:MapAt w m K) (ho:w.ownsRow base t k v n xs):some m≠v.ownBlock:=by
 obtain ⟨_,_,h,_⟩:=h.is
 rcases ho.2 with ⟨rfl,_⟩ | ⟨g,cap,cur,rfl,_,hh,_⟩
 ·intro e;cases e
 ·intro e
  have:m=g:=by simpa[Value.ownBlock] using e
  subst this
  rw[hh] at h
  cases h
theorem zxs {w a:World} {m base k n:Nat} {K:List (List UInt8 × Value)} {t:TypeId} {v:Value} {xs:List Value} (ho:w.ownsRow base t k v n xs) (h:MapAt w m K) (g:w.grownBy a (some m)):a.ownsRow base t k v n xs:=by
 refine ⟨ho.1,?_⟩
 have hne:=h.own ho
 rcases ho.2 with h1 | ⟨p,cap,cur,hv,hg,hh,hr⟩
 ·exact Or.inl h1
 ·subst hv
  refine Or.inr ⟨p,cap,cur,rfl,hg,?_,hr⟩
  rw[g.block p (Array.getElem?_eq_some_iff.1 hh).1 (fun e=>hne (by rw[← e];rfl))]
  exact hh
def getK (K:List (List UInt8 × Value)) (x:List UInt8):Option Value:=(K.find? fun p=>p.1 == x).map (·.2)
def putK (K:List (List UInt8 × Value)) (x:List UInt8) (v:Value):List (List UInt8 × Value):=if x∈K.map (·.1) then K.map fun p=>if p.1=x then (x,v) else p else K++[(x,v)]
def delK (K:List (List UInt8 × Value)) (x:List UInt8):List (List UInt8 × Value):=K.filter fun p=>p.1 != x
theorem zfp (K:List (List UInt8 × Value)) (x:List UInt8):(getK K x).isSome=true↔x∈K.map (·.1):=by
 unfold getK
 rw[Option.isSome_map,List.find?_isSome]
 constructor
 ·rintro ⟨p,hp,h⟩
  exact List.mem_map.2 ⟨p,hp,by simpa using h⟩
 ·intro h
  obtain ⟨p,hp,rfl⟩:=List.mem_map.1 h
  exact ⟨p,hp,by simp⟩
theorem zsh {K:List (List UInt8 × Value)} {x:List UInt8} (h:x∉K.map (·.1)):getK K x=none:=by
 cases hg:getK K x with
 | none=>rfl
 | some v=>exact absurd ((zfp K x).1 (by rw[hg];rfl)) h
theorem zn8 {K:List (List UInt8 × Value)} {x:List UInt8} {v:Value} (h:getK K x=some v):(x,v)∈K:=by
 unfold getK at h
 obtain ⟨p,hp,rfl⟩:=Option.map_eq_some_iff.1 h
 have h1:=List.mem_of_find?_eq_some hp
 have h2:p.1=x:=by simpa using List.find?_some hp
 obtain ⟨a,b⟩:=p
 simp only at h2
 subst h2
 exact h1
theorem zek {α β:Type} {f:α→β} : ∀ {K:List α},(K.map f).Nodup→∀ {a b:α},a∈K→b∈K→f a=f b→a=b
 | [],_,_,_,h,_,_=>by simp at h
 | x::K,hn,a,b,ha,hb,h=>by
  have hc:=List.nodup_cons.1 hn
  rcases List.mem_cons.1 ha with h1 | h1
  ·rcases List.mem_cons.1 hb with h2 | h2
   ·rw[h1,h2]
   ·exact absurd (by rw[← h1,h];exact List.mem_map.2 ⟨b,h2,rfl⟩) hc.1
  ·rcases List.mem_cons.1 hb with h2 | h2
   ·exact absurd (by rw[← h2,← h];exact List.mem_map.2 ⟨a,h1,rfl⟩) hc.1
   ·exact zek hc.2 h1 h2 h
theorem zn9 (w:World) (x:List UInt8) (hx:x.length=32):∀ (l:List MapEntry) (K:List (List UInt8 × Value)) (i:Nat),l.map (fun e=>(e.key,e.val))=K.map (fun p=>(keyV p.1,p.2))→(∀ p∈K,p.1.length=32) →
  (x∉K.map (·.1)∧(Instr.findAsking 33 (keyV x) l i).run Tryz.prog w = .ok none w) ∨
   ∃ (j:Nat) (hj:j<K.length),K[j].1=x∧(∀ q (hq:q<j),(K[q]'(by omega)).1≠x)∧(Instr.findAsking 33 (keyV x) l i).run Tryz.prog w = .ok (some (i+j,K[j].2)) w
 | [],[],_,_,_=>Or.inl ⟨by simp,by simp[Instr.findAsking]⟩
 | [],_::_,_,h,_=>by simp at h
 | _::_,[],_,h,_=>by simp at h
 | e::l,p::K,i,h,hw=>by
  simp only[List.map_cons,List.cons.injEq,Prod.mk.injEq] at h
  obtain ⟨⟨h1,h2⟩,h3⟩:=h
  have hs:=zsg w x p.1 hx (hw p (by simp))
  rw[← h1] at hs
  by_cases hp:p.1=x
  ·refine Or.inr ⟨0,by simp,hp,fun q hq=>by omega,?_⟩
   have:(x == p.1)=true:=by rw[hp];simp
   rw[this] at hs
   simp[Instr.findAsking,hs,Result.andThen,h2]
  ·have:(x == p.1)=false:=beq_eq_false_iff_ne.2 fun e=>hp e.symm
   rw[this] at hs
   have hF:(Instr.findAsking 33 (keyV x) (e::l) i).run Tryz.prog w=(Instr.findAsking 33 (keyV x) l (i+1)).run Tryz.prog w:=by
    conv=>lhs;unfold Instr.findAsking
    simp[hs,Result.andThen]
   rw[hF]
   rcases zn9 w x hx l K (i+1) h3 (fun q hq=>hw q (by simp[hq])) with ⟨h4,h5⟩ | ⟨j,hj,h4,h6,h5⟩
   ·exact Or.inl ⟨by simp only[List.map_cons,List.mem_cons,not_or];exact ⟨fun e=>hp e.symm,h4⟩,h5⟩
   ·refine Or.inr ⟨j+1,by simp;omega,by simpa using h4,fun q hq => ?_,by rw[h5];simp;omega⟩
    cases q with
    | zero=>exact hp
    | succ q=>simpa using h6 q (by omega)
theorem zkl (w:World) (x:List UInt8) (hx:x.length=32) (A:Array MapEntry) (K:List (List UInt8 × Value)) (h:A.toList.map (fun e=>(e.key,e.val))=K.map (fun p=>(keyV p.1,p.2))) (hw:∀ p∈K,p.1.length=32) :
  (x∉K.map (·.1)∧(Instr.findKey 33 (keyV x) A.toList).run Tryz.prog w = .ok none w) ∨
   ∃ (j:Nat) (hj:j<K.length),K[j].1=x∧(∀ q (hq:q<j),(K[q]'(by omega)).1≠x)∧(Instr.findKey 33 (keyV x) A.toList).run Tryz.prog w = .ok (some (j,K[j].2)) w:=by
 have hfk:(Instr.findKey 33 (keyV x) A.toList).run Tryz.prog w=(Instr.findAsking 33 (keyV x) A.toList 0).run Tryz.prog w:=by
  unfold Instr.findKey
  simp only[Sem.run_bind,run_underlying Tryz.underlying33,Result.andThen_ok]
  cases hl:A.toList with
  | nil=>simp[Instr.findNow,Instr.findAsking]
  | cons e l =>
   have:Instr.findNow (.array 32 5) (keyV x) (e::l) 0=none:=by
    simp[Instr.findNow,Instr.sameNow]
   rw[this]
 rw[hfk]
 rcases zn9 w x hx A.toList K 0 h hw with h1 | ⟨j,hj,h1,h2,h3⟩
 ·exact Or.inl h1
 ·exact Or.inr ⟨j,hj,h1,h2,by rw[h3,Nat.zero_add]⟩
theorem zxt {K:List (List UInt8 × Value)} {x:List UInt8} {j:Nat} (hj:j<K.length) (h1:K[j].1=x) (h2:∀ q (hq:q<j),(K[q]'(by omega)).1≠x):getK K x=some K[j].2:=by
 unfold getK
 rw[List.find?_eq_some_iff_getElem.2 ⟨by simpa using h1,j,hj,rfl,fun q hq=>by simpa using h2 q hq⟩]
 rfl
theorem MapAt.look {w:World} {m:Nat} {K:List (List UInt8 × Value)} (h:MapAt w m K) (t e:TypeId) (ht:Tryz.prog.underlying t=some (.map 33 e)) (z:Value) (hz:(zeroValue e).run Tryz.prog w = .ok z w) (x:List UInt8) (hx:x.length=32) (ok:Bool) :
  (Instr.lookup t (.map (some m)) (keyV x) ok).run Tryz.prog w = .ok (if ok then .tuple #[(getK K x).getD z,.bool (getK K x).isSome] else (getK K x).getD z) w:=by
 obtain ⟨A,c,h1,h2,_⟩:=h.is
 have hc:=zio w A.isEmpty x hx
 have hg:=MapKept.run_getObj_map (P:=Tryz.prog) h1
 rcases zkl w x hx A K h2 h.wide with ⟨h4,h5⟩ | ⟨j,hj,h4,h6,h5⟩
 ·rw[zsh h4]
  simp[Instr.lookup,run_underlying ht,hg,hc,h5,hz,Result.andThen]
 ·rw[zxt hj h4 h6]
  simp[Instr.lookup,run_underlying ht,hg,hc,h5,Result.andThen]
theorem zfq {A:Array MapEntry} (j:Nat) (f:MapEntry→MapEntry):(A.modify j f).toList=A.toList.modify j f:=by simp
theorem MapAt.store {w:World} {m:Nat} {K:List (List UInt8 × Value)} (h:MapAt w m K) (t e:TypeId) (ht:Tryz.prog.underlying t=some (.map 33 e)) (x:List UInt8) (hx:x.length=32) (v:Value) :
  ∃ w',(Instr.mapUpdate t (.map (some m)) (keyV x) v).run Tryz.prog w = .ok () w'∧MapAt w' m (putK K x v)∧w.grownBy w' (some m)∧w'.heap.size=w.heap.size:=by
 have hlt:=h.lt
 obtain ⟨A,c,h1,h2,hb,hnd⟩:=h.is
 have hc:=zio w false x hx
 have hg:=MapKept.run_getObj_map (P:=Tryz.prog) h1
 have hgr:∀ o:Obj,w.grownBy { w with heap:=w.heap.setIfInBounds m o } (some m):=fun o=>⟨rfl,rfl,rfl,by simp,fun i _ hi=>by
  have:m≠i:=fun e=>hi (by rw[e])
  simp[this]⟩
 have hsame:∀ o:Obj,({ w with heap:=w.heap.setIfInBounds m o } : World).heap[m]? = some o:=fun o=>by simp[hlt]
 rcases zkl w x hx A K h2 h.wide with ⟨h4,h5⟩ | ⟨j,hj,h4,h6,h5⟩
 ·refine ⟨{ w with heap:=w.heap.setIfInBounds m (.map (A.push { key:=keyV x,val:=v,born:=c }) (c+1)) },?_,⟨⟨_,_,hsame _,?_,?_,?_⟩,?_,?_⟩,hgr _,by simp⟩
  ·simp[Instr.mapUpdate,run_underlying ht,hg,hc,h5,Result.andThen,MapKept.run_setObj_map _ h1]
  ·unfold putK;rw[if_neg h4];simp[h2]
  ·intro y hy
   simp only[Array.toList_push,List.mem_append,List.mem_singleton] at hy
   rcases hy with hy | rfl
   ·exact Nat.lt_succ_of_lt (hb y hy)
   ·exact Nat.lt_succ_self _
  ·simp only[Array.toList_push,List.map_append,List.map_cons,List.map_nil]
   refine List.nodup_append.2 ⟨hnd,by simp,?_⟩
   intro a ha b hb2
   simp only[List.mem_singleton] at hb2
   subst hb2
   obtain ⟨y,hy,rfl⟩:=List.mem_map.1 ha
   exact Nat.ne_of_lt (hb y hy)
  ·unfold putK;rw[if_neg h4]
   rw[List.map_append]
   refine List.nodup_append.2 ⟨h.once,by simp,?_⟩
   intro a ha b hb2
   simp only[List.map_cons,List.map_nil,List.mem_singleton] at hb2
   subst hb2
   exact fun e=>h4 (e ▸ ha)
  ·unfold putK;rw[if_neg h4]
   intro p hp
   rcases List.mem_append.1 hp with hp | hp
   ·exact h.wide p hp
   ·rw[List.mem_singleton.1 hp];exact hx
 ·have hmem:x∈K.map (·.1):=List.mem_map.2 ⟨K[j],List.getElem_mem _,h4⟩
  have hlen:A.toList.length=K.length:=by have:=congrArg List.length h2;simpa using this
  have hjA:j<A.toList.length:=by omega
  have hkey:A.toList[j].key=keyV x:=by
   have h7:(A.toList.map (fun e=>(e.key,e.val)))[j]? = (K.map (fun p=>(keyV p.1,p.2)))[j]? := by rw[h2]
   rw[List.getElem?_map,List.getElem?_map,List.getElem?_eq_getElem hjA,List.getElem?_eq_getElem hj] at h7
   simp only[Option.map_some,Option.some.injEq,Prod.mk.injEq] at h7
   rw[h7.1,h4]
  have hst:(Instr.keyThatStays (keyV x) (keyV x)).run Tryz.prog w = .ok (keyV x) w:=by
   unfold Instr.keyThatStays
   rw[if_pos (zvk x)];rfl
  have hjB:j<A.size:=by simpa using hjA
  have hkey2:A[j].key=keyV x:=by simpa using hkey
  have hjo:A[j]? = some A[j]:=by simp[hjB]
  have hjo2:A[j]? = some A.toList[j]:=by
   rw[← Array.getElem?_toList,List.getElem?_eq_getElem hjA]
  have hput:putK K x v=K.modify j fun _=>(x,v):=by
   unfold putK;rw[if_pos hmem]
   apply List.ext_getElem?
   intro i
   rw[List.getElem?_map,List.getElem?_modify]
   by_cases hij:j=i
   ·subst hij
    rw[List.getElem?_eq_getElem hj]
    simp[h4]
   ·simp only[if_neg hij]
    cases hi:K[i]? with
    | none=>rfl
    | some p =>
     obtain ⟨hi2,rfl⟩:=List.getElem?_eq_some_iff.1 hi
     have:K[i].1≠x:=fun e=>hij (by
      have h8:(K.map (·.1))[j]'(by simpa using hj)=(K.map (·.1))[i]'(by simpa using hi2):=by simp[h4,e]
      exact (List.getElem_inj h.once).1 h8)
     simp[this]
  refine ⟨{ w with heap:=w.heap.setIfInBounds m (.map (A.modify j fun e=>{ e with key:=keyV x,val:=v }) c) },?_,⟨⟨_,_,hsame _,?_,?_,?_⟩,?_,?_⟩,hgr _,by simp⟩
  ·simp[Instr.mapUpdate,run_underlying ht,hg,hc,h5,Result.andThen,MapKept.run_setObj_map _ h1,hjo,hkey2,hst]
  ·rw[hput,zfq]
   apply List.ext_getElem?
   intro i
   rw[List.getElem?_map,List.getElem?_map,List.getElem?_modify,List.getElem?_modify]
   have h7:(A.toList.map (fun e=>(e.key,e.val)))[i]? = (K.map (fun p=>(keyV p.1,p.2)))[i]? := by rw[h2]
   rw[List.getElem?_map,List.getElem?_map] at h7
   by_cases hij:j=i
   ·subst hij
    rw[List.getElem?_eq_getElem hjA,List.getElem?_eq_getElem hj]
    simp
   ·simp only[if_neg hij]
    simpa using h7
  ·intro y hy
   rw[zfq] at hy
   obtain ⟨i,hi⟩:=List.mem_iff_getElem?.1 hy
   rw[List.getElem?_modify] at hi
   obtain ⟨z,hz,rfl⟩:=Option.map_eq_some_iff.1 hi
   have:=hb z (List.mem_of_getElem? hz)
   split <;> exact this
  ·have:(A.modify j fun e=>{ e with key:=keyV x,val:=v }).toList.map (·.born)=A.toList.map (·.born):=by
    rw[zfq]
    apply List.ext_getElem?
    intro i
    rw[List.getElem?_map,List.getElem?_map,List.getElem?_modify]
    cases A.toList[i]? with
    | none=>rfl
    | some z=>simp only[Option.map_some];split <;> rfl
   rw[this];exact hnd
  ·have:(putK K x v).map (·.1)=K.map (·.1):=by
    unfold putK;rw[if_pos hmem,List.map_map]
    apply List.map_congr_left
    intro p _
    simp only[Function.comp]
    split
    ·rename_i e;exact e.symm
    ·rfl
   rw[this];exact h.once
  ·intro p hp
   unfold putK at hp;rw[if_pos hmem] at hp
   obtain ⟨q,hq,rfl⟩:=List.mem_map.1 hp
   split
   ·exact hx
   ·exact h.wide q hq
theorem ziq {α β:Type} (f:α→β) (l:List α) (i:Nat):(l.eraseIdx i).map f=(l.map f).eraseIdx i:=by
 rw[List.eraseIdx_eq_take_drop_succ,List.eraseIdx_eq_take_drop_succ,List.map_append,List.map_take,List.map_drop]
theorem zvl {K:List (List UInt8 × Value)} (x:List UInt8) (p:List UInt8 × Value):p∈delK K x↔p∈K∧p.1≠x:=by simp[delK]
theorem MapAt.del {w:World} {m:Nat} {K:List (List UInt8 × Value)} (h:MapAt w m K) (t e u:TypeId) (T:Array TypeId) (hT:T[0]? = some t) (ht:Tryz.prog.underlying t=some (.map 33 e)) (x:List UInt8) (hx:x.length=32) :
  ∃ w',(Builtin.delete_ T u #[.map (some m),keyV x]).run Tryz.prog w = .ok (.tuple #[]) w'∧MapAt w' m (delK K x)∧w.grownBy w' (some m)∧w'.heap.size=w.heap.size:=by
 have hlt:=h.lt
 obtain ⟨A,c,h1,h2,hb,hnd⟩:=h.is
 have hc:=zio w A.isEmpty x hx
 have hg:=MapKept.run_getObj_map (P:=Tryz.prog) h1
 have hgr:∀ o:Obj,w.grownBy { w with heap:=w.heap.setIfInBounds m o } (some m):=fun o=>⟨rfl,rfl,rfl,by simp,fun i _ hi=>by
  have:m≠i:=fun e=>hi (by rw[e])
  simp[this]⟩
 have hsame:∀ o:Obj,({ w with heap:=w.heap.setIfInBounds m o } : World).heap[m]? = some o:=fun o=>by simp[hlt]
 have hlen:A.toList.length=K.length:=by have:=congrArg List.length h2;simpa using this
 have honce:((delK K x).map (·.1)).Nodup:=(List.filter_sublist.map _).nodup h.once
 have hwide:∀ p∈delK K x,p.1.length=32:=fun p hp=>h.wide p ((zvl x p).1 hp).1
 rcases zkl w x hx A K h2 h.wide with ⟨h4,h5⟩ | ⟨j,hj,h4,h6,h5⟩
 ·have hd:delK K x=K:=by
   unfold delK
   rw[List.filter_eq_self]
   intro p hp
   simp only[bne_iff_ne,ne_eq]
   rintro rfl
   exact h4 (List.mem_map.2 ⟨p,hp,rfl⟩)
  refine ⟨{ w with heap:=w.heap.setIfInBounds m (.map A c) },?_,⟨⟨_,_,hsame _,by rw[hd];exact h2,hb,hnd⟩,honce,hwide⟩,hgr _,by simp⟩
  simp[Builtin.delete_,hT,run_underlying ht,hg,hc,h5,Result.andThen,MapKept.run_setObj_map _ h1]
 ·have hjA:j<A.size:=by
   simp only[Array.length_toList] at hlen
   omega
  have hel:(A.eraseIdxIfInBounds j).toList=A.toList.eraseIdx j:=by
   unfold Array.eraseIdxIfInBounds
   rw[dif_pos hjA];simp
  have hd:delK K x=K.eraseIdx j:=by
   unfold delK
   have hsp:K=K.take j++K[j]::K.drop (j+1):=by rw[← List.drop_eq_getElem_cons hj,List.take_append_drop]
   have hn:((K.take j).map (·.1)++K[j].1::(K.drop (j+1)).map (·.1)).Nodup:=by
    have h9:=congrArg (List.map (·.1)) hsp
    rw[List.map_append,List.map_cons] at h9
    rw[← h9];exact h.once
   have hn2:=List.nodup_append.1 hn
   have hn3:=List.nodup_cons.1 hn2.2.1
   rw[List.eraseIdx_eq_take_drop_succ]
   have hf:K.filter (fun p=>p.1 != x)=(K.take j++K[j]::K.drop (j+1)).filter (fun p=>p.1 != x):=congrArg _ hsp
   rw[hf,List.filter_append,List.filter_cons,if_neg (by simp[h4])]
   refine congr (congrArg _ ?_) ?_
   ·rw[List.filter_eq_self]
    intro p hp
    simp only[bne_iff_ne,ne_eq]
    intro e
    exact hn2.2.2 p.1 (List.mem_map.2 ⟨p,hp,rfl⟩) K[j].1 (by simp) (by rw[e,h4])
   ·rw[List.filter_eq_self]
    intro p hp
    simp only[bne_iff_ne,ne_eq]
    intro e
    exact hn3.1 (by rw[h4,← e];exact List.mem_map.2 ⟨p,hp,rfl⟩)
  refine ⟨{ w with heap:=w.heap.setIfInBounds m (.map (A.eraseIdxIfInBounds j) c) },?_,⟨⟨_,_,hsame _,?_,?_,?_⟩,honce,hwide⟩,hgr _,by simp⟩
  ·simp[Builtin.delete_,hT,run_underlying ht,hg,hc,h5,Result.andThen,MapKept.run_setObj_map _ h1]
  ·rw[hd,hel,ziq,ziq,h2]
  ·intro y hy
   rw[hel] at hy
   exact hb y (List.mem_of_mem_eraseIdx hy)
  ·rw[hel,ziq]
   exact (List.eraseIdx_sublist _ _).nodup hnd
structure ObR where
 e:ObE
 ao:Option Addr
 c:Nat
deriving Inhabited
def obL (r:ObR):List Value:=[.int .i64 r.e.k,.slice r.ao r.e.d.length r.c]
def obV (r:ObR):Value := .agg (obL r).toArray
structure Dat (w:World) (ao:Option Addr) (c:Nat) (d:List UInt8):Prop where
 bts:Bts w ao c d
 typ:∀ ad,ao=some ad→Typ w ad.block
theorem Dat.kept {w a:World} {ao:Option Addr} {c:Nat} {d:List UInt8} {r:Option Nat} (h:Dat w ao c d) (g:w.grownBy a r) (hr:∀ x,r=some x→¬ Typ w x):Dat a ao c d :=
 ⟨h.bts.kept g (fun x e ad e2 e3=>hr x e (by rw[← e3];exact h.typ ad e2)),fun ad e=>(h.typ ad e).kept g (fun e2=>hr ad.block e2.symm (h.typ ad e))⟩
theorem Dat.none {w a:World} {ao:Option Addr} {c:Nat} {d:List UInt8} (h:Dat w ao c d) (g:w.grownBy a Option.none):Dat a ao c d:=h.kept g (fun _ e=>by cases e)
theorem Dat.nil (w:World):Dat w Option.none 0 []:=⟨Bts.nil w,fun _ e=>by cases e⟩
theorem NewB.dat {w a:World} {v:Value} {d:List UInt8} (h:NewB w a v d):∃ ao c,v = .slice ao d.length c∧Dat a ao c d:=by
 obtain ⟨ao,c,h1,h2,h3⟩:=h
 exact ⟨ao,c,h1,h2,fun ad e=>(h3 ad e).2⟩
structure SetAt (u w:World) (sb mb:Nat) (S:List ObE):Prop where
 ns:u.heap.size≤sb
 nm:u.heap.size≤mb
 blk:Blk w sb 88 [.map (some mb)]
 map:∃ R:List ObR,MapAt w mb (R.map fun r=>(r.e.id,obV r))∧(∀ e,e∈R.map (·.e)↔e∈S)∧∀ r∈R,Dat w r.ao r.c r.e.d
 ok:SetS S
theorem SetAt.lt {u w:World} {sb mb:Nat} {S:List ObE} (h:SetAt u w sb mb S):mb<w.heap.size:=by
 obtain ⟨R,h1,_⟩:=h.map
 exact h1.lt
theorem SetAt.ne {u w:World} {sb mb:Nat} {S:List ObE} (h:SetAt u w sb mb S):mb≠sb:=by
 obtain ⟨R,h1,_⟩:=h.map
 exact h1.blk h.blk
theorem SetAt.typ {u w:World} {sb mb:Nat} {S:List ObE} (h:SetAt u w sb mb S):¬ Typ w mb:=by
 obtain ⟨R,h1,_⟩:=h.map
 exact h1.typ
theorem SetAt.kept {u w a:World} {sb mb:Nat} {S:List ObE} {r:Option Nat} (h:SetAt u w sb mb S) (g:w.grownBy a r) (h1:some sb≠r) (h2:some mb≠r) (h3:∀ x,r=some x→¬ Typ w x):SetAt u a sb mb S:=by
 obtain ⟨R,m1,m2,m3⟩:=h.map
 exact ⟨h.ns,h.nm,h.blk.kept g h1,⟨R,m1.kept g h2,m2,fun r hr=>(m3 r hr).kept g h3⟩,h.ok⟩
theorem SetAt.none {u w a:World} {sb mb:Nat} {S:List ObE} (h:SetAt u w sb mb S) (g:w.grownBy a Option.none):SetAt u a sb mb S:=h.kept g (by simp) (by simp) (fun _ e=>by cases e)
theorem SetAt.other {u v w a:World} {sb mb tb nb:Nat} {S T:List ObE} (h:SetAt u w sb mb S) (k:SetAt v w tb nb T) (g:w.grownBy a (some nb)) (hne:mb≠nb):SetAt u a sb mb S:=by
 obtain ⟨R,m1,_⟩:=k.map
 exact h.kept g (fun e=>m1.blk h.blk (by cases e;rfl)) (fun e=>hne (by cases e;rfl)) (fun x e=>by cases e;exact m1.typ)
theorem zsi {w:World} {b c:Nat} {t t' : TypeId} {x y:List Value} (h:Blk w b t x) (k:Blk w c t' y) (ht:t≠t'):b≠c:=by
 rintro rfl
 unfold Blk at h k
 rw[h] at k
 injection k with k
 injection k with _ k
 exact ht k
theorem zaj {w:World} {base k n b:Nat} {t t' : TypeId} {v:Value} {xs cs:List Value} (h:w.ownsRow base t k v n xs) (hb:Blk w b t' cs) (ht:t≠t'):some b≠v.ownBlock:=by
 rcases h.2 with ⟨rfl,_⟩ | ⟨g,cap,cur,rfl,_,hh,_⟩
 ·intro e;cases e
 ·intro e
  have:b=g:=by simpa[Value.ownBlock] using e
  subst this
  unfold Blk at hb
  rw[hh] at hb
  injection hb with hb
  injection hb with _ hb
  exact ht hb
theorem SetAt.own {u w a:World} {sb mb base k n:Nat} {S:List ObE} {t:TypeId} {v:Value} {xs:List Value} (h:SetAt u w sb mb S) (ho:w.ownsRow base t k v n xs) (g:w.grownBy a v.ownBlock) (ht:t≠5) (ht2:t≠88):SetAt u a sb mb S:=by
 obtain ⟨R,m1,_⟩:=h.map
 exact h.kept g (zaj ho h.blk ht2) (m1.own ho) (fun x e=>zcw ho e ht)
theorem SetAt.up {u v w:World} {sb mb:Nat} {S:List ObE} (h:SetAt u w sb mb S) (hv:v.heap.size≤u.heap.size):SetAt v w sb mb S:=⟨Nat.le_trans hv h.ns,Nat.le_trans hv h.nm,h.blk,h.map,h.ok⟩
theorem SetAt.cell {u w:World} {sb mb:Nat} {S:List ObE} (h:SetAt u w sb mb S):w.cell? ⟨sb,0,Option.none⟩=some (.map (some mb)):=by rw[h.blk.cell];rfl
theorem map_some (m:Nat) (W:World):(binOp .neq 85 (.map (some m)) (.map none)).run Tryz.prog W = .ok (.bool true) W:=by kernel_rfl
theorem zgh (w:World) (sb mb:Nat) (h1:w.cell? ⟨sb,0,none⟩=some (.map (some mb))) :
  Calls Tryz.prog 37 #[.pointer (some ⟨sb,0,none⟩)] w fun e w'=>e = .returned (.bool true)∧w'=w:=by
 have hm:=map_some mb
 go_enter Tryz.func37,Tryz.ntmps37
 go_wp2
 go_ret
 exact ⟨rfl,rfl⟩
def zsj (w:World) (po:Option Addr):Prop:=∀ V,w.grownBy V none→Calls Tryz.prog 37 #[.pointer po] V fun e w'=>e = .returned (.bool false)∧w'=V
theorem zsj.none {w a:World} {po:Option Addr} (h:zsj w po) (g:w.grownBy a Option.none):zsj a po:=fun V gV=>h V (tn g gV)
def Sat (w:World) (po:Option Addr) (S:List ObE):Prop:=(∃ u sb mb,po=some ⟨sb,0,none⟩∧SetAt u w sb mb S)∨(S=[]∧zsj w po)
theorem Sat.none {w a:World} {po:Option Addr} {S:List ObE} (h:Sat w po S) (g:w.grownBy a Option.none):Sat a po S:=by
 rcases h with ⟨u,sb,mb,h1,h2⟩ | ⟨h1,h2⟩
 ·exact Or.inl ⟨u,sb,mb,h1,h2.none g⟩
 ·exact Or.inr ⟨h1,h2.none g⟩
theorem SetAt.sat {u w:World} {sb mb:Nat} {S:List ObE} (h:SetAt u w sb mb S):Sat w (some ⟨sb,0,Option.none⟩) S:=Or.inl ⟨u,sb,mb,rfl,h⟩
theorem zoa:SetS []:=⟨List.Pairwise.nil,(fun _ h=>by simp at h),(fun _ h=>by simp at h),(fun _ h=>by simp at h),Nat.zero_le _⟩
theorem Sat.ok {w:World} {po:Option Addr} {S:List ObE} (h:Sat w po S):SetS S:=by
 rcases h with ⟨u,sb,mb,h1,h2⟩ | ⟨rfl,h2⟩
 ·exact h2.ok
 ·exact zoa
theorem zsk (m:Nat):Tryz.prog.built 88 [(0,.map (some m))]=some #[.map (some m)]:=by kernel_rfl
theorem zob (w:World):Calls Tryz.prog 34 #[] w fun e w'=>∃ sb mb,e = .returned (.pointer (some ⟨sb,0,none⟩))∧SetAt w w' sb mb []∧w.grownBy w' none:=by
 have hmk:∀ W:World,(Instr.makeMap 85 none).run Tryz.prog W = .ok (.map (some W.heap.size)) (W.alloc (.map #[] 0)):=fun W=>run_makeMap _ W
 obtain ⟨W1,hW1⟩:∃ W1,W1=w.alloc (.map #[] 0):=⟨_,rfl⟩
 have g1:w.grownBy W1 none:=by rw[hW1];exact zah (zab _ _) _
 have hs1:W1.heap.size=w.heap.size+1:=by rw[hW1,World.size_alloc]
 have hM1:MapAt W1 w.heap.size []:=by rw[hW1];exact MapAt.new _
 have hfin:SetAt w (W1.alloc (.cells #[.map (some w.heap.size)] 88)) (w.heap.size+1) w.heap.size []:=by
  refine ⟨by omega,Nat.le_refl _,?_,⟨[],hM1.none (World.grownBy_alloc _ _ none),by simp,by simp⟩,zoa⟩
  have:=Blk.new W1 88 [.map (some w.heap.size)]
  rw[hs1] at this
  exact this
 have hg2:=zah g1 (.cells #[.map (some w.heap.size)] 88)
 have hb:=zsk w.heap.size
 obtain ⟨HB,HF,HW1⟩:=zh3 hb hfin hW1
 clear hb hfin hW1 hs1 hM1
 go_enter Tryz.func34,Tryz.ntmps34
 go_wp2_with (refine za4 rfl 88 _ rfl #[.map (some w.heap.size)] ?hb ?_)
 case hb=>exact uh HB
 rw[← uh HW1]
 go_ret
 exact ⟨_,_,rfl,uh HF,hg2⟩
theorem zxu (ad:Addr) (n c:Nat) (W:World):(binOp .eql 37 (.slice (some ad) n c) (.slice none 0 0)).run Tryz.prog W = .ok (.bool false) W:=by kernel_rfl
theorem zxv (W:World):(binOp .eql 37 (.slice none 0 0) (.slice none 0 0)).run Tryz.prog W = .ok (.bool true) W:=by kernel_rfl
theorem zm1 (w:World) (ao:Option Addr) (c:Nat) (l:List UInt8) (hb:Bts w ao c l) (hl:l.length≤1000000) :
  Calls Tryz.prog 71 #[.slice ao l.length c] w fun e w'=>∃ v,e = .returned v∧w'.ownsRow w.heap.size 5 1 v l.length (l.map bv)∧w.grownBy w' none:=by
 cases ao with
 | none =>
  obtain ⟨h1,h2⟩:=hb.zip rfl
  have:l=[]:=List.eq_nil_of_length_eq_zero h1
  subst this
  subst h2
  have hne:=zxv
  clear hb h1 hl
  rw[List.length_nil]
  go_enter Tryz.func71,Tryz.ntmps71
  go_wp2
  go_ret
  exact ⟨_,rfl,World.ownsRow_nil _ _ _ _,zab _ _⟩
 | some ad =>
  obtain ⟨W1,hW1,ho1,g1⟩:=zqt w w.heap.size (Nat.le_refl _)
  have hb1:=hb.kept g1 (fun _ e=>by cases e)
  obtain ⟨n,hn⟩:∃ n,n=l.length:=⟨_,rfl⟩
  have hne:=zxu ad n c
  obtain ⟨HN,HW1⟩:=zh2 hn hW1
  rw[← hn] at hl ⊢
  clear hn hW1 hb
  go_enter Tryz.func71,Tryz.ntmps71
  go_wp2_with (rw[← uh HW1];refine zcm rfl _ _ rfl w.heap.size _ _ _ rfl ho1 _ _ l hb1 n (uh HN) rfl (by omega) g1.size ?_;intro v5 w5 ho5 g5;have G5:=hide (zhk g1 ho1 g5);have HO5:=hide ho5;clear g5 ho5 ho1 hb1)
  go_ret
  exact ⟨_,rfl,by simpa using uh HO5,uh G5⟩
def metK (K:List (List UInt8)):List (List UInt8 × Value):=K.map fun x=>(x,.agg #[])
theorem zdd (K:List (List UInt8)):(metK K).map (·.1)=K:=by
 unfold metK
 rw[List.map_map]
 exact List.map_id K
theorem zvm (K:List (List UInt8)) (x:List UInt8) (h:x∉K):putK (metK K) x (.agg #[])=metK (K++[x]):=by
 unfold putK
 rw[zdd,if_neg h]
 simp[metK]
theorem zoc (K:List (List UInt8)) (x:List UInt8):(getK (metK K) x).getD (.agg #[]) = .agg #[]∧(getK (metK K) x).isSome=K.contains x:=by
 constructor
 ·cases h:getK (metK K) x with
  | none=>rfl
  | some v =>
   obtain ⟨y,_,e⟩:=List.mem_map.1 (zn8 h)
   injection e with _ e
   exact e.symm
 ·have:=zfp (metK K) x
  rw[zdd] at this
  cases hc:K.contains x with
  | true=>exact this.2 (by simpa using hc)
  | false =>
   cases hs:(getK (metK K) x).isSome with
   | false=>rfl
   | true =>
    have h1:=this.1 hs
    have h2:x∉K:=by simpa using hc
    exact absurd h1 h2
theorem zlp (w:World):(zeroValue 94).run Tryz.prog w = .ok (.agg #[]) w:=by kernel_rfl
theorem MapAt.met {w:World} {m:Nat} {K:List (List UInt8)} (h:MapAt w m (metK K)) (x:List UInt8) (hx:x.length=32):(Instr.lookup 96 (.map (some m)) (keyV x) true).run Tryz.prog w = .ok (.tuple #[.agg #[],.bool (K.contains x)]) w:=by
 rw[h.look 96 94 Tryz.underlying96 _ (zlp w) x hx true,(zoc K x).1,(zoc K x).2]
 rfl
theorem MapAt.meet {w:World} {m:Nat} {K:List (List UInt8)} (h:MapAt w m (metK K)) (x:List UInt8) (hx:x.length=32) (hn:x∉K) :
  ∃ w',(Instr.mapUpdate 96 (.map (some m)) (keyV x) (.agg #[])).run Tryz.prog w = .ok () w'∧MapAt w' m (metK (K++[x]))∧w.grownBy w' (some m):=by
 obtain ⟨w',h1,h2,h3,_⟩:=h.store 96 94 Tryz.underlying96 x hx (.agg #[])
 rw[zvm K x hn] at h2
 exact ⟨w',h1,h2,h3⟩
theorem zsl (w:World) (m:Nat) (K:List (List UInt8)) (h:MapAt w m (metK K)) (x:List UInt8) (hx:x.length=32) :
  Calls Tryz.prog 50 #[.map (some m),keyV x] w fun e w'=>e = .returned (.bool (K.contains x))∧w.grownBy w' none:=by
 obtain ⟨KB,hKB⟩:∃ KB,KB=x.map bv:=⟨_,rfl⟩
 have hKl:KB.length=32:=by rw[hKB];simp[hx]
 have hkv:keyV x = .agg KB.toArray:=by rw[hKB];rfl
 obtain ⟨W1,hW1,hB1,g1⟩:=zag w 33 KB
 have hr1:=zal hB1
 have hiK:(Tryz.prog.info? 33).map (·.size)=some KB.length:=by rw[hKl];exact zat
 have hlk:=(h.none g1).met x hx
 obtain ⟨r9,hr9⟩:∃ r,r=K.contains x:=⟨_,rfl⟩
 rw[hkv,← hr9] at hlk
 rw[hkv,← hr9]
 have hzu:=zlp
 obtain ⟨HW1,HIK⟩:=zh2 hW1 hiK
 clear hW1 hB1 hKB hKl hiK hkv h hr9
 go_enter Tryz.func50,Tryz.ntmps50
 go_wp2_with (first
  | (rw[← uh HW1];refine wpList_load_mid rfl 33 _ rfl w.heap.size 0 rfl KB _ hr1 Tryz.underlying33 rfl (uh HIK) ?_;clear hr1))
 go_ret
 exact ⟨rfl,zah g1 _⟩
def zco (K:List (List UInt8)):List (List UInt8)→List (List UInt8)
 | []=>[]
 | x::l=>if x∈K then zco K l else x::zco (K++[x]) l
theorem zg0 (x:List UInt8):∀ (l K:List (List UInt8)),zco K (l++[x])=zco K l++(if x∈K++zco K l then [] else [x])
 | [],K=>by simp[zco]
 | y::l,K=>by
  simp only[List.cons_append,zco]
  split
  ·rw[zg0 x l K]
  ·rw[zg0 x l (K++[y])]
   simp
structure Works (g:Nat) (bound:Value) (m:Nat) (ao:Option Addr) (c:Nat) (ps:List (List UInt8)) (St:World→List (List UInt8)→List (List UInt8)→Prop):Prop where
 map:∀ {V K L},St V K L→MapAt V m (metK K)
 ids:∀ {V K L},St V K L→Ids V ao c ps
 none:∀ {V a K L},St V K L→V.grownBy a Option.none→St a K L
 put:∀ {V a K L x},St V K L→x∈ps→x∉K→V.grownBy a (some m)→MapAt a m (metK (K++[x]))→L.length≤K.length→Calls Tryz.prog g #[bound,keyV x] a fun e w'=>e = .returned (.tuple #[])∧St w' (K++[x]) (L++[x])
 enter:∀ args w,(callFunc g args).run Tryz.prog w = .ok (.enter g args) w
set_option maxHeartbeats 2000000 in
theorem zhp (w:World) (g:Nat) (bound:Value) (m:Nat) (ao:Option Addr) (c:Nat) (ps K0 L0:List (List UInt8)) (St:World→List (List UInt8)→List (List UInt8)→Prop) (hw:Works g bound m ao c ps St) (h:St w K0 L0) (hLK:L0.length≤K0.length) (hm:ps.length≤100000) :
  Calls Tryz.prog 54 #[.map (some m),.slice ao ps.length c,.func (.func g) #[bound] #[]] w fun e w'=>e = .returned (.tuple #[])∧St w' (K0++zco K0 ps) (L0++zco K0 ps):=by
 obtain ⟨Z,hZ,hzv⟩:=zdo
 obtain ⟨n,hn⟩:∃ n,n=ps.length:=⟨_,rfl⟩
 have eg:=hw.enter
 rw[← hn]
 obtain ⟨HN,HZ,HH,HW⟩:=zh4 hn hZ h hw
 clear hZ h hw
 rw[← hn] at hm
 clear hn
 go_enter Tryz.func54,Tryz.ntmps54
 go_wp2
 go_loopw [10] (fun i wr=>∃ j:Nat,i = .int .i64 j∧j≤n∧Hid (St wr (K0++zco K0 (ps.take j)) (L0++zco K0 (ps.take j)))) (fun i _=>n - (intOf i).toNat)
 case atStart=>exact ⟨0,rfl,Nat.zero_le _,by simpa[zco] using HH⟩
 case round =>
  obtain ⟨j,rfl,hj,HS⟩:=hrel
  by_cases hlt:j<n
  ·have hlt' : j<ps.length:=by have:=uh HN;omega
   obtain ⟨b,o,hao,hrow⟩:=((uh HW).ids (uh HS)).at j hlt'
   have hr:=hrow j hlt'
   have hid:=((uh HW).ids (uh HS)).ids _ (List.getElem_mem hlt')
   have hin:ps[j]∈ps:=List.getElem_mem hlt'
   have hnew:=zg0 ps[j] (ps.take j) K0
   rw[← List.take_succ_eq_append_getElem hlt'] at hnew
   obtain ⟨E,hEE⟩:∃ E,E=ps[j]:=⟨_,rfl⟩
   rw[← hEE] at hr hid hnew hin
   obtain ⟨EB,hEB⟩:∃ EB,EB=E.map bv:=⟨_,rfl⟩
   have hkv:keyV E = .agg EB.toArray:=by rw[hEB];rfl
   rw[← hEB] at hr
   have hEl:EB.length=32:=by rw[hEB];simp[hid]
   have hEo:EB.toArray.all (·.oneCell')=true:=by rw[hEB];exact all_oneCell_toArray (za6 _)
   have hiE:(Tryz.prog.info? 33).map (·.size)=some EB.length:=by rw[hEl];exact zat
   have hiE2:(Tryz.prog.info? 33).map (·.size)=some EB.toArray.size:=by simpa using hiE
   have hZE:Z.toList.toArray.size=EB.toArray.size:=by have:=uh HZ;simp[this,hEl]
   obtain ⟨W5,hW5,hB5,g5⟩:=zbl wr 33 Z EB
   have hBZ:Blk (wr.alloc (.cells Z 33)) wr.heap.size 33 Z.toList:=by simpa using Blk.new wr 33 Z.toList
   have hr5:=zal hB5
   have HS5:=hide ((uh HW).none (uh HS) g5)
   obtain ⟨KK,hKK⟩:∃ KK,KK=K0++zco K0 (ps.take j):=⟨_,rfl⟩
   obtain ⟨LL,hLL⟩:∃ LL,LL=L0++zco K0 (ps.take j):=⟨_,rfl⟩
   have hle:LL.length≤KK.length:=by rw[hKK,hLL,List.length_append,List.length_append];omega
   have HLE:=hide hle
   clear hle
   rw[← hKK,← hLL] at HS5
   rw[← hKK] at hnew
   have ch:=zsl W5 m KK ((uh HW).map (uh HS5)) E hid
   rw[hkv] at ch
   obtain ⟨HIE,HIE2,HZE,HEO,HBZ,HW5⟩:=zh6 hiE hiE2 hZE hEo hBZ hW5
   obtain ⟨HB5,HKV,HKK,HLL⟩:=zh4 hB5 hkv hKK hLL
   have hjw:IntKind.i64.wrap ((j:Int)+1)=(j:Int)+1:=by rw[IntKind.wrap_i64];omega
   clear hrow hEE hEB hEl hEo hiE hiE2 hZE hBZ hW5 hB5 hkv hKK hLL HS g5 hlt'
   by_cases hmem:E∈KK
   ·have hcon:KK.contains E=true:=by simpa using hmem
    rw[hcon] at ch
    rw[if_pos hmem,List.append_nil] at hnew
    have HNW:=hide hnew
    clear hnew hcon hmem
    subst hao
    go_wp2_with (first
     | (refine wpList_load_mid rfl 33 _ rfl b (o+j*32) rfl EB _ hr Tryz.underlying33 rfl (uh HIE) ?_;clear hr)
     | (have hB9:=uh HBZ;refine wpList_store_row rfl 33 _ _ rfl wr.heap.size EB.toArray rfl rfl _ _ hB9 (uh HIE2) (uh HZE) (uh HEO) ?_;clear hB9;rw[← uh HW5])
     | (refine wpList_load_mid rfl 33 _ rfl wr.heap.size 0 rfl EB _ hr5 Tryz.underlying33 rfl (uh HIE) ?_;clear hr5)
     | (go_at_call 50;refine ch.mono ?_;rintro e w6 ⟨rfl,g6⟩;have HS6:=hide ((uh HW).none (uh HS5) g6);clear ch g6))
    go_roundw
    case rel =>
     refine ⟨j+1,by go_num,by omega,?_⟩
     rw[uh HNW]
     rw[uh HKK,uh HLL] at HS6
     exact HS6
    case measure=>simp[intOf];omega
   ·have hcon:KK.contains E=false:=by simpa using hmem
    rw[hcon] at ch
    rw[if_neg hmem] at hnew
    have HNW:=hide hnew
    clear hnew hcon
    subst hao
    go_wp2_with (first
     | (refine wpList_load_mid rfl 33 _ rfl b (o+j*32) rfl EB _ hr Tryz.underlying33 rfl (uh HIE) ?_;clear hr)
     | (have hB9:=uh HBZ;refine wpList_store_row rfl 33 _ _ rfl wr.heap.size EB.toArray rfl rfl _ _ hB9 (uh HIE2) (uh HZE) (uh HEO) ?_;clear hB9;rw[← uh HW5])
     | (refine wpList_load_mid rfl 33 _ rfl wr.heap.size 0 rfl EB _ hr5 Tryz.underlying33 rfl (uh HIE) ?_;clear hr5))
    refine ch.mono ?_
    rintro e w6 ⟨rfl,g6⟩
    have HS6:=hide ((uh HW).none (uh HS5) g6)
    have hM6:=(uh HW).map (uh HS6)
    have hB6:=(uh HB5).kept g6 (by simp)
    obtain ⟨w7,hrun,hM7,g7⟩:=hM6.meet E hid hmem
    rw[uh HKV] at hrun
    have hne:some wr.heap.size≠some m:=fun e=>hM6.blk hB6 (by cases e;rfl)
    have hr6:=zal hB6
    have hr7:=zal (hB6.kept g7 hne)
    have cp:=(uh HW).put (x:=E) (uh HS6) hin hmem g7 hM7 (uh HLE)
    rw[uh HKV] at cp
    clear ch hM6 hB6 hM7 g6 g7 hne
    go_wp2_with (first
     | (refine wpList_load_mid rfl 33 _ rfl wr.heap.size 0 rfl EB _ hr6 Tryz.underlying33 rfl (uh HIE) ?_;clear hr6)
     | (refine wpList_load_mid rfl 33 _ rfl wr.heap.size 0 rfl EB _ hr7 Tryz.underlying33 rfl (uh HIE) ?_;clear hr7))
    refine cp.mono ?_
    rintro e w8 ⟨rfl,hS8⟩
    have HS8:=hide hS8
    clear cp hS8 hrun
    go_wp2
    go_roundw
    case rel =>
     refine ⟨j+1,by go_num,by omega,?_⟩
     rw[uh HNW]
     rw[uh HKK,uh HLL,List.append_assoc,List.append_assoc] at HS8
     exact HS8
    case measure=>simp[intOf];omega
  ·have hjn:j=ps.length:=by have:=uh HN;omega
   rw[hjn,List.take_of_length_le (Nat.le_refl _)] at HS
   clear hjn
   go_wp2
   go_end0
   exact ⟨rfl,uh HS⟩
theorem zes {w:World} {ops:Array Oper} {o:Oper} {a:Act} {K:Act→World→Prop} {Q:Exit→Act→World→Prop} {E:Prop} (hw:Region.wanted o (yielded ops a.tmps)=true) (s x:Operand)
  (ho:o.op = .call { callee := .builtin .append,args := #[s,x],argTypes := #[137,137] })
  (base:Nat) (v:Value) (n:Nat) (xs:List Value) (hs:a.eval s=v) (hown:w.ownsRow base 33 32 v n xs) (p:Nat) (EC:List Value) (hB:Blk w p 33 EC) (hEl:EC.length=32) (hE1:∀ u∈EC,u.oneCell'=true)
  (hx:a.eval x = .slice (some ⟨p,0,none⟩) 1 1) (hn:n≤100000) (hbase:base≤w.heap.size)
  (h:∀ g c w',w'.ownsRow base 33 32 (.slice (some ⟨g,0,none⟩) (n+1) c) (n+1) (xs++EC)→w.grownBy w' v.ownBlock→(v.ownBlock=some g∨g=w.heap.size)→K (a.put o.dst (.slice (some ⟨g,0,none⟩) (n+1) c)) w') :
  if Region.wanted o (yielded ops a.tmps)=true then Oper.wp Tryz.prog o a w K Q else E:=by
 rw[if_pos hw]
 obtain ⟨i0,hi,hz0,hz1,hz2⟩:=info_parts zf6
 exact wp_append_lies w s x 137 ho base 33 i0 _ 32 32 Tryz.underlying137 hi hz0 hz1 hz2 rfl (by decide) v n xs hs hown ⟨p,0,none⟩ 1 1 EC hx (by rw[hEl]) (fun j u hu=>World.news_of_block hB j u (by simpa using hu)) hE1 (by decide) (by unfold maxLen;omega) (by omega) hbase _ rfl (fun g c w' q1 q2 q3 _=>h g c w' q1 q2 q3)
theorem zxw (t:List UInt8) (h:t.length=32) (V:World):(Instr.buildSlice 137 1 #[(0,.agg (t.map bv).toArray)]).run Tryz.prog V = .ok (.slice (some ⟨V.heap.size,0,none⟩) 1 1) (V.alloc (.cells (t.map bv).toArray 33)):=by
 obtain ⟨a0,a1,a2,a3,a4,a5,a6,a7,a8,a9,a10,a11,a12,a13,a14,a15,a16,a17,a18,a19,a20,a21,a22,a23,a24,a25,a26,a27,a28,a29,a30,a31,rfl⟩:=zew t h
 kernel_rfl
structure PileAt (w:World) (base pb:Nat) (v:Value) (L:List (List UInt8)):Prop where
 blk:Blk w pb 137 [v]
 own:w.ownsRow base 33 32 v L.length (L.flatMap (·.map bv))
 ids:∀ x∈L,x.length=32
 nb:base≤pb
theorem PileAt.kept {w a:World} {base pb:Nat} {v:Value} {L:List (List UInt8)} {r:Option Nat} (h:PileAt w base pb v L) (g:w.grownBy a r) (h1:some pb≠r) (h2:v.ownBlock=none∨v.ownBlock≠r):PileAt a base pb v L :=
 ⟨h.blk.kept g h1,h.own.kept g h2,h.ids,h.nb⟩
theorem PileAt.none {w a:World} {base pb:Nat} {v:Value} {L:List (List UInt8)} (h:PileAt w base pb v L) (g:w.grownBy a Option.none):PileAt a base pb v L :=
 h.kept g (by simp) (by cases v.ownBlock <;> simp)
structure ByPile (w a:World) (pb:Nat) (v:Value):Prop where
 os:a.os=w.os
 tape:a.tape=w.tape
 output:a.output=w.output
 size:w.heap.size≤a.heap.size
 block:∀ k,k<w.heap.size→k≠pb→some k≠v.ownBlock→a.heap[k]? = w.heap[k]?
theorem zsm {u w a:World} {base pb:Nat} {v:Value} {L:List (List UInt8)} (g:u.grownBy w none) (hp:PileAt w base pb v L) (h:ByPile w a pb v) (hb:u.heap.size≤base):u.grownBy a none :=
 ⟨h.os.trans g.os,h.tape.trans g.tape,h.output.trans g.output,Nat.le_trans g.size h.size,fun k hk _=>by
  have h2:=hp.nb
  rw[h.block k (Nat.lt_of_lt_of_le hk g.size) (by omega) (fun e=>by have:=(hp.own.lt k e.symm).1;omega),g.block k hk (by simp)]⟩
set_option maxHeartbeats 2000000 in
theorem zvn (w:World) (base pb:Nat) (v:Value) (L:List (List UInt8)) (h:PileAt w base pb v L) (x:List UInt8) (hx:x.length=32) (hL:L.length≤100000) :
  Calls Tryz.prog 76 #[.pointer (some ⟨pb,0,none⟩),keyV x] w fun e w'=>e = .returned (.tuple #[])∧∃ v',PileAt w' base pb v' (L++[x])∧ByPile w w' pb v∧(∀ k,v'.ownBlock=some k→v.ownBlock=some k∨w.heap.size≤k):=by
 obtain ⟨KB,hKB⟩:∃ KB,KB=x.map bv:=⟨_,rfl⟩
 have hKl:KB.length=32:=by rw[hKB];simp[hx]
 have hkv:keyV x = .agg KB.toArray:=by rw[hKB];rfl
 have hK1:∀ u∈KB,u.oneCell'=true:=by rw[hKB];exact za6 _
 obtain ⟨W1,hW1,hB1,g1⟩:=zag w 33 KB
 have hiK:(Tryz.prog.info? 33).map (·.size)=some KB.length:=by rw[hKl];exact zat
 have hbs:∀ V:World,(Instr.buildSlice 137 1 #[(0,.agg KB.toArray)]).run Tryz.prog V = .ok (.slice (some ⟨V.heap.size,0,none⟩) 1 1) (V.alloc (.cells KB.toArray 33)):=fun V=>by rw[hKB];exact zxw x hx V
 have h0:W1.drew.rangeAt w.heap.size 0 KB:=zal hB1.drew
 have hD:=(h.none g1).none (zak (zab W1 none))
 have hlt:=h.blk.lt
 have hba:base≤W1.drew.heap.size:=Nat.le_trans h.nb (Nat.le_of_lt (Nat.lt_of_lt_of_le hlt g1.size))
 obtain ⟨aV,cV,rfl⟩:=zbd h.own
 obtain ⟨v,hv⟩:∃ v:Value,v = .slice aV L.length cV:=⟨_,rfl⟩
 rw[← hv] at h hD ⊢
 have HNW:Hid (some w.heap.size≠v.ownBlock):=fun e=>by have:=(h.own.lt _ e.symm).2;omega
 have HNP:Hid (some w.heap.size≠some pb):=fun e=>by cases e;omega
 have HFIN:Hid (∀ w5 w6 g6b c6,W1.drew.grownBy w5 none→w5.ownsRow base 33 32 v L.length (L.flatMap (·.map bv))→w5.grownBy w6 v.ownBlock→w6.ownsRow base 33 32 (.slice (some ⟨g6b,0,none⟩) (L.length+1) c6) (L.length+1) (L.flatMap (·.map bv)++KB)→Blk w6 pb 137 [v]→(v.ownBlock=some g6b∨g6b=w5.heap.size) →
   ∃ v',PileAt (w6.setCell ⟨pb,0,none⟩ (.slice (some ⟨g6b,0,none⟩) (L.length+1) c6)) base pb v' (L++[x])∧ByPile w (w6.setCell ⟨pb,0,none⟩ (.slice (some ⟨g6b,0,none⟩) (L.length+1) c6)) pb v∧(∀ k,v'.ownBlock=some k→v.ownBlock=some k∨w.heap.size≤k)):=by
  intro w5 w6 g6b c6 g5 hO5 g6 hO6 hB6 hat
  have gs:=zcp w6 pb 0 (.slice (some ⟨g6b,0,none⟩) (L.length+1) c6)
  have gw5:w.grownBy w5 none:=tn (zak g1) g5
  refine ⟨.slice (some ⟨g6b,0,none⟩) (L.length+1) c6,⟨hB6.set 0 _,?_,fun y hy => ?_,h.nb⟩,⟨?_,?_,?_,?_,fun k hk h1 h2 => ?_⟩,fun k hk => ?_⟩
  ·have e1:(L++[x]).length=L.length+1:=by simp
   have e2:(L++[x]).flatMap (·.map bv)=L.flatMap (·.map bv)++KB:=by rw[hKB];simp
   rw[e1,e2]
   exact hO6.kept gs (Or.inr fun e=>zaj hO6 hB6 (by decide) e.symm)
  ·rcases List.mem_append.1 hy with hy | hy
   ·exact h.ids y hy
   ·rw[List.mem_singleton.1 hy];exact hx
  ·exact gs.os.trans (g6.os.trans gw5.os)
  ·exact gs.tape.trans (g6.tape.trans gw5.tape)
  ·exact gs.output.trans (g6.output.trans gw5.output)
  ·exact Nat.le_trans gw5.size (Nat.le_trans g6.size gs.size)
  ·have k5:k<w5.heap.size:=Nat.lt_of_lt_of_le hk gw5.size
   rw[gs.block k (Nat.lt_of_lt_of_le k5 g6.size) (fun e=>h1 (by cases e;rfl)),g6.block k k5 h2,gw5.block k hk (by simp)]
  ·have hk2:g6b=k:=by simpa[Value.ownBlock] using hk
   rcases hat with h1 | h1
   ·left;rw[← hk2];exact h1
   ·right;have:=gw5.size;omega
 have hHD:Hid (Blk W1.drew pb 137 [v]):=hD.blk
 have hHO:Hid (W1.drew.ownsRow base 33 32 v L.length (L.flatMap (·.map bv))):=hD.own
 have HBD:=hHD
 have HOD:=hHO
 rw[hkv]
 obtain ⟨HW1,HIK,HKL,HK1,HBS,HN⟩:=zh6 hW1 hiK hKl hK1 hbs hL
 obtain ⟨HBA,HV⟩:=zh2 hba hv
 clear hHD hHO hD hlt hba hKB hKl hkv hK1 hW1 hB1 hiK hbs h hx hL hv g1
 go_enter Tryz.func76,Tryz.ntmps76
 go_upto_region 1 with (rw[← uh HW1])
 refine wp_region_noPanic ?_
 refine wp_region_held_drew (S:=fun V=>V.rangeAt w.heap.size 0 KB) (by kernel_rfl) h0 (fun _ => ?_)
 obtain ⟨WD,hWD⟩:∃ V,V=W1.drew:=⟨_,rfl⟩
 rw[← hWD]
 rw[← hWD] at h0 HBD HOD HFIN HBA
 clear hWD
 refine tq 0 4 (.move (.tmp 0)) (.pointer (some ⟨pb,0,none⟩)) h0 ?_
 refine tq 1 5 (.move (.tmp 0)) (.pointer (some ⟨pb,0,none⟩)) h0 ?_
 refine tz 4 8 (.load 33 (.tmp 3)) (.agg KB.toArray) h0 ?_ (y:=(yieldsIf_load_mid (by rfl) _ _ rfl _ _ rfl KB _ (fun V hV=>hV) Tryz.underlying33 rfl (uh HIK)))
 refine tq 2 6 (.nilCheck (.tmp 5)) (.pointer (some ⟨pb,0,none⟩)) h0 ?_
 (try simp only[pq])
 refine wpAnyH_ready (rs:=[3,5]) (by kernel_rfl) (by simp) ?_
 refine AllReadyH.cons (o:=⟨some 7,.load 137 (.tmp 6),_,_,_,_⟩) rfl (fun K9 hK9 => ?_) (AllReadyH.cons (o:=⟨some 9,.buildSlice 137 1 #[(0,(.tmp 8))],_,_,_,_⟩) rfl (fun K9 hK9 => ?_) AllReadyH.nil)
 ·have z9:=(uh HBD).cell 0
  simp only[List.getElem?_cons_zero] at z9
  go_simp
  clear z9
  refine hK9.out _ _ h0 (fun _ => ?_)
  clear hK9 K9
  (try simp only[pq])
  refine rd 5 (some 9) (.buildSlice 137 1 #[(0,(.tmp 8))]) (fun K9 hK9 => ?_)
  obtain ⟨w5,hw5,hE5,g5⟩:=zag WD 33 KB
  refine zar (by rfl) 137 _ rfl (.agg KB.toArray) _ rfl (uh HBS WD) ?_
  rw[← hw5]
  have h5:=zaf h0 g5 (by simp)
  refine hK9.out _ _ h5 (fun _ => ?_)
  clear hK9 K9 hw5
  (try simp only[pq])
  have hO5:=zbg (uh HOD) g5 (fun x e=>by cases e)
  have hB5:=(uh HBD).kept g5 (by simp)
  have hG5:=tn (zab WD none) g5
  refine rd 6 (some 10) (.call { callee := .builtin .append,args := #[(.tmp 7),(.tmp 9)],argTypes := #[137,137] }) (fun K9 hK9 => ?_)
  refine zes (by rfl) _ _ rfl base v _ _ rfl hO5 _ KB hE5 (uh HKL) (uh HK1) rfl (uh HN) (Nat.le_trans (uh HBA) hG5.size) ?_
  intro gb6 c6 w6 hO6 g6 hat6
  have h6:=zaf h5 g6 (uh HNW)
  refine hK9.out _ _ h6 (fun _ => ?_)
  clear hK9 K9
  (try simp only[pq])
  have hB6:=hB5.kept g6 (zaj hO5 hB5 (by decide))
  have q6:=hB6.cell 0
  simp only[List.getElem?_cons_zero] at q6
  have f6:=hB6.fz 0
  refine tq 7 11 (.nilCheck (.tmp 4)) (.pointer (some ⟨pb,0,none⟩)) h6 ?_
  (try simp only[pq])
  refine rd 8 none (.store 137 (.tmp 11) (.tmp 10)) (fun K9 hK9 => ?_)
  go_simp
  have h7:=zaf h6 (zcp w6 pb 0 (.slice (some ⟨gb6,0,none⟩) (L.length+1) c6)) (uh HNP)
  refine hK9.out _ _ h7 (fun _ => ?_)
  clear hK9 K9
  (try simp only[pq])
  refine wpAnyH_done (by kernel_rfl) ?_ _
  refine NoPanic.normal ?_
  clear q6 f6
  go_wp2
  go_end0
  exact ⟨rfl,uh HFIN w5 w6 gb6 c6 hG5 hO5 g6 hO6 hB6 hat6⟩
 ·obtain ⟨w5,hw5,hE5,g5⟩:=zag WD 33 KB
  refine zar (by rfl) 137 _ rfl (.agg KB.toArray) _ rfl (uh HBS WD) ?_
  rw[← hw5]
  have h5:=zaf h0 g5 (by simp)
  refine hK9.out _ _ h5 (fun _ => ?_)
  clear hK9 K9 hw5
  (try simp only[pq])
  have hO5:=zbg (uh HOD) g5 (fun x e=>by cases e)
  have hB5:=(uh HBD).kept g5 (by simp)
  have hG5:=tn (zab WD none) g5
  refine rd 3 (some 7) (.load 137 (.tmp 6)) (fun K9 hK9 => ?_)
  have z9:=(hB5).cell 0
  simp only[List.getElem?_cons_zero] at z9
  go_simp
  clear z9
  refine hK9.out _ _ h5 (fun _ => ?_)
  clear hK9 K9
  (try simp only[pq])
  refine rd 6 (some 10) (.call { callee := .builtin .append,args := #[(.tmp 7),(.tmp 9)],argTypes := #[137,137] }) (fun K9 hK9 => ?_)
  refine zes (by rfl) _ _ rfl base v _ _ rfl hO5 _ KB hE5 (uh HKL) (uh HK1) rfl (uh HN) (Nat.le_trans (uh HBA) hG5.size) ?_
  intro gb6 c6 w6 hO6 g6 hat6
  have h6:=zaf h5 g6 (uh HNW)
  refine hK9.out _ _ h6 (fun _ => ?_)
  clear hK9 K9
  (try simp only[pq])
  have hB6:=hB5.kept g6 (zaj hO5 hB5 (by decide))
  have q6:=hB6.cell 0
  simp only[List.getElem?_cons_zero] at q6
  have f6:=hB6.fz 0
  refine tq 7 11 (.nilCheck (.tmp 4)) (.pointer (some ⟨pb,0,none⟩)) h6 ?_
  (try simp only[pq])
  refine rd 8 none (.store 137 (.tmp 11) (.tmp 10)) (fun K9 hK9 => ?_)
  go_simp
  have h7:=zaf h6 (zcp w6 pb 0 (.slice (some ⟨gb6,0,none⟩) (L.length+1) c6)) (uh HNP)
  refine hK9.out _ _ h7 (fun _ => ?_)
  clear hK9 K9
  (try simp only[pq])
  refine wpAnyH_done (by kernel_rfl) ?_ _
  refine NoPanic.normal ?_
  clear q6 f6
  go_wp2
  go_end0
  exact ⟨rfl,uh HFIN w5 w6 gb6 c6 hG5 hO5 g6 hO6 hB6 hat6⟩
theorem zjp {w:World} {base k n m g cap:Nat} {t:TypeId} {xs:List Value} (h:w.ownsRow base t k (.slice (some ⟨g,0,none⟩) n cap) n xs) (hm:m≤n):w.ownsRow base t k (.slice (some ⟨g,0,none⟩) m cap) m (xs.take (m*k)):=by
 have hmk:m*k≤n*k:=Nat.mul_le_mul_right k hm
 rcases h with ⟨h1,h2⟩
 rcases h2 with ⟨h2,_⟩ | ⟨g',cap',cur,hv,hg,hh,h3,h4,h5,h6⟩
 ·cases h2
 ·cases hv
  refine ⟨by rw[List.length_take,h1];omega,Or.inr ⟨g,cap,cur,rfl,hg,hh,by omega,h4,h5,?_⟩⟩
  rw[← h6,List.take_take,Nat.min_eq_left hmk]
theorem zp6 (W:World) (t:TypeId) (ht:Tryz.prog.underlying t=some (.slice 33)) (ao:Option Addr) (n c k:Nat) (hk:k≤c) :
  (Instr.slice t (.slice ao n c) none (some (.int .i64 (k:Int))) none).run Tryz.prog W = .ok (.slice ao k c) W:=by
 have ht' : Tryz.prog.underlying t=some (.slice (Tryz.prog.elem t)):=by simp[Program.elem,ht]
 have he:Tryz.prog.elem t=33:=by simp[Program.elem,ht]
 rw[run_slice_h W t _ _ _ ht' .i64 _ (by omega) (by omega),he,zmt]
 cases ao <;> simp[Result.andThen,sliced,Addr.add]
set_option maxHeartbeats 2000000 in
theorem zsn (w:World) (base pb:Nat) (v:Value) (L:List (List UInt8)) (x:List UInt8) (h:PileAt w base pb v (L++[x])) (hL:L.length≤100000) :
  Calls Tryz.prog 77 #[.pointer (some ⟨pb,0,none⟩)] w fun e w'=>e = .returned (keyV x)∧∃ v',PileAt w' base pb v' L∧w.grownBy w' (some pb)∧v'.ownBlock=v.ownBlock:=by
 have hx:x.length=32:=h.ids x (by simp)
 obtain ⟨g,cap,rfl,hg,hgl⟩:=h.own.form (by simp)
 have hlen:(L++[x]).length=L.length+1:=by simp
 have hown:=h.own
 have hbk:=h.blk
 rw[hlen] at hown hbk ⊢
 obtain ⟨n,hn⟩:∃ n,n=L.length:=⟨_,rfl⟩
 rw[← hn] at hown hbk hL ⊢
 have hcap:n+1≤cap:=by
  rcases hown.2 with ⟨h1,_⟩ | ⟨_,_,_,h1,_,_,h2,_⟩
  ·cases h1
  ·cases h1;exact h2
 obtain ⟨KB,hKB⟩:∃ KB,KB=x.map bv:=⟨_,rfl⟩
 have hKl:KB.length=32:=by rw[hKB];simp[hx]
 have hkv:keyV x = .agg KB.toArray:=by rw[hKB];rfl
 have hKo:KB.toArray.all (·.oneCell')=true:=by rw[hKB];exact all_oneCell_toArray (za6 _)
 have hr:w.rangeAt g (n*32) KB:=by
  obtain ⟨ao,c,h1,h2⟩:=Ids.own h.own h.ids
  cases h1
  have:=h2.row ⟨g,0,none⟩ rfl n (by simp;omega)
  simp only[Nat.zero_add] at this
  rw[hKB]
  have e:(L++[x])[n]'(by simp;omega)=x:=by
   rw[List.getElem_append_right (by omega)]
   simp[hn]
  rw[e] at this
  exact this
 obtain ⟨Z,hZ,hzv⟩:=zdo
 have hiK:(Tryz.prog.info? 33).map (·.size)=some KB.length:=by rw[hKl];exact zat
 have hiK2:(Tryz.prog.info? 33).map (·.size)=some KB.toArray.size:=by simpa using hiK
 have hZE:Z.toList.toArray.size=KB.toArray.size:=by simp[hZ,hKl]
 obtain ⟨W0,hW0,hB0,g0⟩:∃ W,W=w.alloc (.cells Z 33)∧Blk W w.heap.size 33 Z.toList∧w.grownBy W none:=by
  obtain ⟨W1,h1,h2,h3⟩:=zag w 33 Z.toList
  exact ⟨W1,by simpa using h1,h2,h3⟩
 have hs0:W0.heap.size=w.heap.size+1:=by rw[hW0];simp
 obtain ⟨W1,hW1,hB1,g1⟩:=zbl W0 33 Z KB
 have hBZ:Blk (W0.alloc (.cells Z 33)) W0.heap.size 33 Z.toList:=by simpa using Blk.new W0 33 Z.toList
 have hb0:=hbk.kept g0 (by simp)
 have hb1:=hb0.kept g1 (by simp)
 have hc0:=hb0.cell 0
 have hc1:=hb1.cell 0
 have hf1:=hb1.fz 0
 simp only[List.getElem?_cons_zero] at hc0 hc1
 have hr0:=zaf hr g0 (by simp)
 have hplt:=hbk.lt
 have hsl:∀ W,(Instr.slice 137 (.slice (some ⟨g,0,none⟩) (n+1) cap) none (some (.int .i64 (n:Int))) none).run Tryz.prog W = .ok (.slice (some ⟨g,0,none⟩) n cap) W:=fun W=>zp6 W _ Tryz.underlying137 _ _ _ _ (by omega)
 have hB2:=(hB1.other ⟨pb,0,none⟩ (.slice (some ⟨g,0,none⟩) n cap) (by simp;omega))
 have hR2:=((hB0.kept g1 (by simp)).other ⟨pb,0,none⟩ (.slice (some ⟨g,0,none⟩) n cap) (by simp;omega))
 have hr2:=zal hB2
 obtain ⟨W2,hW2⟩:∃ W,W=W1.setCell ⟨pb,0,none⟩ (.slice (some ⟨g,0,none⟩) n cap):=⟨_,rfl⟩
 have g2:W1.grownBy W2 (some pb):=by rw[hW2];exact zcp _ _ _ _
 have hP2:Blk W2 pb 137 [.slice (some ⟨g,0,none⟩) n cap]:=by rw[hW2];exact hb1.set 0 _
 rw[← hW2] at hB2 hR2 hr2
 have hfin:PileAt (W2.setRow w.heap.size KB.toArray) base pb (.slice (some ⟨g,0,none⟩) n cap) L∧w.grownBy (W2.setRow w.heap.size KB.toArray) (some pb):=by
  have g3:W2.grownBy (W2.setRow w.heap.size KB.toArray) (some w.heap.size):=zam (zab _ _) _ (Or.inr rfl)
  have G2:w.grownBy W2 (some pb):=zae (zaw _ (tn g0 g1)) g2 (fun _ e=>Or.inr e)
  refine ⟨⟨hP2.kept g3 (fun e=>by cases e;omega),?_,fun y hy=>h.ids y (by simp[hy]),h.nb⟩,zam G2 _ (Or.inl (Nat.le_refl _))⟩
  have ho:=zjp hown (Nat.le_succ n)
  have e2:((L++[x]).flatMap (·.map bv)).take (n*32)=L.flatMap (·.map bv):=by
   rw[List.flatMap_append,List.take_append_of_le_length (by rw[zby (fun x:List UInt8=>x.map bv) 32 L (fun y hy=>by simpa using h.ids y (by simp[hy]))];omega),List.take_of_length_le (by rw[zby (fun x:List UInt8=>x.map bv) 32 L (fun y hy=>by simpa using h.ids y (by simp[hy]))];omega)]
  rw[e2] at ho
  rw[← hn]
  have o1:=(ho.kept (tn g0 g1) (by simp[Value.ownBlock])).kept g2 (Or.inr fun e=>zaj (ho.kept (tn g0 g1) (by simp[Value.ownBlock])) hb1 (by decide) e.symm)
  exact o1.kept g3 (Or.inr fun e=>by simp[Value.ownBlock] at e;omega)
 have hwn:IntKind.i64.wrap (((n+1:Nat):Int) - 1)=(n:Int):=by rw[IntKind.wrap_i64];omega
 have hwn2:((n:Int)+1) - 1=(n:Int):=by omega
 rw[hkv]
 obtain ⟨HW0,HW1,HW2,HBZ,HIK,HIK2⟩:=zh6 hW0 hW1 hW2 hBZ hiK hiK2
 obtain ⟨HZE,HKO,HR2,HF⟩:=zh4 hZE hKo hR2 hfin
 clear hW0 hW1 hW2 hBZ hiK hiK2 hZE hKo hfin hB0 hB1 hs0 hb0 hb1 hr h hown hbk hKB hKl hkv hx hg hgl hlen hcap hB2 hP2 g0 g1 g2 hR2 hZ hplt hn
 go_enter Tryz.func77,Tryz.ntmps77
 go_wp2_with (first
  | (refine wpList_load_mid rfl 33 _ rfl g (n*32) (by first | rfl | simp) KB _ hr0 Tryz.underlying33 rfl (uh HIK) ?_;clear hr0)
  | (have hB9:=uh HBZ;refine wpList_store_row rfl 33 _ _ rfl W0.heap.size KB.toArray rfl rfl _ _ hB9 (uh HIK2) (uh HZE) (uh HKO) ?_;clear hB9;rw[← uh HW1])
  | (rw[← uh HW2];refine wpList_load_mid rfl 33 _ rfl W0.heap.size 0 rfl KB _ hr2 Tryz.underlying33 rfl (uh HIK) ?_;clear hr2)
  | (have hB9:=uh HR2;refine wpList_store_row rfl 33 _ _ rfl w.heap.size KB.toArray rfl rfl _ _ hB9 (uh HIK2) (uh HZE) (uh HKO) ?_;clear hB9)
  | rw[← uh HW0])
 refine bodyPost_ret (results_cell_row rfl _ _ _ _ _ _ _ rfl ((uh HR2).row KB) Tryz.underlying33 rfl (uh HIK2)) rfl ?_
 exact ⟨rfl,_,(uh HF).1,(uh HF).2,rfl⟩
theorem zdx {x:List UInt8} : ∀ {l K:List (List UInt8)},x∈zco K l→x∈l
 | [],_,h=>by simp[zco] at h
 | y::l,K,h=>by
  unfold zco at h
  split at h
  ·exact List.mem_cons_of_mem _ (zdx h)
  ·rcases List.mem_cons.1 h with rfl | h
   ·simp
   ·exact List.mem_cons_of_mem _ (zdx h)
theorem ze2 {x:List UInt8} : ∀ {l K:List (List UInt8)},x∈l→x∈K++zco K l
 | [],_,h=>by simp at h
 | y::l,K,h=>by
  unfold zco
  split
  ·rename_i hy
   rcases List.mem_cons.1 h with rfl | h
   ·exact List.mem_append_left _ hy
   ·exact ze2 h
  ·rcases List.mem_cons.1 h with rfl | h
   ·simp
   ·have:=ze2 (K:=K++[y]) h
    simpa using this
structure Nexts (w:World) (g:Nat) (bound:Value) (nx:List UInt8→List (List UInt8)):Prop where
 call:∀ {V x},w.grownBy V none→x.length=32→Calls Tryz.prog g #[bound,keyV x] V fun e w'=>∃ v,e = .returned v∧w'.ownsRow V.heap.size 33 32 v (nx x).length ((nx x).flatMap (·.map bv))∧V.grownBy w' none
 enter:∀ args w,(callFunc g args).run Tryz.prog w = .ok (.enter g args) w
 wide:∀ x,∀ y∈nx x,y.length=32
 few:∀ x,(nx x).length≤100000
structure Runs (nx:List UInt8→List (List UInt8)) (R U K L:List (List UInt8)):Prop where
 roots:∀ x∈R,x∈K
 rch:∀ x∈K,Rch nx R x
 work:∀ x∈L,x∈K
 done:∀ x∈K,x∉L→∀ y∈nx x,y∈K
 all:∀ x∈K,x∈U
 le:L.length≤K.length
theorem Runs.first {nx:List UInt8→List (List UInt8)} {R U:List (List UInt8)} (h0:∀ x∈R,x∈U):Runs nx R U (zco [] R) (zco [] R) :=
 ⟨fun x hx=>by simpa using ze2 (K:=[]) hx,fun x hx => .root (zdx hx),fun x hx=>hx,fun x hx hn=>absurd hx hn,fun x hx=>h0 x (zdx hx),Nat.le_refl _⟩
theorem Runs.step {nx:List UInt8→List (List UInt8)} {R U K L:List (List UInt8)} {x:List UInt8} (h:Runs nx R U K (L++[x])) (hU:∀ x,∀ y∈nx x,y∈U):Runs nx R U (K++zco K (nx x)) (L++zco K (nx x)):=by
 have hxK:=h.work x (by simp)
 refine ⟨fun y hy=>List.mem_append_left _ (h.roots y hy),fun y hy => ?_,fun y hy => ?_,fun y hy hn z hz => ?_,fun y hy => ?_,?_⟩
 ·rcases List.mem_append.1 hy with hy | hy
  ·exact h.rch y hy
  ·exact .next (h.rch x hxK) (zdx hy)
 ·rcases List.mem_append.1 hy with hy | hy
  ·exact List.mem_append_left _ (h.work y (by simp[hy]))
  ·exact List.mem_append_right _ hy
 ·rcases List.mem_append.1 hy with hy | hy
  ·by_cases hyx:y=x
   ·subst hyx
    exact ze2 hz
   ·exact List.mem_append_left _ (h.done y hy (fun hm=>by
     rcases List.mem_append.1 hm with hm | hm
     ·exact hn (List.mem_append_left _ hm)
     ·exact hyx (by simpa using hm)) z hz)
  ·exact absurd (List.mem_append_right _ hy) hn
 ·rcases List.mem_append.1 hy with hy | hy
  ·exact h.all y hy
  ·exact hU x y (zdx hy)
 ·have:=h.le
  simp only[List.length_append,List.length_cons,List.length_nil] at this ⊢
  omega
theorem Runs.end {nx:List UInt8→List (List UInt8)} {R U K:List (List UInt8)} (h:Runs nx R U K []) (x:List UInt8):x∈K↔Rch nx R x :=
 ⟨h.rch x,fun hx=>Rch.in (p:=fun y=>y∈K) h.roots (fun y hy z hz=>h.done y hy (by simp) z hz) hx⟩
structure Piles (w:World) (m base pb:Nat) (U:List (List UInt8)) (ao:Option Addr) (V:World) (K L:List (List UInt8)):Prop where
 gb:w.grownBy V none
 map:MapAt V m (metK K)
 pile:∃ v,PileAt V base pb v L∧∀ ad,ao=some ad→v.ownBlock≠some ad.block
 all:∀ x∈K,x∈U
theorem zir (w:World) (m base pb:Nat) (U:List (List UInt8)) (hm:w.heap.size≤m) (hb:w.heap.size≤base) (hU:U.length≤100000) (ao:Option Addr) (c:Nat) (ps:List (List UInt8)) (hpU:∀ x∈ps,x∈U) :
  Works 76 (.pointer (some ⟨pb,0,none⟩)) m ao c ps (fun V K L=>Piles w m base pb U ao V K L∧Ids V ao c ps∧(∀ ad,ao=some ad→ad.block<V.heap.size∧ad.block≠pb∧ad.block≠m)) where
 map h:=h.1.map
 ids h:=h.2.1
 none h g:=by
  obtain ⟨v,p1,p2⟩:=h.1.pile
  exact ⟨⟨tn h.1.gb g,h.1.map.none g,⟨v,p1.none g,p2⟩,h.1.all⟩,h.2.1.none g,fun ad e=>⟨Nat.lt_of_lt_of_le (h.2.2 ad e).1 g.size,(h.2.2 ad e).2⟩⟩
 put {V0 V K0 L x} h0 hin hn g0 hM hle:=by
  have h:Piles w m base pb U ao V (K0++[x]) L∧Ids V ao c ps∧(∀ ad,ao=some ad→ad.block<V.heap.size∧ad.block≠pb∧ad.block≠m):=by
   obtain ⟨v,p1,p2⟩:=h0.1.pile
   refine ⟨⟨zae h0.1.gb g0 (fun x e=>Or.inl (by cases e;exact hm)),hM,⟨v,p1.kept g0 (fun e=>h0.1.map.blk p1.blk (by cases e;rfl)) (Or.inr fun e=>h0.1.map.own p1.own e.symm),p2⟩,fun y hy => ?_⟩,h0.2.1.kept g0 (fun x e ad e2 e3=>by cases e;exact (h0.2.2 ad e2).2.2 e3),fun ad e=>⟨Nat.lt_of_lt_of_le (h0.2.2 ad e).1 g0.size,(h0.2.2 ad e).2⟩⟩
   rcases List.mem_append.1 hy with hy | hy
   ·exact h0.1.all y hy
   ·rw[List.mem_singleton.1 hy]
    exact hpU _ hin
  obtain ⟨K,hKe⟩:∃ K,K=K0++[x]:=⟨_,rfl⟩
  have hlt:L.length<K.length:=by rw[hKe,List.length_append];simp only[List.length_cons,List.length_nil];omega
  rw[← hKe] at h ⊢
  clear hM h0 g0
  obtain ⟨v,p1,p2⟩:=h.1.pile
  have hKn:K.Nodup:=by have:=h.1.map.once;rwa [zdd] at this
  have hKl:=zbn hKn h.1.all
  refine (zvn V base pb v L p1 x (h.2.1.ids x hin) (by omega)).mono ?_
  rintro e w' ⟨he,v',q1,q2,q3⟩
  have hkeep:∀ ad,ao=some ad→w'.heap[ad.block]? = V.heap[ad.block]? := fun ad e=>q2.block _ (h.2.2 ad e).1 (h.2.2 ad e).2.1 (fun e2=>p2 ad e e2.symm)
  have hmap:w'.heap[m]? = V.heap[m]? := q2.block m h.1.map.lt (fun e=>h.1.map.blk p1.blk e) (h.1.map.own p1.own)
  refine ⟨he,⟨zsm h.1.gb p1 q2 hb,h.1.map.same hmap,⟨v',q1,fun ad e e2 => ?_⟩,h.1.all⟩,?_,fun ad e=>⟨Nat.lt_of_lt_of_le (h.2.2 ad e).1 q2.size,(h.2.2 ad e).2⟩⟩
  ·rcases q3 _ e2 with h3 | h3
   ·exact p2 ad e h3
   ·have:=(h.2.2 ad e).1
    omega
  ·exact ⟨h.2.1.zip,h.2.1.fits,h.2.1.most,h.2.1.shape,fun ad e i hi j u hu=>by
    have:=h.2.1.row ad e i hi j u hu
    rw[World.cell?_of_block (w:=V) (w':=w') (a:=⟨ad.block,ad.off+i*32+j,Option.none⟩) (hkeep ad e)]
    exact this,h.2.1.ids⟩
 enter:=fun args w=>by exact enters_of Tryz.func76 (by kernel_rfl) rfl args w
theorem zso (w:World):(zeroValue 137).run Tryz.prog w = .ok (.slice none 0 0) w:=by kernel_rfl
set_option maxHeartbeats 4000000 in
theorem zis (w:World) (g:Nat) (bound:Value) (nx:List UInt8→List (List UInt8)) (hN:Nexts w g bound nx) (ao:Option Addr) (c:Nat) (R U:List (List UInt8)) (hR:Ids w ao c R) (hRa:∀ ad,ao=some ad→ad.block<w.heap.size) (h0:∀ x∈R,x∈U) (h1:∀ x,∀ y∈nx x,y∈U) (hU:U.length≤100000) (hRl:R.length≤100000) :
  Calls Tryz.prog 46 #[.slice ao R.length c,.func (.func g) #[bound] #[]] w fun e w'=>∃ m K,e = .returned (.map (some m))∧MapAt w' m (metK K)∧w.heap.size≤m∧(∀ x,x∈K↔Rch nx R x)∧w.grownBy w' none:=by
 have hmk:∀ W:World,(Instr.makeMap 96 none).run Tryz.prog W = .ok (.map (some W.heap.size)) (W.alloc (.map #[] 0)):=fun W=>run_makeMap _ W
 obtain ⟨W1,hW1⟩:∃ W,W=w.alloc (.map #[] 0):=⟨_,rfl⟩
 have g1:w.grownBy W1 none:=by rw[hW1];exact zah (zab _ _) _
 have hs1:W1.heap.size=w.heap.size+1:=by rw[hW1];simp
 have hM1:MapAt W1 w.heap.size (metK []):=by rw[hW1];exact MapAt.new _
 obtain ⟨W2,hW2,hB2,g2⟩:∃ W,W=W1.alloc (.cells #[.slice none 0 0] 137)∧Blk W W1.heap.size 137 [.slice none 0 0]∧W1.grownBy W none:=zag W1 _ _
 rw[hs1] at hB2
 have G2:=tn g1 g2
 have hW:W2=(w.alloc (.map #[] 0)).alloc (.cells #[.slice none 0 0] 137):=by rw[hW2,hW1]
 have hzp:=zso
 have eg:=hN.enter
 obtain ⟨n,hn⟩:∃ n,n=R.length:=⟨_,rfl⟩
 have hst0:Piles w w.heap.size w.heap.size (w.heap.size+1) U ao W2 [] []∧Ids W2 ao c R∧(∀ ad,ao=some ad→ad.block<W2.heap.size∧ad.block≠w.heap.size+1∧ad.block≠w.heap.size) :=
  ⟨⟨G2,hM1.none g2,⟨_,⟨hB2,World.ownsRow_nil _ _ _ _,(fun _ h=>by simp at h),Nat.le_succ _⟩,fun _ _ h=>by cases h⟩,fun _ h=>by simp at h⟩,hR.none G2,fun ad e=>by have:=hRa ad e;have:=G2.size;omega⟩
 have cm:=zhp W2 76 (.pointer (some ⟨w.heap.size+1,0,none⟩)) w.heap.size ao c R [] [] _ (zir w w.heap.size w.heap.size (w.heap.size+1) U (Nat.le_refl _) (Nat.le_refl _) hU ao c R h0) hst0 (Nat.le_refl _) hRl
 rw[← hn] at cm ⊢
 obtain ⟨HW,HN,H0,H1,HU⟩:=zh5 hW hN h0 h1 hU
 clear hW hW1 hW2 hs1 hM1 hB2 g1 g2 hst0 hN h0 h1 hU hRl hn hR hRa G2
 go_enter Tryz.func46,Tryz.ntmps46
 go_wp2_with (rw[← uh HW])
 refine cm.mono ?_
 rintro e w3 ⟨rfl,hS3,_⟩
 have HS3:=hide hS3
 clear cm hS3
 go_wp2_with fail
 go_loopg [] (2*U.length) (fun k wr=>∃ K L,Hid (Piles w w.heap.size w.heap.size (w.heap.size+1) U none wr K L∧Runs nx R U K L)∧2*(U.length - K.length)+L.length≤k)
 case atStart =>
  refine ⟨zco [] R,zco [] R,⟨?_,Runs.first (uh H0)⟩,?_⟩
  ·have h:=uh HS3
   simp only[List.nil_append] at h
   obtain ⟨v,p1,_⟩:=h.pile
   exact ⟨h.gb,h.map,⟨v,p1,fun _ e=>by cases e⟩,h.all⟩
  ·have h:=(uh HS3).map.once
   rw[zdd,List.nil_append] at h
   have:=zbn h (fun x hx=>uh H0 x (zdx hx))
   omega
 case round =>
  obtain ⟨K,L,HP,hk⟩:=hrel
  obtain ⟨v,p1,_⟩:=(uh HP).1.pile
  obtain ⟨av,cv,rfl⟩:=zbd p1.own
  have hcell:=p1.blk.cell 0
  simp only[List.getElem?_cons_zero] at hcell
  rcases List.eq_nil_or_concat L with rfl | ⟨L',x,rfl⟩
  ·rw[List.length_nil] at hcell
   have hR:=(uh HP).2.end
   have hM:=(uh HP).1.map
   have hG:=(uh HP).1.gb
   have HR:=hide hR
   clear hR HP p1 hk
   go_wp2
   go_ret
   exact ⟨_,K,rfl,hM,Nat.le_refl _,uh HR,hG⟩
  ·rw[List.concat_eq_append] at *
   have hlL:(L'++[x]).length=L'.length+1:=by simp
   rw[hlL] at hcell hk
   have hx:x.length=32:=p1.ids x (by simp)
   have hKn:K.Nodup:=by have:=(uh HP).1.map.once;rwa [zdd] at this
   have hKU:=zbn hKn (uh HP).1.all
   have hLK:=(uh HP).2.le
   rw[hlL] at hLK
   have hUU:=uh HU
   have ct:=zsn wr w.heap.size (w.heap.size+1) _ L' x p1 (by omega)
   obtain ⟨l,hl⟩:∃ l,l=L'.length:=⟨_,rfl⟩
   rw[← hl] at hcell
   obtain ⟨HK,HL,HX⟩:=zh3 hk hl hx
   have hpos:(0:Int)<(l:Int)+1:=by omega
   clear hk hl hx hKn hKU hLK hUU hlL p1
   go_wp2_with fail
   refine ct.mono ?_
   rintro e w4 ⟨rfl,v4,q1,q2,q3⟩
   have hG4:w.grownBy w4 none:=zae (uh HP).1.gb q2 (fun y e=>Or.inl (by cases e;exact Nat.le_succ _))
   have hM4:MapAt w4 w.heap.size (metK K):=(uh HP).1.map.kept q2 (by simp)
   have cn:=(uh HN).call hG4 (uh HX)
   clear ct q2 q3
   go_wp2_with fail
   refine cn.mono ?_
   rintro e w5 ⟨v5,rfl,ho5,g5⟩
   obtain ⟨a5,c5,rfl,hI5⟩:=Ids.own ho5 ((uh HN).wide x)
   have hP5:=q1.none g5
   have hM5:=hM4.none g5
   have hst5:Piles w w.heap.size w.heap.size (w.heap.size+1) U a5 w5 K L'∧Ids w5 a5 c5 (nx x)∧(∀ ad,a5=some ad→ad.block<w5.heap.size∧ad.block≠w.heap.size+1∧ad.block≠w.heap.size):=by
    have hlt4:=q1.blk.lt
    have had:∀ ad,a5=some ad→w4.heap.size≤ad.block∧ad.block<w5.heap.size:=fun ad e=>ho5.lt ad.block (by rw[e];rfl)
    refine ⟨⟨tn hG4 g5,hM5,⟨v4,hP5,fun ad e e2 => ?_⟩,(uh HP).1.all⟩,hI5,fun ad e => ?_⟩
    ·have:=(q1.own.lt _ e2).2
     have:=(had ad e).1
     omega
    ·have:=had ad e
     omega
   have cm:=zhp w5 76 (.pointer (some ⟨w.heap.size+1,0,none⟩)) w.heap.size a5 c5 (nx x) K L' _ (zir w w.heap.size w.heap.size (w.heap.size+1) U (Nat.le_refl _) (Nat.le_refl _) (uh HU) a5 c5 (nx x) (uh H1 x)) hst5 (by have:=(uh HP).2.le;simp at this;omega) ((uh HN).few x)
   have HR:=hide ((uh HP).2.step (uh H1))
   clear cn q1 ho5 g5 hI5 hP5 hM5 hst5 hM4 hG4 HP
   go_wp2_with fail
   refine cm.mono ?_
   rintro e w6 ⟨rfl,hS6,_⟩
   have HS6:=hide hS6
   clear cm hS6
   go_wp2_with fail
   go_roundg (2*(U.length - (K++zco K (nx x)).length)+(L'++zco K (nx x)).length)
   case measure =>
    have h:=(uh HS6).map.once
    rw[zdd] at h
    have h2:=zbn h (uh HS6).all
    have h3:=uh HK
    simp only[List.length_append] at h2 ⊢
    omega
   case rel =>
    obtain ⟨v,p1,_⟩:=(uh HS6).pile
    exact ⟨_,_,⟨⟨(uh HS6).gb,(uh HS6).map,⟨v,p1,fun _ e=>by cases e⟩,(uh HS6).all⟩,uh HR⟩,Nat.le_refl _⟩
def AtS (S:List ObE) (x:List UInt8) (k:Int) (d:List UInt8):Prop:=(∃ e,lkS S x=some e∧e.k=k∧e.d=d)∨(lkS S x=none∧k=0∧d=[])
theorem zfr {k:Int} {d:List UInt8} (h:zau k d=0):d.length≤16384:=by
 unfold zau at h
 by_cases h1:k<1∨4<k
 ·rw[if_pos h1] at h;omega
 ·rw[if_neg h1] at h
  by_cases h2:16384<d.length
  ·rw[if_pos h2] at h;omega
  ·omega
theorem AtS.small {S:List ObE} {x:List UInt8} {k:Int} {d:List UInt8} (h:AtS S x k d) (hS:SetS S):d.length≤16384:=by
 rcases h with ⟨e,h1,rfl,rfl⟩ | ⟨_,_,rfl⟩
 ·exact zfr (hS.ok e (ze1 h1).1)
 ·simp
theorem zp7:zbm 0 []=[]:=by decide
theorem AtS.links {S:List ObE} {x:List UInt8} {k:Int} {d:List UInt8} (h:AtS S x k d):zbm k d=nxS S x:=by
 unfold nxS
 rcases h with ⟨e,h1,rfl,rfl⟩ | ⟨h1,rfl,rfl⟩
 ·rw[h1];rfl
 ·rw[h1];exact zp7
theorem AtS.pars {S:List ObE} {x:List UInt8} {k:Int} {d:List UInt8} (h:AtS S x k d):(telC k d).2.pars=prS S x:=by
 unfold prS
 rcases h with ⟨e,h1,rfl,rfl⟩ | ⟨h1,rfl,rfl⟩
 ·rw[h1];rfl
 ·rw[h1];rfl
theorem zel (w:World):(zeroValue 42).run Tryz.prog w = .ok (.agg #[.int .i64 0,.slice none 0 0]) w:=by kernel_rfl
theorem SetAt.look {u w:World} {sb mb:Nat} {S:List ObE} (h:SetAt u w sb mb S) (x:List UInt8) (hx:x.length=32) :
  ∃ k ao c d,AtS S x k d∧Dat w ao c d∧∀ ok V,V.heap[mb]? = w.heap[mb]? → (Instr.lookup 85 (.map (some mb)) (keyV x) ok).run Tryz.prog V = .ok (if ok then .tuple #[.agg #[.int .i64 k,.slice ao d.length c],.bool (hasS S x)] else .agg #[.int .i64 k,.slice ao d.length c]) V:=by
 obtain ⟨R,m1,m2,m3⟩:=h.map
 cases hg:getK (R.map fun r=>(r.e.id,obV r)) x with
 | none =>
  have hn:lkS S x=Option.none:=zkj fun hm=>by
   obtain ⟨e,he,rfl⟩:=List.mem_map.1 hm
   obtain ⟨r,hr,rfl⟩:=List.mem_map.1 ((m2 e).2 he)
   have:=(zfp (R.map fun r=>(r.e.id,obV r)) r.e.id).2 (by rw[List.map_map];exact List.mem_map.2 ⟨r,hr,rfl⟩)
   rw[hg] at this
   cases this
  refine ⟨0,Option.none,0,[],Or.inr ⟨hn,rfl,rfl⟩,Dat.nil w,fun ok V gV => ?_⟩
  rw[(m1.same gV).look 85 42 Tryz.underlying85 _ (zel V) x hx ok,hg]
  unfold hasS
  rw[hn]
  rfl
 | some v =>
  obtain ⟨r,hr,he⟩:=List.mem_map.1 (zn8 hg)
  simp only[Prod.mk.injEq] at he
  obtain ⟨rfl,rfl⟩:=he
  have hs:lkS S r.e.id=some r.e:=zgf h.ok.ris.nodup ((m2 r.e).1 (List.mem_map.2 ⟨r,hr,rfl⟩))
  refine ⟨r.e.k,r.ao,r.c,r.e.d,Or.inl ⟨r.e,hs,rfl,rfl⟩,m3 r hr,fun ok V gV => ?_⟩
  rw[(m1.same gV).look 85 42 Tryz.underlying85 _ (zel V) r.e.id hx ok,hg]
  unfold hasS
  rw[hs]
  rfl
set_option maxHeartbeats 1000000 in
theorem zsp (u w:World) (sb mb:Nat) (S:List ObE) (h:SetAt u w sb mb S) (x:List UInt8) (hx:x.length=32) :
  Calls Tryz.prog 39 #[.pointer (some ⟨sb,0,none⟩),keyV x] w fun e w'=>e = .returned (.int .i64 (if hasS S x=true then 0 else 13))∧w.grownBy w' none:=by
 obtain ⟨k,ao,c,d,_,_,hlk0⟩:=h.look x hx
 obtain ⟨KB,hKB⟩:∃ KB,KB=x.map bv:=⟨_,rfl⟩
 have hKl:KB.length=32:=by rw[hKB];simp[hx]
 obtain ⟨W1,hW1,hB1,g1⟩:=zag w 33 KB
 have hrK:=zal hB1
 have hiK:(Tryz.prog.info? 33).map (·.size)=some KB.length:=by rw[hKl];exact zat
 have h1:=h.none g1
 have hc:=h1.cell
 have c1:=zgh W1 sb mb hc
 obtain ⟨OL,hOL⟩:∃ OL:List Value,OL=[.int .i64 k,.slice ao d.length c]:=⟨_,rfl⟩
 have hSO:OL.toArray.size=2:=by rw[hOL];rfl
 have hOO:OL.toArray.all (·.oneCell')=true:=by rw[hOL];exact zcq rfl
 obtain ⟨r9,hr9⟩:∃ r9,r9=hasS S x:=⟨_,rfl⟩
 have hzo:=zel
 have hlk:∀ V,W1.grownBy V none→(Instr.lookup 85 (.map (some mb)) (.agg KB.toArray) true).run Tryz.prog V = .ok (.tuple #[.agg OL.toArray,.bool r9]) V:=fun V hV=>by
  have:=hlk0 true V (by rw[hV.block mb h1.lt (by simp),g1.block mb h.lt (by simp)])
  rw[hOL,hKB,hr9]
  exact this
 rw[← hr9,show keyV x = .agg KB.toArray by rw[hKB];rfl]
 have h0:W1.grownBy W1.drew none:=zak (zab _ _)
 obtain ⟨HW1,HIK,HSO,HOO⟩:=zh4 hW1 hiK hSO hOO
 clear hW1 hB1 hKB hKl hiK h1 h hlk0 hOL hSO hOO hr9
 go_enter Tryz.func39,Tryz.ntmps39
 go_upto_region 3 with (first | (go_at_call 37;refine c1.mono ?_;rintro e w2 ⟨rfl,e2⟩;subst w2) | rw[← uh HW1])
 refine wp_region_noPanic ?_
 refine wp_region_held_drew (S:=fun V=>W1.grownBy V none) (by kernel_rfl) h0 (fun _ => ?_)
 refine tq 0 11 (.move (.tmp 0)) (.pointer (some ⟨sb,0,none⟩)) h0 ?_
 refine tq 1 12 (.nilCheck (.tmp 11)) (.pointer (some ⟨sb,0,none⟩)) h0 ?_
 refine tq 2 13 (.fieldAddr 88 (.tmp 12) 0) (.pointer (some ⟨sb,0,none⟩)) h0 ?_
 refine tz 3 14 (.load 85 (.tmp 13)) (.map (some mb)) h0 ?_ (y:=(Or.inl ⟨by rfl,fun V hV=>by (have hv1:=hV.cell hc (by simp);go_simp)⟩))
 (try simp only[pq])
 refine tz 4 15 (.load 33 (.tmp 3)) (.agg KB.toArray) h0 ?_ (y:=(yieldsIf_load_mid (by rfl) _ _ rfl _ _ rfl KB _ (fun V hV=>zaf hrK hV (by simp)) Tryz.underlying33 rfl (uh HIK)))
 refine tz 5 16 (.lookup 85 (.tmp 14) (.tmp 15) true) (.tuple #[.agg OL.toArray,.bool r9]) h0 ?_ (y:=(Or.inl ⟨by rfl,fun V hV=>by (have hv9:=hlk V hV;go_simp)⟩))
 refine tq 6 10 (.move (.tmp 16)) (.tuple #[.agg OL.toArray,.bool r9]) h0 ?_
 refine tq 7 17 (.extract (.tmp 10) 0) (.agg OL.toArray) h0 ?_
 (try simp only[pq])
 refine tq 8 18 (.extract (.tmp 10) 1) (.bool r9) h0 ?_
 (try simp only[pq])
 refine rd 9 (some 5) (.alloc 42) (fun K9 hK9 => ?_)
 go_simp
 refine hK9.out _ _ (zah h0 _) (fun _ => ?_)
 clear hK9 K9
 (try simp only[pq])
 have hN2:Blk (W1.drew.alloc (.cells #[.int .i64 0,.slice none 0 0] 42)) W1.heap.size 42 [.int .i64 0,.slice none 0 0]:=Blk.new W1.drew _ _
 have gN2:=zah h0 (.cells #[.int .i64 0,.slice none 0 0] 42)
 obtain ⟨W2,hW2⟩:∃ W2,W2=W1.drew.alloc (.cells #[.int .i64 0,.slice none 0 0] 42):=⟨_,rfl⟩
 rw[show (W1.alloc (.cells #[.int .i64 0,.slice none 0 0] 42)).drew=W2 by rw[hW2];rfl]
 rw[← hW2] at hN2 gN2
 clear hW2
 refine rd 10 none (.store 42 (.tmp 5) (.tmp 17)) (fun K9 hK9 => ?_)
 rw[if_pos (by rfl)]
 refine wp_store_row _ _ _ rfl W1.heap.size _ rfl rfl _ _ hN2 (by rw[uh HSO];exact zav) (by rw[uh HSO];rfl) (uh HOO) ?_
 refine hK9.out _ _ (zam gN2 _ (Or.inl (Nat.le_refl _))) (fun _ => ?_)
 clear hK9 K9
 (try simp only[Act.put])
 refine tq 11 6 (.assign (.tmp 18)) (.bool r9) (zam gN2 _ (Or.inl (Nat.le_refl _))) ?_
 (try simp only[pq])
 refine wpAnyH_done (by kernel_rfl) ?_ _
 refine NoPanic.normal ?_
 clear hlk c1
 have gF:=tn g1 (zam gN2 OL.toArray (Or.inl (Nat.le_refl _)))
 cases r9 with
 | true =>
  go_wp2
  go_ret
  exact ⟨rfl,gF⟩
 | false =>
  go_wp2
  go_ret
  exact ⟨rfl,gF⟩
theorem zvo (w:World) (po:Option Addr) (h:zsj w po) (K:Array Value) :
  Calls Tryz.prog 39 #[.pointer po,.agg K] w fun e w'=>e = .returned (.int .i64 1)∧w.grownBy w' none:=by
 have c1:=h (w.alloc (.cells K 33)) (zah (zab _ _) _)
 have hg:w.grownBy (w.alloc (.cells K 33)) none:=zah (zab _ _) _
 clear h
 go_enter Tryz.func39,Tryz.ntmps39
 go_wp2_with (go_at_call 37;refine c1.mono ?_;rintro e w2 ⟨rfl,rfl⟩)
 go_ret
 exact ⟨rfl,hg⟩
theorem zvp (w:World) (po:Option Addr) (S:List ObE) (h:Sat w po S) (x:List UInt8) (hx:x.length=32) :
  Calls Tryz.prog 13 #[.pointer po,keyV x] w fun e w'=>e = .returned (.bool (hasS S x))∧w.grownBy w' none:=by
 obtain ⟨KB,hKB⟩:∃ KB,KB=x.map bv:=⟨_,rfl⟩
 have hKl:KB.length=32:=by rw[hKB];simp[hx]
 obtain ⟨W1,hW1,hB1,g1⟩:=zag w 33 KB
 have hr1:=zal hB1
 have hiK:(Tryz.prog.info? 33).map (·.size)=some KB.length:=by rw[hKl];exact zat
 have hk:keyV x = .agg KB.toArray:=by rw[hKB];rfl
 obtain ⟨y,hy,cl⟩:∃ y:Int,(y == 0)=hasS S x∧Calls Tryz.prog 39 #[.pointer po,.agg KB.toArray] W1 fun e w'=>e = .returned (.int .i64 y)∧W1.grownBy w' none:=by
  rcases h.none g1 with ⟨u,sb,mb,rfl,h2⟩ | ⟨rfl,h2⟩
  ·refine ⟨if hasS S x=true then 0 else 13,by cases hasS S x <;> rfl,?_⟩
   rw[← hk]
   exact zsp u W1 sb mb S h2 x hx
  ·exact ⟨1,rfl,zvo W1 po h2 _⟩
 rw[← hy,hk]
 obtain ⟨HW1,HIK⟩:=zh2 hW1 hiK
 clear hW1 hB1 hKB hKl hiK h hk hy
 go_enter Tryz.func13,Tryz.ntmps13
 go_wp2_with (first
  | (rw[← uh HW1];refine wpList_load_mid rfl 33 _ rfl w.heap.size 0 rfl KB _ hr1 Tryz.underlying33 rfl (uh HIK) ?_;clear hr1)
  | (go_at_call 39;refine cl.mono ?_;rintro e w2 ⟨rfl,g2⟩))
 go_ret
 exact ⟨rfl,tn g1 g2⟩
set_option maxHeartbeats 1000000 in
theorem zsq (w:World) (po:Option Addr) (S:List ObE) (h:Sat w po S) (x:List UInt8) (hx:x.length=32) :
  Calls Tryz.prog 41 #[.pointer po,keyV x] w fun e w'=>∃ k ao c d,e = .returned (.agg #[.int .i64 k,.slice ao d.length c])∧AtS S x k d∧Dat w ao c d∧w.grownBy w' none:=by
 obtain ⟨KB,hKB⟩:∃ KB,KB=x.map bv:=⟨_,rfl⟩
 have hKl:KB.length=32:=by rw[hKB];simp[hx]
 have hk:keyV x = .agg KB.toArray:=by rw[hKB];rfl
 obtain ⟨W0,hW0,hB0,g0⟩:=zag w 33 KB
 obtain ⟨W1,hW1,hB1,g1⟩:∃ W,W=W0.alloc (.cells #[.int .i64 0,.slice none 0 0] 42)∧Blk W W0.heap.size 42 [.int .i64 0,.slice none 0 0]∧W0.grownBy W none:=zag W0 _ _
 have hs0:W0.heap.size=w.heap.size+1:=by rw[hW0];simp
 rw[hs0] at hB1
 have G1:=tn g0 g1
 have hzo:=zel
 have hW:W1=(w.alloc (.cells KB.toArray 33)).alloc (.cells #[.int .i64 0,.slice none 0 0] 42):=by rw[hW1,hW0]
 rw[hk]
 rcases h with ⟨u,sb,mb,rfl,hS⟩ | ⟨rfl,hN⟩
 ·obtain ⟨k,ao,c,d,hat,hd,hlk0⟩:=hS.look x hx
  have h1:=hS.none G1
  have hc:=h1.cell
  have c1:=zgh W1 sb mb hc
  obtain ⟨OL,hOL⟩:∃ OL:List Value,OL=[.int .i64 k,.slice ao d.length c]:=⟨_,rfl⟩
  have hSO:OL.toArray.size=2:=by rw[hOL];rfl
  have hOO:OL.toArray.all (·.oneCell')=true:=by rw[hOL];exact zcq rfl
  have hrK:=zal (hB0.kept g1 (by simp))
  have hiK:(Tryz.prog.info? 33).map (·.size)=some KB.length:=by rw[hKl];exact zat
  have hlt:=hS.lt
  have hlk:∀ V,W1.grownBy V (some (w.heap.size+1))→(Instr.lookup 85 (.map (some mb)) (.agg KB.toArray) false).run Tryz.prog V = .ok (.agg OL.toArray) V:=fun V hV=>by
   have:=hlk0 false V (by rw[hV.block mb h1.lt (by simp;omega),G1.block mb hlt (by simp)])
   rw[hOL,hKB]
   exact this
  have hns:some sb≠some (w.heap.size+1):=fun e=>by
   have:=hS.blk.lt
   cases e
   omega
  have h0:W1.grownBy W1.drew (some (w.heap.size+1)):=zak (zab _ _)
  have HW:=hide hW
  have HB4:=hide hB1.drew
  obtain ⟨HIK,HSO,HOO,HNS,HOL⟩:=zh5 hiK hSO hOO hns hOL
  have HG:Hid (w.grownBy (W1.drew.setRow (w.heap.size+1) OL.toArray) none):=zam (zak G1) _ (Or.inl (by omega))
  clear hW hW1 hW0 hB0 hB1 g0 g1 hs0 hKB hKl hiK h1 hlk0 hSO hOO hns hOL hlt G1 hk
  go_enter Tryz.func41,Tryz.ntmps41
  go_upto_region 3 with (first | (go_at_call 37;refine c1.mono ?_;rintro e w2 ⟨rfl,e2⟩;subst w2) | rw[← uh HW])
  refine wp_region_noPanic ?_
  refine wp_region_held_drew (S:=fun V=>W1.grownBy V (some (w.heap.size+1))) (by kernel_rfl) h0 (fun _ => ?_)
  refine tq 0 9 (.move (.tmp 0)) (.pointer (some ⟨sb,0,none⟩)) h0 ?_
  refine tq 1 10 (.nilCheck (.tmp 9)) (.pointer (some ⟨sb,0,none⟩)) h0 ?_
  refine tq 2 11 (.fieldAddr 88 (.tmp 10) 0) (.pointer (some ⟨sb,0,none⟩)) h0 ?_
  refine tz 3 12 (.load 85 (.tmp 11)) (.map (some mb)) h0 ?_ (y:=(Or.inl ⟨by rfl,fun V hV=>by (have hv1:=hV.cell hc (uh HNS);go_simp)⟩))
  (try simp only[pq])
  refine tz 4 13 (.load 33 (.tmp 3)) (.agg KB.toArray) h0 ?_ (y:=(yieldsIf_load_mid (by rfl) _ _ rfl _ _ rfl KB _ (fun V hV=>zaf hrK hV (by simp)) Tryz.underlying33 rfl (uh HIK)))
  refine tz 5 14 (.lookup 85 (.tmp 12) (.tmp 13) false) (.agg OL.toArray) h0 ?_ (y:=(Or.inl ⟨by rfl,fun V hV=>by (have hv9:=hlk V hV;go_simp)⟩))
  (try simp only[pq])
  refine rd 6 none (.store 42 (.tmp 4) (.tmp 14)) (fun K9 hK9 => ?_)
  rw[if_pos (by rfl)]
  refine wp_store_row _ _ _ rfl (w.heap.size+1) _ rfl rfl _ _ (uh HB4) (by rw[uh HSO];exact zav) (by rw[uh HSO];rfl) (uh HOO) ?_
  refine hK9.out _ _ (zam h0 _ (Or.inr rfl)) (fun _ => ?_)
  clear hK9 K9
  (try simp only[Act.put])
  refine wpAnyH_done (by kernel_rfl) ?_ _
  refine NoPanic.normal ?_
  clear hlk c1 hc hrK
  go_wp2
  refine bodyPost_ret (results_cell_row rfl _ _ _ _ _ _ _ rfl ((uh HB4).row OL) Tryz.underlying42 rfl (by rw[uh HSO];exact zav)) rfl ?_
  exact ⟨k,ao,c,d,by rw[uh HOL],hat,hd,uh HG⟩
 ·have c1:=hN W1 G1
  obtain ⟨HW,HB1⟩:=zh2 hW hB1
  have hls:AtS [] x 0 []:=Or.inr ⟨rfl,rfl,rfl⟩
  have HG:Hid (w.grownBy (W1.setRow (w.heap.size+1) #[.int .i64 0,.slice none 0 0]) none):=zam G1 _ (Or.inl (by omega))
  clear hW hW1 hW0 hB0 hB1 g0 g1 hs0 hKB hKl hN G1 hk
  go_enter Tryz.func41,Tryz.ntmps41
  go_wp2_with (first
   | (go_at_call 37;refine c1.mono ?_;rintro e w2 ⟨rfl,e2⟩;subst w2;clear c1)
   | (have hB9:=uh HB1;refine wpList_store_row rfl 42 _ _ rfl (w.heap.size+1) #[.int .i64 0,.slice none 0 0] rfl rfl _ _ hB9 zav rfl (zcq rfl) ?_;clear hB9)
   | rw[← uh HW])
  refine bodyPost_ret (results_cell_row rfl _ _ _ _ _ _ _ rfl ((uh HB1).row [.int .i64 0,.slice none 0 0]) Tryz.underlying42 rfl zav) rfl ?_
  exact ⟨0,none,0,[],rfl,hls,Dat.nil w,uh HG⟩
end Go.Proofs.YthhnfloohbdaiaaGreatDoor

/- Lemmas. -/
namespace Go.Proofs.YthhnfloohbdaiaaGreatDoor
open Go.RowKit
open Go.ChangeMaps (setBlock)
set_option maxRecDepth 100000
structure OverAt (w:World) (m r:Nat) (K:List (List UInt8 × Value)) (done:List (List UInt8)):Prop where
 is:∃ A clock seen,w.heap[m]? = some (.map A clock)∧w.heap[r]? = some (.mapIter (some m) clock seen clock)∧A.toList.map (fun e=>(e.key,e.val))=K.map (fun p=>(keyV p.1,p.2))∧(∀ e∈A.toList,e.born<clock)∧(A.toList.map (·.born)).Nodup∧(∀ e∈A.toList,∀ x,e.key=keyV x→(seen.contains e.born=true↔x∈done))
 once:(K.map (·.1)).Nodup
 wide:∀ p∈K,p.1.length=32
 nodup:done.Nodup
 inn:∀ x∈done,x∈K.map (·.1)
theorem OverAt.map {w:World} {m r:Nat} {K:List (List UInt8 × Value)} {done:List (List UInt8)} (h:OverAt w m r K done):MapAt w m K:=by
 obtain ⟨A,c,s,h1,h2,h3,h4,h5,h6⟩:=h.is
 exact ⟨⟨A,c,h1,h3,h4,h5⟩,h.once,h.wide⟩
theorem OverAt.lt {w:World} {m r:Nat} {K:List (List UInt8 × Value)} {done:List (List UInt8)} (h:OverAt w m r K done):r<w.heap.size:=by
 obtain ⟨A,c,s,h1,h2,h3⟩:=h.is
 exact (Array.getElem?_eq_some_iff.1 h2).1
theorem OverAt.kept {w a:World} {m r:Nat} {K:List (List UInt8 × Value)} {done:List (List UInt8)} {q:Option Nat} (h:OverAt w m r K done) (g:w.grownBy a q) (h1:some m≠q) (h2:some r≠q):OverAt a m r K done:=by
 have hm:=h.map.lt
 have hr:=h.lt
 obtain ⟨A,c,s,k1,k2,k3⟩:=h.is
 exact ⟨⟨A,c,s,by rw[g.block m hm h1];exact k1,by rw[g.block r hr h2];exact k2,k3⟩,h.once,h.wide,h.nodup,h.inn⟩
theorem OverAt.none {w a:World} {m r:Nat} {K:List (List UInt8 × Value)} {done:List (List UInt8)} (h:OverAt w m r K done) (g:w.grownBy a Option.none):OverAt a m r K done:=h.kept g (by simp) (by simp)
theorem OverAt.own {w:World} {m r base k n:Nat} {K:List (List UInt8 × Value)} {done:List (List UInt8)} {t:TypeId} {v:Value} {xs:List Value} (h:OverAt w m r K done) (ho:w.ownsRow base t k v n xs):some r≠v.ownBlock:=by
 obtain ⟨_,_,_,_,h,_⟩:=h.is
 rcases ho.2 with ⟨rfl,_⟩ | ⟨g,cap,cur,rfl,_,hh,_⟩
 ·intro e;cases e
 ·intro e
  have:r=g:=by simpa[Value.ownBlock] using e
  subst this
  rw[hh] at h
  cases h
theorem MapAt.over {w:World} {m:Nat} {K:List (List UInt8 × Value)} (h:MapAt w m K) (t e:TypeId) (ht:Tryz.prog.underlying t=some (.map 33 e)) :
  ∃ W,(Instr.range t (.map (some m))).run Tryz.prog w = .ok (.pointer (some ⟨w.heap.size,0,Option.none⟩)) W∧OverAt W m w.heap.size K []∧w.grownBy W Option.none:=by
 obtain ⟨A,c,h1,h2,h3,h4⟩:=h.is
 have hlt:=h.lt
 refine ⟨_,run_range_map w t _ e m A c ht h1,⟨⟨A,c,#[],?_,heap_alloc_new w _,h2,h3,h4,fun e _ x _=>by simp⟩,h.once,h.wide,by simp,by simp⟩,zah (zab _ _) _⟩
 rw[heap_alloc_old w _ hlt]
 exact h1
theorem OverAt.next {w:World} {m r:Nat} {K:List (List UInt8 × Value)} {done:List (List UInt8)} (h:OverAt w m r K done) (ty:TypeId) :
  ((∀ x∈K.map (·.1),x∈done)∧(Instr.next (.pointer (some ⟨r,0,Option.none⟩)) false ty).run Tryz.prog w = .ok (.tuple #[.bool false]) w) ∨
   ∃ x v w2,(x,v)∈K∧x∉done∧(Instr.next (.pointer (some ⟨r,0,Option.none⟩)) false ty).run Tryz.prog w = .ok (.tuple #[.bool true,keyV x,v]) w2∧OverAt w2 m r K (done++[x])∧(Instr.entry (.pointer (some ⟨r,0,Option.none⟩))).run Tryz.prog w2 = .ok (.tuple #[keyV x,v]) w2∧w.grownBy w2 (some r)∧w2.heap.size=w.heap.size:=by
 have hrl:=h.lt
 obtain ⟨A,c,s,h1,h2,h3,h4,h5,h6⟩:=h.is
 have hmem:∀ e∈A.toList,∃ x v,(x,v)∈K∧e.key=keyV x∧e.val=v:=fun e he=>by
  have:(e.key,e.val)∈A.toList.map (fun e=>(e.key,e.val)):=List.mem_map.2 ⟨e,he,rfl⟩
  rw[h3] at this
  obtain ⟨p,hp,hpe⟩:=List.mem_map.1 this
  simp only[Prod.mk.injEq] at hpe
  exact ⟨p.1,p.2,hp,hpe.1.symm,hpe.2.symm⟩
 rcases run_next_at (P:=Tryz.prog) w ty r m c c s A c h2 h1 h4 (Nat.le_refl _) with ⟨hl,hr⟩ | ⟨e,he,w1,hw1,hr⟩
 ·refine Or.inl ⟨fun x hx => ?_,hr⟩
  obtain ⟨p,hp,rfl⟩:=List.mem_map.1 hx
  have:(keyV p.1,p.2)∈K.map (fun p=>(keyV p.1,p.2)):=List.mem_map.2 ⟨p,hp,rfl⟩
  rw[← h3] at this
  obtain ⟨e,he,hek⟩:=List.mem_map.1 this
  simp only[Prod.mk.injEq] at hek
  refine (h6 e he p.1 hek.1).1 ?_
  cases hs:s.contains e.born with
  | true=>rfl
  | false =>
   exfalso
   have hin:e∈(leftOf A s).toList:=by
    unfold leftOf
    have:e∈A:=by simpa using he
    simp[this]
    simpa using hs
   have:(leftOf A s).toList.length=0:=by simpa using hl
   rw[List.length_eq_zero_iff] at this
   rw[this] at hin
   simp at hin
 ·have heA:e∈A.toList∧s.contains e.born=false:=by
   unfold leftOf at he
   have he2:e∈A∧e.born∉s:=by simpa using he
   exact ⟨by simpa using he2.1,by simpa using he2.2⟩
  obtain ⟨x,v,hxv,hek,hev⟩:=hmem e heA.1
  have hxd:x∉done:=fun hx=>by
   have:=(h6 e heA.1 x hek).2 hx
   rw[heA.2] at this
   cases this
  have hnm:m≠r:=by
   rintro rfl
   rw[h1] at h2
   cases h2
  have hb:∀ o:Obj,(setBlock w1 r o).heap[r]? = some o∧(setBlock w1 r o).heap[m]? = w.heap[m]? ∧ w.grownBy (setBlock w1 r o) (some r)∧(setBlock w1 r o).heap.size=w.heap.size:=fun o=>by
   have hh:w1.heap=w.heap:=by rcases hw1 with rfl | rfl <;> rfl
   refine ⟨?_,?_,⟨?_,?_,?_,?_,fun k hk hne => ?_⟩,?_⟩
   ·simp[setBlock,hh,hrl]
   ·simp[setBlock,hh,Ne.symm hnm]
   ·rcases hw1 with rfl | rfl <;> rfl
   ·rcases hw1 with rfl | rfl <;> rfl
   ·rcases hw1 with rfl | rfl <;> rfl
   ·simp[setBlock,hh]
   ·have:r≠k:=fun e=>hne (by rw[e])
    simp[setBlock,hh,this]
   ·simp[setBlock,hh]
  obtain ⟨q1,q2,q3,q4⟩:=hb (.mapIter (some m) c (s.push e.born) c)
  refine Or.inr ⟨x,v,_,hxv,hxd,by rw[hek,hev] at hr;exact hr,⟨⟨A,c,s.push e.born,by rw[q2];exact h1,q1,h3,h4,h5,fun e' he' x' hk' => ?_⟩,h.once,h.wide,?_,?_⟩,?_,q3,q4⟩
  ·rw[Array.contains_push,Bool.or_eq_true,h6 e' he' x' hk',List.mem_append,List.mem_singleton]
   constructor
   ·rintro (h7 | h7)
    ·exact Or.inl h7
    ·right
     have h8:e'.born=e.born:=by simpa using h7
     have h9:=zek h5 he' heA.1 h8
     rw[h9,hek] at hk'
     exact (zn7 hk').symm
   ·rintro (h7 | rfl)
    ·exact Or.inl h7
    ·right
     have:e'=e:=by
      have hk2:(A.toList.map (·.key)).Nodup:=by
       have e1:A.toList.map (·.key)=(K.map (·.1)).map keyV:=by
        have:=congrArg (List.map Prod.fst) h3
        rw[List.map_map,List.map_map] at this
        rw[List.map_map]
        exact this
       rw[e1]
       exact List.Pairwise.map _ (fun a b hne he=>hne (zn7 he)) h.once
      exact zek hk2 he' heA.1 (by rw[hk',hek])
     rw[this]
     simp
  ·exact List.nodup_append.2 ⟨h.nodup,by simp,fun a ha b hb=>by
    rw[List.mem_singleton.1 hb]
    rintro rfl
    exact hxd ha⟩
  ·intro y hy
   rcases List.mem_append.1 hy with hy | hy
   ·exact h.inn y hy
   ·rw[List.mem_singleton.1 hy]
    exact List.mem_map.2 ⟨_,hxv,rfl⟩
  ·have:=run_entry_at (P:=Tryz.prog) (setBlock w1 r (.mapIter (some m) c (s.push e.born) c)) r m c s A c e q1 (by rw[q2];exact h1) heA.1 h5
   rw[hek,hev] at this
   exact this
end Go.Proofs.YthhnfloohbdaiaaGreatDoor
