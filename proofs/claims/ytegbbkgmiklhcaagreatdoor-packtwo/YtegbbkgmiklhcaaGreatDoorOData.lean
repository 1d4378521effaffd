/- Lemmas. -/
import Derived.Test.YtegbbkgmiklhcaaGreatDoorListD
import Derived.Test.YtegbbkgmiklhcaaGreatDoorNLet
import Derived.Test.YtegbbkgmiklhcaaGreatDoorNLess
import Derived.Deep.MidRow
import Derived.Laws.AppendOwnNone
namespace Go.Proofs.YtegbbkgmiklhcaaGreatDoor
open Go.RowKit
structure EntL where
 name:List UInt8
 dir:Bool
 id:List UInt8
deriving Inhabited,DecidableEq
structure ChgL where
 tree:List UInt8
 pars:List (List UInt8)
 time:Nat
 author:List UInt8
 text:List UInt8
deriving Inhabited,DecidableEq
structure MrkL where
 target:List UInt8
 name:List UInt8
 text:List UInt8
deriving Inhabited,DecidableEq
def dirN (b:Bool):Nat:=if b then 1 else 0
def entB (e:EntL):List UInt8:=lb (dirN e.dir) 1++layS e.name++e.id
def zj8 (es:List EntL):List UInt8:=lb es.length 2++es.flatMap entB
def chgB (c:ChgL):List UInt8:=c.tree++lb c.pars.length 1++c.pars.flatten++lb c.time 8++layS c.author++layS c.text
def mrkB (m:MrkL):List UInt8:=m.target++layS m.name++layS m.text
def zfb (es:List EntL) (i:Nat):Bool:=zcj (es.getD i default).name && (decide (i=0) || za5 (es.getD (i - 1) default).name (es.getD i default).name)
def zcx (es:List EntL) (n:Nat):Bool:=(List.range n).all (zfb es)
def zhe (ps:List (List UInt8)) (i:Nat):Bool := !((ps.take i).contains (ps.getD i []))
def zel (ps:List (List UInt8)) (n:Nat):Bool:=(List.range n).all (zhe ps)
def fitB (d:List UInt8):Int × List UInt8:=if 16384<d.length then (3,[]) else (0,d)
def zbr (es:List EntL):Int × List UInt8:=if 32<es.length then (3,[]) else if zcx es es.length=true then fitB (zj8 es) else (2,[])
def zc6 (c:ChgL):Int × List UInt8:=if 4<c.pars.length then (3,[]) else if zel c.pars c.pars.length=true then fitB (chgB c) else (2,[])
def zdn (m:MrkL):Int × List UInt8:=if zgm m.name=2 then fitB (mrkB m) else (2,[])
theorem zfc (es:List EntL) (n:Nat):zcx es (n+1)=(zcx es n && zfb es n):=by
 simp[zcx,List.range_succ]
theorem zib (ps:List (List UInt8)) (n:Nat):zel ps (n+1)=(zel ps n && zhe ps n):=by
 simp[zel,List.range_succ]
theorem zic {f:Nat→Bool} {n i:Nat} (h:i<n) (hf:f i=false):(List.range n).all f=false:=by
 rw[List.all_eq_false]
 exact ⟨i,List.mem_range.2 h,by simp[hf]⟩
def zb1 (x:List UInt8):List UInt8:=x++List.replicate (32 - x.length) 0
def zj9 (p:List EntL × List UInt8 × Int):List EntL × List UInt8 × Int :=
 let a:=numS p.2.1 p.2.2 1
 let b:=zak a.2.1 a.2.2
 let c:=rawS b.2.1 b.2.2 32
 (p.1++[⟨b.1,decide (a.1=1),zb1 c.1⟩],c.2)
def runE (s:List UInt8 × Int):Nat→List EntL × List UInt8 × Int
 | 0=>([],s)
 | n+1=>zj9 (runE s n)
def zlt (p:List (List UInt8) × List UInt8 × Int):List (List UInt8) × List UInt8 × Int :=
 let c:=rawS p.2.1 p.2.2 32
 (p.1++[zb1 c.1],c.2)
def runP (s:List UInt8 × Int):Nat→List (List UInt8) × List UInt8 × Int
 | 0=>([],s)
 | n+1=>zlt (runP s n)
def zb6 (d:List UInt8):List EntL:=let a:=numS d 0 2;(runE a.2 (min a.1 32)).1
def zbi (d:List UInt8):ChgL :=
 let t:=rawS d 0 32
 let n:=numS t.2.1 t.2.2 1
 let p:=runP n.2 (min n.1 4)
 let m:=numS p.2.1 p.2.2 8
 let a:=zak m.2.1 m.2.2
 let x:=zak a.2.1 a.2.2
 ⟨zb1 t.1,p.1,m.1,a.1,x.1⟩
def zb2 (d:List UInt8):MrkL :=
 let t:=rawS d 0 32
 let a:=zak t.2.1 t.2.2
 let x:=zak a.2.1 a.2.2
 ⟨zb1 t.1,a.1,x.1⟩
def zfd (d:List UInt8):Option (List EntL):=if zbr (zb6 d)=(0,d) then some (zb6 d) else none
def zhf (d:List UInt8):Option ChgL:=if zc6 (zbi d)=(0,d) then some (zbi d) else none
def zid (d:List UInt8):Option MrkL:=if zdn (zb2 d)=(0,d) then some (zb2 d) else none
def errO {α:Type} (o:Option α):Int:=if o.isSome then 0 else 11
def zar (k:Int) (d:List UInt8):Int :=
 if k<1∨4<k then 2 else if 16384<d.length then 3 else if k=2 then errO (zfd d) else if k=3 then errO (zhf d) else if k=4 then errO (zid d) else 0
def zb8 (k:Int) (d:List UInt8):List (List UInt8) :=
 if zar k d≠0 then [] else if k=2 then ((zfd d).getD []).map (·.id) else if k=3 then ((zhf d).getD default).tree::((zhf d).getD default).pars else if k=4 then [((zid d).getD default).target] else []
def putL (k:Int) (d:List UInt8):List UInt8:=[UInt8.ofInt k]++layS d
theorem zlu (v:Nat) (h:v<256) (m:List UInt8):numS (lb v 1++m) 0 1=(v,m,0):=by
 have hnb:nb 1=1:=by decide
 have hl:=zbp v 1
 unfold numS
 rw[if_pos rfl,hnb,if_neg (by rw[List.length_append];omega),List.take_append_of_le_length (by omega),List.take_of_length_le (by omega),zpf,Nat.mod_eq_of_lt (by omega),List.drop_append_of_le_length (by omega),List.drop_of_length_le (by omega)]
 rfl
theorem zfe (x:List UInt8) (h:x.length≤32):(zb1 x).length=32:=by simp[zb1];omega
theorem zlv (l:List UInt8) (e:Int) (n:Nat):(rawS l e (n:Int)).1.length≤n:=by
 unfold rawS
 repeat' split
 all_goals simp
 omega
theorem zbj (l:List UInt8) (e:Int):(zb1 (rawS l e 32).1).length=32:=zfe _ (zlv l e 32)
theorem zcg (l:List UInt8) (e n:Int):(rawS l e n).2.1.length≤l.length:=by
 unfold rawS
 repeat' split
 all_goals simp
theorem zco (l:List UInt8) (e:Int):(zak l e).1.length≤l.length:=by
 unfold zak
 repeat' split
 all_goals simp
 omega
def EntL.Ok (e:EntL):Prop:=e.id.length=32∧e.name.length≤65536
def ChgL.Ok (c:ChgL):Prop:=c.tree.length=32∧(∀ x∈c.pars,x.length=32)∧c.time<18446744073709551616∧c.author.length≤65536∧c.text.length≤65536
def MrkL.Ok (m:MrkL):Prop:=m.target.length=32∧m.name.length≤65536∧m.text.length≤65536
def enC (e:EntL):List Value := .string (str e.name) :: .bool e.dir::e.id.map bv
def chC (c:ChgL) (po:Option Addr) (pc:Nat):List Value:=c.tree.map bv++[.slice po c.pars.length pc,.int .u64 (c.time:Int),.string (str c.author),.string (str c.text)]
def mkC (m:MrkL):List Value:=m.target.map bv++[.string (str m.name),.string (str m.text)]
theorem zeb (e:EntL) (h:e.id.length=32):(enC e).length=34:=by simp[enC,h]
theorem zgn (c:ChgL) (po:Option Addr) (pc:Nat) (h:c.tree.length=32):(chC c po pc).length=36:=by simp[chC,h]
theorem zie (m:MrkL) (h:m.target.length=32):(mkC m).length=34:=by simp[mkC,h]
theorem zff (e:EntL):∀ u∈enC e,u.oneCell'=true:=by
 intro u hu
 simp only[enC,List.mem_cons] at hu
 rcases hu with rfl | rfl | hu
 ·rfl
 ·rfl
 ·exact zaw _ u hu
theorem zgo (c:ChgL) (po:Option Addr) (pc:Nat):∀ u∈chC c po pc,u.oneCell'=true:=by
 intro u hu
 simp only[chC,List.mem_append,List.mem_cons,List.not_mem_nil,or_false] at hu
 rcases hu with hu | rfl | rfl | rfl | rfl
 ·exact zaw _ u hu
 all_goals rfl
theorem zgp (m:MrkL):∀ u∈mkC m,u.oneCell'=true:=by
 intro u hu
 simp only[mkC,List.mem_append,List.mem_cons,List.not_mem_nil,or_false] at hu
 rcases hu with hu | rfl | rfl
 ·exact zaw _ u hu
 all_goals rfl
theorem zjb (c:ChgL) (po:Option Addr) (pc:Nat) (h:c.tree.length=32):(chC c po pc)[32]? = some (.slice po c.pars.length pc)∧(chC c po pc)[33]? = some (.int .u64 (c.time:Int))∧(chC c po pc)[34]? = some (.string (str c.author))∧(chC c po pc)[35]? = some (.string (str c.text)):=by
 have hl:(c.tree.map bv).length=32:=by simp[h]
 unfold chC
 refine ⟨?_,?_,?_,?_⟩ <;> rw[List.getElem?_append_right (by omega),hl] <;> rfl
theorem zqi (m:MrkL) (h:m.target.length=32):(mkC m)[32]? = some (.string (str m.name))∧(mkC m)[33]? = some (.string (str m.text)):=by
 have hl:(m.target.map bv).length=32:=by simp[h]
 unfold mkC
 refine ⟨?_,?_⟩ <;> rw[List.getElem?_append_right (by omega),hl] <;> rfl
theorem zgq:(Tryz.prog.info? 154).map (·.size)=some 34:=by kernel_rfl
theorem zam:(Tryz.prog.info? 42).map (·.size)=some 2:=by kernel_rfl
theorem zbs:(Tryz.prog.info? 156).map (·.size)=some 36:=by kernel_rfl
theorem zex:(Tryz.prog.info? 160).map (·.size)=some 34:=by kernel_rfl
theorem zax:(Tryz.prog.info? 47).map (·.size)=some 32:=by kernel_rfl
structure Ens (w:World) (ao:Option Addr) (c:Nat) (es:List EntL):Prop where
 zip:ao=none→es.length=0∧c=0
 fits:es.length≤c
 most:c≤maxLen
 shape:∀ ad,ao=some ad→0<es.length→ad.spot=none
 row:∀ ad,ao=some ad→∀ i (h:i<es.length),w.rangeAt ad.block (ad.off+i*34) (enC es[i])
 ids:∀ e∈es,e.id.length=32
structure Ids (w:World) (ao:Option Addr) (c:Nat) (ps:List (List UInt8)):Prop where
 zip:ao=none→ps.length=0∧c=0
 fits:ps.length≤c
 most:c≤maxLen
 shape:∀ ad,ao=some ad→0<ps.length→ad.spot=none
 row:∀ ad,ao=some ad→∀ i (h:i<ps.length),w.rangeAt ad.block (ad.off+i*32) (ps[i].map bv)
 ids:∀ x∈ps,x.length=32
theorem Ens.nil (w:World):Ens w none 0 []:=⟨fun _=>⟨rfl,rfl⟩,Nat.le_refl _,Nat.zero_le _,(fun _ e=>by cases e),(fun _ e=>by cases e),(fun _ h=>by simp at h)⟩
theorem Ids.nil (w:World):Ids w none 0 []:=⟨fun _=>⟨rfl,rfl⟩,Nat.le_refl _,Nat.zero_le _,(fun _ e=>by cases e),(fun _ e=>by cases e),(fun _ h=>by simp at h)⟩
theorem Ens.kept {w a:World} {ao:Option Addr} {c:Nat} {es:List EntL} {r:Option Nat} (h:Ens w ao c es) (g:w.grownBy a r) (hr:∀ x,r=some x→Off ao x):Ens a ao c es :=
 ⟨h.zip,h.fits,h.most,h.shape,fun ad e i hi=>zad (h.row ad e i hi) g (fun e2=>hr _ e2.symm ad e rfl),h.ids⟩
theorem Ids.kept {w a:World} {ao:Option Addr} {c:Nat} {ps:List (List UInt8)} {r:Option Nat} (h:Ids w ao c ps) (g:w.grownBy a r) (hr:∀ x,r=some x→Off ao x):Ids a ao c ps :=
 ⟨h.zip,h.fits,h.most,h.shape,fun ad e i hi=>zad (h.row ad e i hi) g (fun e2=>hr _ e2.symm ad e rfl),h.ids⟩
theorem Ens.none {w a:World} {ao:Option Addr} {c:Nat} {es:List EntL} (h:Ens w ao c es) (g:w.grownBy a Option.none):Ens a ao c es:=h.kept g (fun _ e=>by cases e)
theorem Ids.none {w a:World} {ao:Option Addr} {c:Nat} {ps:List (List UInt8)} (h:Ids w ao c ps) (g:w.grownBy a Option.none):Ids a ao c ps:=h.kept g (fun _ e=>by cases e)
theorem Ens.at {w:World} {ao:Option Addr} {c:Nat} {es:List EntL} (h:Ens w ao c es) (i:Nat) (hi:i<es.length):∃ b o,ao=some ⟨b,o,Option.none⟩∧∀ k (hk:k<es.length),w.rangeAt b (o+k*34) (enC es[k]):=by
 obtain ⟨ad,had⟩:∃ ad,ao=some ad:=by
  cases ao with
  | none=>have:=(h.zip rfl).1;omega
  | some ad=>exact ⟨ad,rfl⟩
 have hs:=h.shape ad had (by omega)
 have h0:=h.row ad had
 obtain ⟨b,o,s⟩:=ad
 simp only at hs h0
 subst hs
 exact ⟨b,o,had,h0⟩
theorem Ids.at {w:World} {ao:Option Addr} {c:Nat} {ps:List (List UInt8)} (h:Ids w ao c ps) (i:Nat) (hi:i<ps.length):∃ b o,ao=some ⟨b,o,Option.none⟩∧∀ k (hk:k<ps.length),w.rangeAt b (o+k*32) (ps[k].map bv):=by
 obtain ⟨ad,had⟩:∃ ad,ao=some ad:=by
  cases ao with
  | none=>have:=(h.zip rfl).1;omega
  | some ad=>exact ⟨ad,rfl⟩
 have hs:=h.shape ad had (by omega)
 have h0:=h.row ad had
 obtain ⟨b,o,s⟩:=ad
 simp only at hs h0
 subst hs
 exact ⟨b,o,had,h0⟩
theorem Ids.take {w:World} {ao:Option Addr} {c:Nat} {ps:List (List UInt8)} (h:Ids w ao c ps) (n:Nat) (hn:n≤ps.length):Ids w ao c (ps.take n):=by
 refine ⟨(fun e => ?_),?_,h.most,(fun ad e hp=>h.shape ad e (by simp at hp;omega)),(fun ad e i hi => ?_),(fun x hx=>h.ids x (List.mem_of_mem_take hx))⟩
 ·have:=h.zip e
  exact ⟨by simp;omega,this.2⟩
 ·have:=h.fits;simp;omega
 ·have hi' : i<ps.length:=by simp at hi;omega
  have:=h.row ad e i hi'
  simpa using this
theorem Ens.own {w:World} {base:Nat} {v:Value} {es:List EntL} (h:w.ownsRow base 154 34 v es.length (es.flatMap enC)) (hi:∀ e∈es,e.id.length=32):∃ ao c,v = .slice ao es.length c∧Ens w ao c es:=by
 obtain ⟨ao,c,h1,h2,h3,h4,h5,h6⟩:=zde enC 34 h (fun x hx=>zeb x (hi x hx))
 exact ⟨ao,c,h1,h2,h3,h4,fun ad e _=>(h5 ad e).1,h6,hi⟩
theorem Ids.own {w:World} {base:Nat} {v:Value} {ps:List (List UInt8)} (h:w.ownsRow base 47 32 v ps.length (ps.flatMap (·.map bv))) (hi:∀ x∈ps,x.length=32):∃ ao c,v = .slice ao ps.length c∧Ids w ao c ps:=by
 obtain ⟨ao,c,h1,h2,h3,h4,h5,h6⟩:=zde (fun x:List UInt8=>x.map bv) 32 h (fun x hx=>by simp[hi x hx])
 exact ⟨ao,c,h1,h2,h3,h4,fun ad e _=>(h5 ad e).1,h6,hi⟩
theorem zc7 {w:World} {b o:Nat} {l:List UInt8} (h:w.rangeAt b o (l.map bv)) (hm:l.length≤maxLen):Bts w (some ⟨b,o,none⟩) l.length l:=by
 refine ⟨(fun e=>by cases e),Nat.le_refl _,hm,(fun ad e _=>by cases e;rfl),(fun ad e i hi => ?_)⟩
 cases e
 exact h i _ (by simp[bv,hi])
theorem zcb (b o:Nat) (W:World):(Instr.sliceAt 47 (.pointer (some ⟨b,o,none⟩)) none none none).run Tryz.prog W = .ok (.slice (some ⟨b,o,none⟩) 32 32) W:=by
 have ea:Tryz.prog.arrayLen 47=32:=by simp[Program.arrayLen,Tryz.underlying47]
 have ee:Tryz.prog.elem 47=5:=by simp[Program.elem,Tryz.underlying47]
 rw[run_sliceAt_array_all W 47 ⟨b,o,none⟩ (by rw[ea,ee];exact Tryz.underlying47),ea,ee,zau]
 simp only[Result.andThen_ok,slicedAt,Nat.zero_mul,Nat.sub_zero]
 rw[if_neg (by omega),Addr.add_mid]
 rfl
theorem zbx {w:World} {base n k x:Nat} {t:TypeId} {v:Value} {xs:List Value} (h:w.ownsRow base t k v n xs) (e:v.ownBlock=some x) (ht:t≠5):¬ Typ w x:=by
 rcases h.2 with ⟨rfl,_⟩ | ⟨g,cap,cur,rfl,_,hh,_⟩
 ·cases e
 ·have:g=x:=by simpa[Value.ownBlock] using e
  subst this
  rintro ⟨cur2,m2,h2⟩
  rw[hh] at h2
  injection h2 with h3
  injection h3 with _ h4
  exact ht h4
theorem zbg (w:World) (t:TypeId) (Z:Array Value) (cs:List Value):∃ W,W=(w.alloc (.cells Z t)).setRow w.heap.size cs.toArray∧Blk W w.heap.size t cs∧w.grownBy W none :=
 ⟨_,rfl,by
  have h:Blk (w.alloc (.cells Z t)) w.heap.size t Z.toList:=by simpa using Blk.new w t Z.toList
  exact h.row cs,zaq (zai (zab _ _) _) _ (Or.inl (Nat.le_refl _))⟩
theorem zah (w:World) (t:TypeId) (cs:List Value):∃ W,W=w.alloc (.cells cs.toArray t)∧Blk W w.heap.size t cs∧w.grownBy W none :=
 ⟨_,rfl,Blk.new w t cs,zai (zab _ _) _⟩
theorem zqj {w:World} {b o:Nat} {e:EntL} (h:w.rangeAt b o (enC e)):w.rangeAt b (o+2) (e.id.map bv):=by
 intro j v hv
 rw[show o+2+j=o+(j+2) by omega]
 exact h (j+2) v (by simpa[enC] using hv)
theorem zgr {w:World} {b o:Nat} {c:ChgL} {po:Option Addr} {pc:Nat} (h:w.rangeAt b o (chC c po pc)):w.rangeAt b o (c.tree.map bv):=by
 intro j v hv
 refine h j v ?_
 unfold chC
 rw[List.getElem?_append_left (List.getElem?_eq_some_iff.1 hv).1]
 exact hv
theorem zhg {w:World} {b o:Nat} {m:MrkL} (h:w.rangeAt b o (mkC m)):w.rangeAt b o (m.target.map bv):=by
 intro j v hv
 refine h j v ?_
 unfold mkC
 rw[List.getElem?_append_left (List.getElem?_eq_some_iff.1 hv).1]
 exact hv
theorem zal {w:World} {b:Nat} {t:TypeId} {vs:List Value} (h:Blk w b t vs):w.rangeAt b 0 vs:=by
 have:Blk w b t ([]++(vs++[])):=by simpa using h
 exact this.range
theorem zgs:∃ Z:Array Value,Z.size=34∧∀ w,(zeroValue 154).run Tryz.prog w = .ok (.agg Z) w:=⟨_,rfl,fun w=>(by kernel_rfl:(zeroValue 154).run Tryz.prog w = .ok (.agg (enC ⟨[],false,List.replicate 32 0⟩).toArray) w)⟩
theorem zc8:∃ Z:Array Value,Z.size=32∧∀ w,(zeroValue 47).run Tryz.prog w = .ok (.agg Z) w:=⟨_,rfl,fun w=>(by kernel_rfl:(zeroValue 47).run Tryz.prog w = .ok (.agg ((List.replicate 32 (0:UInt8)).map bv).toArray) w)⟩
theorem zka (w:World) (k:Int) (ao:Option Addr) (c:Nat) (d:List UInt8) :
  Calls Tryz.prog 137 #[.int .i64 k,.slice ao d.length c] w fun e w'=>e = .returned (.tuple #[.agg #[.int .i64 (if (fitB d).1=0 then k else 0),(if (fitB d).1=0 then .slice ao d.length c else .slice none 0 0)],.int .i64 (fitB d).1])∧w.grownBy w' none:=by
 by_cases h:16384<d.length
 ·have e1:fitB d=(3,[]):=by simp[fitB,h]
  rw[e1]
  go_enter Tryz.func137,Tryz.ntmps137
  go_wp2
  exact bodyPost_ret (v := .tuple #[.agg #[.int .i64 0,.slice none 0 0],.int .i64 3]) (by simp[results,Tryz.results137,go_sem]) rfl ⟨rfl,zai (zab _ _) _⟩
 ·have e1:fitB d=(0,d):=by simp[fitB,h]
  rw[e1]
  go_enter Tryz.func137,Tryz.ntmps137
  go_wp2
  exact bodyPost_ret (v := .tuple #[.agg #[.int .i64 k,.slice ao d.length c],.int .i64 0]) (by simp[results,Tryz.results137,go_sem]) rfl ⟨rfl,zai (zab _ _) _⟩
theorem zkb (w:World) (ao bo:Option Addr) (c d:Nat) (l x:List UInt8) (hb:Bts w ao c l) (hx:Bts w bo d x) :
  Calls Tryz.prog 35 #[.slice ao l.length c,.slice bo x.length d] w fun e w'=>e = .returned (.bool (decide (l=x)))∧w'=w:=by
 have c1:=za6 hb
 have c2:=za6 hx
 obtain ⟨A,hA⟩:∃ A,A=str l:=⟨_,rfl⟩
 obtain ⟨B,hB⟩:∃ A,A=str x:=⟨_,rfl⟩
 obtain ⟨n,hn⟩:∃ n,n=l.length:=⟨_,rfl⟩
 obtain ⟨m,hm⟩:∃ n,n=x.length:=⟨_,rfl⟩
 rw[← hA,← hn] at c1
 rw[← hB,← hm] at c2
 rw[← hn,← hm]
 have hE:A.toList=l:=by rw[hA,zct]
 have hF:B.toList=x:=by rw[hB,zct]
 clear hA hB hn hm hb hx
 by_cases h:l=x
 ·have hT:decide (l=x)=true:=decide_eq_true h
  rw[hT]
  subst h
  go_enter Tryz.func35,Tryz.ntmps35
  go_wp2
  go_ret
  exact ⟨rfl,rfl⟩
 ·have hT:decide (l=x)=false:=decide_eq_false h
  have hT2:(l == x)=false:=by simpa using h
  rw[hT]
  go_enter Tryz.func35,Tryz.ntmps35
  go_wp2
  go_ret
  exact ⟨rfl,rfl⟩
theorem zgt (w:World) (k m:Int) (ao bo:Option Addr) (c d:Nat) (l x:List UInt8) (hb:Bts w ao c l) (hx:Bts w bo d x) :
  Calls Tryz.prog 19 #[.agg #[.int .i64 k,.slice ao l.length c],.agg #[.int .i64 m,.slice bo x.length d]] w fun e w'=>e = .returned (.bool (decide (k=m∧l=x)))∧w.grownBy w' none:=by
 obtain ⟨n1,hn1⟩:∃ n,n=l.length:=⟨_,rfl⟩
 obtain ⟨n2,hn2⟩:∃ n,n=x.length:=⟨_,rfl⟩
 have g0:w.grownBy ((w.alloc (.cells #[.int .i64 k,.slice ao n1 c] 42)).alloc (.cells #[.int .i64 m,.slice bo n2 d] 42)) none:=zai (zai (zab _ _) _) _
 have ce:=zkb _ ao bo c d l x (hb.kept g0 (fun _ e=>by cases e)) (hx.kept g0 (fun _ e=>by cases e))
 rw[← hn1,← hn2] at ce ⊢
 clear hn1 hn2 hb hx
 by_cases h:k=m
 ·subst h
  have hd:decide (k=k∧l=x)=decide (l=x):=by simp
  rw[hd]
  obtain ⟨B,hB⟩:∃ B,B=decide (l=x):=⟨_,rfl⟩
  rw[← hB] at ce ⊢
  clear hB hd
  go_enter Tryz.func19,Tryz.ntmps19
  go_wp2_with (go_at_call 35;refine ce.mono ?_;rintro e w1 ⟨rfl,hw1⟩;subst w1;clear ce)
  go_ret
  exact ⟨rfl,g0⟩
 ·have hd:decide (k=m∧l=x)=false:=by simp[h]
  have h2:(k == m)=false:=by simpa using h
  rw[hd]
  clear ce hd
  go_enter Tryz.func19,Tryz.ntmps19
  go_wp2
  go_ret
  exact ⟨rfl,g0⟩
end Go.Proofs.YtegbbkgmiklhcaaGreatDoor
