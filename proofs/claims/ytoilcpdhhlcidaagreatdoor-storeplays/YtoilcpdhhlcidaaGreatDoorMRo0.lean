/- Lemmas. -/
import Derived.Test.YtoilcpdhhlcidaaGreatDoorDFrs
import Derived.Deep.MidRow
import Derived.Deep.RegionHeld3
import Derived.Laws.BitsAllLaws
import Derived.Deep.AppendLies
namespace Go.Proofs.YtoilcpdhhlcidaaGreatDoor
open Go.RowKit
theorem zfv {P:Program} (t e:TypeId) (n:Nat) (cs:List Value) (i:Nat) (v:Value) (hu:P.underlying t=some (.array n e)) (hz:∀ w,(Go.sizeOf e).run P w = .ok 1 w) (ha:∀ w,(isAgg e).run P w = .ok false w)
  (hi:i<n) (hv:cs[i]? = some v) (w:World):(Instr.index t (.agg cs.toArray) (.int .i64 (i:Int))).run P w = .ok v w:=by
 simp only[Instr.index,asIntOf,Sem.run_bind,Sem.run_pure,Result.andThen_ok,run_underlying hu]
 rw[if_pos (by omega)]
 simp[part,hz,ha,hv]
def Blk (w:World) (b:Nat) (t:TypeId) (cs:List Value):Prop:=w.heap[b]? = some (.cells cs.toArray t (0,0))
theorem Blk.lt {w:World} {b:Nat} {t:TypeId} {cs:List Value} (h:Blk w b t cs):b<w.heap.size:=(Array.getElem?_eq_some_iff.1 h).1
theorem Blk.cell {w:World} {b:Nat} {t:TypeId} {cs:List Value} (h:Blk w b t cs) (j:Nat):w.cell? ⟨b,j,none⟩=cs[j]? := by
 rw[cell_of_row w b j _ t _ h];simp
theorem Blk.fz {w:World} {b:Nat} {t:TypeId} {cs:List Value} (h:Blk w b t cs) (o:Nat):w.frozen? ⟨b,o,none⟩=false:=by
 unfold Blk at h;simp[World.frozen?,h]
theorem Blk.kept {w a:World} {b:Nat} {t:TypeId} {cs:List Value} {r:Option Nat} (h:Blk w b t cs) (g:w.grownBy a r) (hr:some b≠r):Blk a b t cs:=by
 unfold Blk;rw[g.block b h.lt hr];exact h
theorem Blk.alloc {w:World} {b:Nat} {t:TypeId} {cs:List Value} (h:Blk w b t cs) (o:Obj):Blk (w.alloc o) b t cs:=h.kept (World.grownBy_alloc w o none) (by simp)
theorem Blk.new (w:World) (t:TypeId) (cs:List Value):Blk (w.alloc (.cells cs.toArray t)) w.heap.size t cs:=heap_alloc_new w _
theorem Blk.set {w:World} {b:Nat} {t:TypeId} {cs:List Value} (h:Blk w b t cs) (j:Nat) (v:Value):Blk (w.setCell ⟨b,j,none⟩ v) b t (cs.set j v):=by
 unfold Blk at h ⊢
 simp[World.setCell,Array.getElem?_modify,h]
theorem Blk.other {w:World} {b:Nat} {t:TypeId} {cs:List Value} (h:Blk w b t cs) (p:Addr) (v:Value) (hp:p.block≠b):Blk (w.setCell p v) b t cs:=by
 unfold Blk at h ⊢
 rw[heap_setCell_other w p b v (fun e=>hp e.symm)];exact h
theorem Blk.there {w:World} {b:Nat} {t:TypeId} {cs:List Value} (h:Blk w b t cs) (o n:Nat) (hn:o+n≤cs.length):∀ j,j<n→(w.cell? ⟨b,o+j,none⟩).isSome=true∧w.frozen? ⟨b,o+j,none⟩=false:=by
 intro j hj
 refine ⟨?_,h.fz _⟩
 rw[h.cell,List.getElem?_eq_getElem (by omega)];rfl
theorem zak {w a:World} {b o:Nat} {cs:List Value} {r:Option Nat} (h:w.rangeAt b o cs) (g:w.grownBy a r) (hr:some b≠r):a.rangeAt b o cs :=
 fun j v hv=>g.cell (h j v hv) hr
theorem zd7 {P:Program} (t e:TypeId) (n:Nat) (ht:P.underlying t=some (.array n e)) (hz:∀ w,(Go.sizeOf e).run P w = .ok 1 w) (b o lo hi:Nat) (zl zh:Int) (hl:zl=(lo:Int)) (hh:zh=(hi:Int)) (h1:lo≤hi) (h2:hi≤n) (h3:lo<n) (W:World) :
  (Instr.sliceAt t (.pointer (some ⟨b,o,none⟩)) (some (.int .i64 zl)) (some (.int .i64 zh)) none).run P W = .ok (.slice (some ⟨b,o+lo,none⟩) (hi - lo) (n - lo)) W:=by
 subst hl hh
 have ea:P.arrayLen t=n:=by simp[Program.arrayLen,ht]
 have ee:P.elem t=e:=by simp[Program.elem,ht]
 rw[run_sliceAt_array_lh W t ⟨b,o,none⟩ (by rw[ea,ee];exact ht) .i64 .i64 _ _ (by omega) (by omega) (by omega),ea,ee,hz]
 simp only[Result.andThen_ok,slicedAt,Int.toNat_natCast,Nat.mul_one]
 rw[if_neg (by omega),Addr.add_mid]
theorem zgp {P:Program} (t e:TypeId) (n:Nat) (ht:P.underlying t=some (.array n e)) (hz:∀ w,(Go.sizeOf e).run P w = .ok 1 w) (b o lo:Nat) (zl:Int) (hl:zl=(lo:Int)) (h3:lo<n) (W:World) :
  (Instr.sliceAt t (.pointer (some ⟨b,o,none⟩)) (some (.int .i64 zl)) none none).run P W = .ok (.slice (some ⟨b,o+lo,none⟩) (n - lo) (n - lo)) W:=by
 subst hl
 have ea:P.arrayLen t=n:=by simp[Program.arrayLen,ht]
 have ee:P.elem t=e:=by simp[Program.elem,ht]
 rw[run_sliceAt_array_l W t ⟨b,o,none⟩ (by rw[ea,ee];exact ht) .i64 _ (by omega) (by omega),ea,ee,hz]
 simp only[Result.andThen_ok,slicedAt,Int.toNat_natCast,Nat.mul_one]
 rw[if_neg (by omega),Addr.add_mid]
theorem Blk.drew {w:World} {b:Nat} {t:TypeId} {cs:List Value} (h:Blk w b t cs):Blk w.drew b t cs:=h
theorem zaa {w a:World} {r:Option Nat} (h:w.grownBy a r):w.grownBy a.drew r:=⟨h.os,h.tape,h.output,h.size,h.block⟩
theorem Blk.row {w:World} {b:Nat} {t:TypeId} {cs:List Value} (h:Blk w b t cs) (cs' : List Value):Blk (w.setRow b cs'.toArray) b t cs':=by
 unfold Blk at h ⊢
 simp[World.setRow,Array.getElem?_modify,h]
theorem Blk.row_other {w:World} {b:Nat} {t:TypeId} {cs:List Value} (h:Blk w b t cs) (g:Nat) (cs' : Array Value) (hp:g≠b):Blk (w.setRow g cs') b t cs:=by
 unfold Blk at h ⊢
 simp[World.setRow,Array.getElem?_modify,h,hp]
theorem zaj {w a:World} {r:Option Nat} (h:w.grownBy a r) (cs:Array Value) {g:Nat} (hp:w.heap.size≤g∨r=some g):w.grownBy (a.setRow g cs) r :=
 zae h (s:=some g) ⟨rfl,rfl,rfl,by simp,fun k _ hne=>by
  have:g≠k:=fun e=>hne (by rw[e])
  simp[World.setRow,Array.getElem?_modify,this]⟩ (fun x e=>by cases e;exact hp)
theorem zkd {w a:World} {r:Option Nat} (h:w.grownBy a r) (n:Nat):w.grownBy (a.drewN n) r:=⟨h.os,h.tape,h.output,h.size,h.block⟩
theorem Blk.setCells {b:Nat} {t:TypeId} : ∀ (vs old:List Value) {w:World} {A C:List Value},Blk w b t (A++(old++C))→old.length=vs.length→Blk (w.setCells b A.length vs) b t (A++(vs++C))
 | [],old,w,A,C,h,hl=>by
   have:old=[]:=List.length_eq_zero_iff.1 (by simpa using hl)
   subst this
   exact h
 | v::r,[],w,A,C,h,hl=>by simp at hl
 | v::r,o::old,w,A,C,h,hl=>by
   have h1:=h.set A.length v
   rw[List.set_append_right _ _ (Nat.le_refl _),Nat.sub_self,List.cons_append,List.set_cons_zero] at h1
   have h2:=Blk.setCells r old (w:=w.setCell ⟨b,A.length,none⟩ v) (A:=A++[v]) (C:=C) (by simpa using h1) (by simpa using hl)
   simpa[World.setCells] using h2
theorem Blk.setCells_other {b b' : Nat} {t:TypeId} {cs:List Value} (hne:b'≠b):∀ (vs:List Value) (o:Nat) {w:World},Blk w b t cs→Blk (w.setCells b' o vs) b t cs
 | [],_,_,h=>h
 | v::r,o,_,h=>Blk.setCells_other hne r (o+1) (h.other ⟨b',o,none⟩ v hne)
theorem za1 {w:World} {r:Option Nat} {b:Nat} (hp:w.heap.size≤b∨r=some b):∀ (vs:List Value) (o:Nat) {a:World},w.grownBy a r→w.grownBy (a.setCells b o vs) r
 | [],_,_,h=>h
 | v::vs,o,_,h=>za1 hp vs (o+1) (zam h ⟨b,o,none⟩ v hp)
theorem zd8 (b:Nat) (v:Value):∀ (vs:List Value) (o:Nat) (w:World),(w.setCells b o vs).setCell ⟨b,o+vs.length,none⟩ v=w.setCells b o (vs++[v])
 | [],_,_=>rfl
 | x::r,o,w=>by
   have:=zd8 b v r (o+1) (w.setCell ⟨b,o,none⟩ x)
   simp only[List.cons_append,World.setCells,List.length_cons]
   rw[← this]
   congr 2
   omega
theorem Blk.range {w:World} {b:Nat} {t:TypeId} {A vs C:List Value} (h:Blk w b t (A++(vs++C))):w.rangeAt b A.length vs:=by
 intro j v hv
 have hj:j<vs.length:=(List.getElem?_eq_some_iff.1 hv).1
 rw[h.cell,List.getElem?_append_right (by omega),Nat.add_sub_cancel_left,List.getElem?_append_left hj,hv]
theorem Blk.thereIn {w:World} {b:Nat} {t:TypeId} {A vs C:List Value} (h:Blk w b t (A++(vs++C))):w.there b A.length vs.length :=
 fun j hj=>⟨h.range.isSome j hj,h.fz _⟩
structure Dsk where
 safe:List (List UInt8)
 U:List (Nat × List UInt8)
 left:Int
 down:Bool
deriving Inhabited
structure Dsk.Ok (D:Dsk):Prop where
 pos:0<D.safe.length
 most:D.safe.length≤2048
 wide:∀ s∈D.safe,s.length=256
 inn:∀ x∈D.U,x.1<D.safe.length∧x.2.length=256
 lim:D.left<9223372036854775808
def zay (U:List (Nat × List UInt8)) (i:Nat):List (List UInt8):=(U.filter fun x=>x.1 == i).map (·.2)
def zie (D:Dsk) (i:Nat):List UInt8:=(D.safe[i]?).getD []
def zhk (D:Dsk) (i:Nat):List UInt8:=((zay D.U i).getLast?).getD (zie D i)
def zsec:List UInt8:=List.replicate 256 0
def padS (b:List UInt8):List UInt8:=b++List.replicate (256 - b.length) 0
def cntD (D:Dsk):Dsk × Int:=if D.left=0 then ({ D with down:=true },17) else if 0<D.left then ({ D with left:=D.left - 1 },0) else (D,0)
def zd9 (f:Int):Nat:=(min (max f 0) 256).toNat
def lay1 (S:List (List UInt8)) (x:Nat × List UInt8) (n:Nat):List (List UInt8):=S.set x.1 (x.2.take n++((S[x.1]?).getD []).drop n)
def za7 (f:Nat→Int):Nat→List (Nat × List UInt8)→List (List UInt8)→List (List UInt8)
 | _,[],S=>S
 | k,x::U,S=>za7 f (k+1) U (lay1 S x (zd9 (f k)))
def zbl (f:Nat→Int) (D:Dsk):Dsk:={ D with safe:=za7 f 0 D.U D.safe,U:=[] }
def hasD (D:Dsk) (i:Int):Bool:=decide (0≤i∧i<(D.safe.length:Int))
def wrD (D:Dsk) (i:Int) (b:List UInt8):Dsk × Int :=
 if D.down=true then (D,17) else if hasD D i=true∧b.length≤256 then cntD { D with U:=D.U++[(i.toNat,padS b)] } else (D,2)
def syD (D:Dsk):Dsk × Int:=if D.down=true then (D,17) else if (cntD D).2=0 then (zbl (fun _=>256) (cntD D).1,0) else (cntD D)
def zr2 (F:List Int) (k:Nat):Int:=(F[k]?).getD (-1)
def faD (D:Dsk) (F:List Int):Dsk:={ zbl (zr2 F) D with left := -1,down:=false }
def rdD (D:Dsk) (i:Int):List UInt8 × Int:=if D.down=true then ([],17) else if hasD D i=true then (zhk D i.toNat,0) else ([],2)
def sfD (D:Dsk) (i:Int):List UInt8 × Int:=if hasD D i=true then (zie D i.toNat,0) else ([],2)
def arD (D:Dsk) (n:Int):Dsk:={ D with left:=n }
def newD (n:Nat):Dsk:=⟨List.replicate n zsec,[],-1,false⟩
theorem zgu (x:Nat × List UInt8) (U:List (Nat × List UInt8)) (i:Nat):zay (x::U) i=if x.1=i then x.2::zay U i else zay U i:=by
 unfold zay
 rw[List.filter_cons]
 by_cases h:x.1=i <;> simp[h]
theorem zgv (U:List (Nat × List UInt8)) (x:Nat × List UInt8) (i:Nat):zay (U++[x]) i=if x.1=i then zay U i++[x.2] else zay U i:=by
 unfold zay
 rw[List.filter_append,List.map_append]
 by_cases h:x.1=i <;> simp[h]
theorem zc7 {U:List (Nat × List UInt8)} {i:Nat} {r:List UInt8} (h:r∈zay U i):(i,r)∈U:=by
 unfold zay at h
 obtain ⟨x,hx,rfl⟩:=List.mem_map.1 h
 have:=List.mem_filter.1 hx
 have h2:x.1=i:=by simpa using this.2
 rw[← h2]
 exact this.1
theorem zcw {U:List (Nat × List UInt8)} {i:Nat} : zay U i≠[]↔i∈U.map (·.1):=by
 constructor
 ·intro h
  obtain ⟨r,hr⟩:=List.exists_mem_of_ne_nil _ h
  exact List.mem_map.2 ⟨_,zc7 hr,rfl⟩
 ·intro h e
  obtain ⟨x,hx,rfl⟩:=List.mem_map.1 h
  have:x.2∈zay U x.1:=List.mem_map.2 ⟨x,List.mem_filter.2 ⟨hx,by simp⟩,rfl⟩
  rw[e] at this
  cases this
theorem zfw (U:List (Nat × List UInt8)) (i:Nat):(zay U i).length≤U.length:=by
 unfold zay
 rw[List.length_map]
 exact List.length_filter_le _ _
theorem zea:zsec.length=256:=List.length_replicate ..
theorem zke {b:List UInt8} (h:b.length≤256):(padS b).length=256:=by
 unfold padS
 rw[List.length_append,List.length_replicate]
 omega
theorem zif (f:Int):zd9 f≤256:=by unfold zd9;omega
theorem zlj (f:Int):min (max f 0) 256=(zd9 f:Int):=by unfold zd9;omega
theorem zfm (S:List (List UInt8)) (x:Nat × List UInt8) (n:Nat):(lay1 S x n).length=S.length:=by simp[lay1]
theorem zig {S:List (List UInt8)} {x:Nat × List UInt8} {n:Nat} (hS:∀ s∈S,s.length=256) (hx:x.2.length=256) (hn:n≤256) (hi:x.1<S.length):∀ s∈lay1 S x n,s.length=256:=by
 intro s hs
 unfold lay1 at hs
 rcases List.mem_or_eq_of_mem_set hs with h | h
 ·exact hS s h
 ·subst h
  rw[List.getElem?_eq_getElem hi]
  have:=hS _ (List.getElem_mem hi)
  simp only[Option.getD_some,List.length_append,List.length_take,List.length_drop,this,hx]
  omega
theorem zeu (f:Nat→Int):∀ (U:List (Nat × List UInt8)) (k:Nat) (S:List (List UInt8)),(za7 f k U S).length=S.length
 | [],_,_=>rfl
 | x::U,k,S=>by rw[za7,zeu f U,zfm]
theorem zfx (f:Nat→Int):∀ (U:List (Nat × List UInt8)) (k:Nat) (S:List (List UInt8)),(∀ s∈S,s.length=256)→(∀ x∈U,x.1<S.length∧x.2.length=256)→∀ s∈za7 f k U S,s.length=256
 | [],_,_,hS,_=>hS
 | x::U,k,S,hS,hU=>by
   rw[za7]
   have hx:=hU x (by simp)
   refine zfx f U (k+1) _ (zig hS hx.2 (zif _) hx.1) (fun y hy => ?_)
   rw[zfm]
   exact hU y (by simp[hy])
theorem zdy (f:Nat→Int) (x:Nat × List UInt8):∀ (U:List (Nat × List UInt8)) (k:Nat) (S:List (List UInt8)),za7 f k (U++[x]) S=lay1 (za7 f k U S) x (zd9 (f (k+U.length)))
 | [],k,S=>by simp[za7]
 | y::U,k,S=>by
   rw[List.cons_append,za7,za7,zdy f x U (k+1),List.length_cons]
   rw[show k+1+U.length=k+(U.length+1) by omega]
theorem Dsk.Ok.settle {D:Dsk} (h:D.Ok) (f:Nat→Int):(zbl f D).Ok :=
 ⟨by simp only[zbl,zeu];exact h.pos,by simp only[zbl,zeu];exact h.most,zfx f _ _ _ h.wide h.inn,(fun x hx=>by simp[zbl] at hx),h.lim⟩
theorem Dsk.Ok.cnt {D:Dsk} (h:D.Ok):(cntD D).1.Ok:=by
 unfold cntD
 split
 ·exact ⟨h.pos,h.most,h.wide,h.inn,h.lim⟩
 ·split
  ·exact ⟨h.pos,h.most,h.wide,h.inn,by have:=h.lim;show D.left - 1<_;omega⟩
  ·exact h
theorem zih (D:Dsk):(cntD D).1.safe=D.safe∧(cntD D).1.U=D.U:=by
 unfold cntD
 split
 ·exact ⟨rfl,rfl⟩
 ·split <;> exact ⟨rfl,rfl⟩
theorem zo8 (D:Dsk):(cntD D).2=0∨(cntD D).2=17:=by
 unfold cntD
 split
 ·exact Or.inr rfl
 ·split <;> exact Or.inl rfl
theorem Dsk.Ok.fall {D:Dsk} (h:D.Ok) (F:List Int):(faD D F).Ok :=
 have:=h.settle (zr2 F)
 ⟨this.pos,this.most,this.wide,this.inn,by show (-1:Int)<_;decide⟩
theorem Dsk.Ok.add {D:Dsk} (h:D.Ok) {i:Nat} {b:List UInt8} (hi:i<D.safe.length) (hb:b.length≤256):Dsk.Ok { D with U:=D.U++[(i,padS b)] } :=
 ⟨h.pos,h.most,h.wide,fun x hx=>by
  rcases List.mem_append.1 hx with hx | hx
  ·exact h.inn x hx
  ·rw[List.mem_singleton.1 hx];exact ⟨hi,zke hb⟩,h.lim⟩
theorem zeb (D:Dsk) (i:Int):hasD D i=true↔0≤i∧i<(D.safe.length:Int):=by unfold hasD;simp
theorem zhl {D:Dsk} {i:Int} (h:hasD D i=true):i.toNat<D.safe.length∧i=(i.toNat:Int):=by
 rw[zeb] at h
 omega
theorem Dsk.Ok.write {D:Dsk} (h:D.Ok) (i:Int) (b:List UInt8):(wrD D i b).1.Ok:=by
 unfold wrD
 split
 ·exact h
 ·split
  ·rename_i h1
   exact (h.add (zhl h1.1).1 h1.2).cnt
  ·exact h
theorem zqv {n:Nat} (h1:0<n) (h2:n≤2048):(newD n).Ok :=
 ⟨by simpa[newD] using h1,by simpa[newD] using h2,(fun s hs=>by simp only[newD] at hs;rw[List.eq_of_mem_replicate hs];exact zea),(fun x hx=>by simp[newD] at hx),by show (-1:Int)<_;decide⟩
theorem zmt {D:Dsk} (h:D.Ok) {i:Nat} (hi:i<D.safe.length):(zie D i).length=256:=by
 unfold zie
 rw[List.getElem?_eq_getElem hi]
 exact h.wide _ (List.getElem_mem hi)
theorem zii {D:Dsk} (h:D.Ok) {i:Nat} (hi:i<D.safe.length):(zhk D i).length=256:=by
 unfold zhk
 cases hg:(zay D.U i).getLast? with
 | none=>exact zmt h hi
 | some r=>exact (h.inn _ (zc7 (List.mem_of_getLast? hg))).2
def lbS (v n:Nat):List UInt8:=(List.range n).map fun i=>UInt8.ofNat (v / 256 ^ (n - 1 - i))
theorem zaw (v n:Nat):(lbS v n).length=n:=by simp[lbS]
theorem zfy {v v' n:Nat} (h:v<256 ^ n) (h' : v'<256 ^ n) (e:lbS v n=lbS v' n):v=v':=by
 induction n generalizing v v' with
 | zero=>simp at h h';omega
 | succ n ih =>
   have split:∀ x:Nat,lbS x (n+1)=lbS (x / 256) n++[UInt8.ofNat x]:=by
    intro x
    unfold lbS
    rw[List.range_succ,List.map_append]
    congr 1
    ·apply List.map_congr_left
     intro i hi
     have hi:=List.mem_range.1 hi
     rw[show n+1 - 1 - i=(n - 1 - i)+1 by omega,Nat.pow_succ,Nat.mul_comm,← Nat.div_div_eq_div_mul]
    ·simp
   rw[split,split] at e
   have e2:=List.append_inj' e rfl
   have e3:=ih (by rw[Nat.pow_succ] at h;exact Nat.div_lt_of_lt_mul (by omega)) (by rw[Nat.pow_succ] at h';exact Nat.div_lt_of_lt_mul (by omega)) e2.1
   have e4:UInt8.ofNat v=UInt8.ofNat v':=by simpa using e2.2
   have e5:v % 256=v' % 256:=by
    have:=congrArg UInt8.toNat e4
    simpa using this
   omega
structure Chg where
 key:List UInt8
 value:List UInt8
 gone:Bool
deriving Inhabited
def Chg.norm (c:Chg):Chg:=if c.gone then { c with value:=[] } else c
def sizS (x:List UInt8):List UInt8:=lbS x.length 4++x
def chB (c:Chg):List UInt8:=(if c.gone then 1 else 0)::(sizS c.key++sizS c.norm.value)
def recB (l:List Chg):List UInt8:=lbS l.length 2++l.flatMap chB
structure Chg.Ok (c:Chg):Prop where
 key1:1≤c.key.length
 key2:c.key.length≤96
 val:c.value.length≤65536
def MayC (l:List Chg):Prop:=l.length≤4096∧∀ c∈l,c.Ok
theorem zkf {x y a b:List UInt8} (hx:x.length≤65536) (hy:y.length≤65536) (e:sizS x++a=sizS y++b):x=y∧a=b:=by
 unfold sizS at e
 rw[List.append_assoc,List.append_assoc] at e
 obtain ⟨e1,e2⟩:=List.append_inj e (by rw[zaw,zaw])
 have:=zfy (by omega) (by omega) e1
 exact List.append_inj e2 this
theorem Chg.norm_val {c:Chg} (h:c.Ok):c.norm.value.length≤65536:=by
 unfold Chg.norm
 split
 ·exact Nat.zero_le _
 ·exact h.val
theorem zqw {c d:Chg} {a b:List UInt8} (hc:c.Ok) (hd:d.Ok) (e:chB c++a=chB d++b):c.norm=d.norm∧a=b:=by
 unfold chB at e
 rw[List.cons_append,List.cons_append] at e
 injection e with e1 e2
 rw[List.append_assoc,List.append_assoc] at e2
 obtain ⟨k1,e3⟩:=zkf (by have:=hc.key2;omega) (by have:=hd.key2;omega) e2
 obtain ⟨k2,e4⟩:=zkf (Chg.norm_val hc) (Chg.norm_val hd) e3
 refine ⟨?_,e4⟩
 have g:c.gone=d.gone:=by
  cases hg:c.gone <;> cases hh:d.gone <;> simp[hg,hh] at e1 <;> rfl
 unfold Chg.norm at k2 ⊢
 cases hg:c.gone <;> rw[g] at hg <;> simp[hg,g] at k2 ⊢
 ·obtain ⟨ck,cv,cg⟩:=c
  obtain ⟨dk,dv,dg⟩:=d
  simp only at k1 k2 g
  rw[k1,k2,g]
 ·rw[k1]
theorem zmu:∀ {l l' : List Chg} {a b:List UInt8},l.length=l'.length→(∀ c∈l,c.Ok)→(∀ c∈l',c.Ok)→l.flatMap chB++a=l'.flatMap chB++b→l.map Chg.norm=l'.map Chg.norm∧a=b
 | [],[],_,_,_,_,_,e=>⟨rfl,e⟩
 | c::l,d::l',a,b,hl,hc,hd,e=>by
   rw[List.flatMap_cons,List.flatMap_cons,List.append_assoc,List.append_assoc] at e
   obtain ⟨e1,e2⟩:=zqw (hc c (by simp)) (hd d (by simp)) e
   obtain ⟨e3,e4⟩:=zmu (by simpa using hl) (fun x hx=>hc x (by simp[hx])) (fun x hx=>hd x (by simp[hx])) e2
   exact ⟨by rw[List.map_cons,List.map_cons,e1,e3],e4⟩
theorem zo9 {l l' : List Chg} (h:MayC l) (h' : MayC l') (e:recB l=recB l'):l.map Chg.norm=l'.map Chg.norm:=by
 unfold recB at e
 obtain ⟨e1,e2⟩:=List.append_inj e (by rw[zaw,zaw])
 have hn:=zfy (by have:=h.1;omega) (by have:=h'.1;omega) e1
 exact (zmu (a:=[]) (b:=[]) hn h.2 h'.2 (by simpa using e2)).1
def secN (n:Nat):Nat:=(n+254) / 255
def secB (b:List UInt8) (i:Nat):List UInt8:=2::((b.drop (255*i)).take 255++List.replicate (255 - ((b.drop (255*i)).take 255).length) 0)
theorem zcx (b:List UInt8) (i:Nat):(secB b i).length=256:=by
 unfold secB
 have:((b.drop (255*i)).take 255).length≤255:=by rw[List.length_take];omega
 rw[List.length_cons,List.length_append,List.length_replicate]
 omega
def zbq (sm:List UInt8→List UInt8) (g n:Nat) (b:List UInt8):List UInt8:=[1,67,83,84]++lbS g 8++lbS n 8++lbS b.length 4++sm b++List.replicate 8 0
def za8 (m:List UInt8):List UInt8:=m++List.replicate 128 0++m
theorem zcm {sm:List UInt8→List UInt8} (hs:∀ b,(sm b).length=32) (g n:Nat) (b:List UInt8):(zbq sm g n b).length=64:=by
 unfold zbq
 simp[zaw,hs]
theorem zec {m:List UInt8} (h:m.length=64):(za8 m).length=256:=by
 unfold za8
 simp[h]
theorem zij {m m' : List UInt8} (h:m.length=64) (h' : m'.length=64) (e:za8 m=za8 m'):m=m':=by
 unfold za8 at e
 exact (List.append_inj (List.append_inj e (by simp[h,h'])).1 (by rw[h,h'])).1
theorem zik {sm:List UInt8→List UInt8} (hs:∀ b,(sm b).length=32) {g g' n n' : Nat} {b b' : List UInt8} (hg:g<18446744073709551616) (hg' : g'<18446744073709551616) (hn:n<18446744073709551616) (hn' : n'<18446744073709551616) (hb:b.length<4294967296) (hb' : b'.length<4294967296)
  (e:zbq sm g n b=zbq sm g' n' b'):g=g'∧n=n'∧b.length=b'.length∧sm b=sm b':=by
 unfold zbq at e
 obtain ⟨e,_⟩:=List.append_inj e (by simp[zaw,hs])
 obtain ⟨e,e5⟩:=List.append_inj e (by simp[zaw])
 obtain ⟨e,e4⟩:=List.append_inj e (by simp[zaw])
 obtain ⟨e,e3⟩:=List.append_inj e (by simp[zaw])
 obtain ⟨_,e2⟩:=List.append_inj e rfl
 exact ⟨zfy (by omega) (by omega) e2,zfy (by omega) (by omega) e3,zfy (by omega) (by omega) e4,e5⟩
theorem zpa {b b' : List UInt8} (hl:b.length=b'.length) (h:∀ i,i<secN b.length→secB b i=secB b' i):b=b':=by
 have key:∀ k,k≤secN b.length→b.take (255*k)=b'.take (255*k):=by
  intro k
  induction k with
  | zero=>intro _;simp
  | succ k ih =>
    intro hk
    have h1:=ih (by omega)
    have h2:=h k (by omega)
    unfold secB at h2
    injection h2 with _ h2
    have hll:((b.drop (255*k)).take 255).length=((b'.drop (255*k)).take 255).length:=by simp[hl]
    have h3:=(List.append_inj h2 hll).1
    rw[show 255*(k+1)=255*k+255 by omega,List.take_add,List.take_add,h1,h3]
 have hn:b.length≤255*secN b.length:=by unfold secN;omega
 have:=key (secN b.length) (Nat.le_refl _)
 rwa [List.take_of_length_le hn,List.take_of_length_le (by omega)] at this
theorem zcy {l:List Chg} (h:MayC l):(recB l).length<4294967296:=by
 have key:∀ l:List Chg,(∀ c∈l,c.Ok)→(l.flatMap chB).length≤l.length*65641:=by
  intro l
  induction l with
  | nil=>intro _;simp
  | cons c l ih =>
    intro hc
    have h1:=hc c (by simp)
    have h2:=Chg.norm_val h1
    have h3:=h1.key2
    have h4:=ih (fun x hx=>hc x (by simp[hx]))
    have h5:(chB c).length≤65641:=by
     unfold chB sizS
     simp only[List.length_cons,List.length_append,zaw]
     omega
    rw[List.flatMap_cons,List.length_append,List.length_cons]
    omega
 have h1:=key l h.2
 have h2:=h.1
 unfold recB
 rw[List.length_append,zaw]
 omega
structure WholeS (sm:List UInt8→List UInt8) (S:List (List UInt8)) (hi p g n:Nat) (l:List Chg):Prop where
 may:MayC l
 mark:S[p]? = some (za8 (zbq sm g n (recB l)))
 fits:p+1+secN (recB l).length≤hi
 secs:∀ i,i<secN (recB l).length→S[p+1+i]? = some (secB (recB l) i)
def zaz (p:Nat) (l:List Chg):Nat:=p+1+secN (recB l).length
section
variable {sm:List UInt8→List UInt8} (hs:∀ b,(sm b).length=32)
include hs
theorem WholeS.one {S:List (List UInt8)} {hi p g n:Nat} {l l' : List Chg} (hg:g<18446744073709551616) (hn:n<18446744073709551616) (h:WholeS sm S hi p g n l) (h' : WholeS sm S hi p g n l'):recB l=recB l'∧l.map Chg.norm=l'.map Chg.norm∧zaz p l=zaz p l':=by
 have e1:=h.mark.symm.trans h'.mark
 injection e1 with e1
 have e2:=zij (zcm hs _ _ _) (zcm hs _ _ _) e1
 obtain ⟨_,_,hl,_⟩:=zik hs hg hg hn hn (zcy h.may) (zcy h'.may) e2
 have e3:recB l=recB l':=zpa hl (fun i hi=>by
  have a:=h.secs i hi
  have b:=h'.secs i (by rw[← hl];exact hi)
  rw[a] at b
  injection b)
 exact ⟨e3,zo9 h.may h'.may e3,by unfold zaz;rw[hl]⟩
end
theorem WholeS.same {sm:List UInt8→List UInt8} {S S' : List (List UInt8)} {hi p g n:Nat} {l:List Chg} (h:WholeS sm S hi p g n l) (e:∀ q,p≤q→q<zaz p l→S'[q]? = S[q]?):WholeS sm S' hi p g n l :=
 ⟨h.may,by rw[e p (Nat.le_refl _) (by unfold zaz;omega)];exact h.mark,h.fits,fun i hi=>by rw[e (p+1+i) (by omega) (by unfold zaz;omega)];exact h.secs i hi⟩
def zbm (sm:List UInt8→List UInt8) (S:List (List UInt8)) (hi g:Nat):Nat→Nat→List (List Chg)→Nat→Prop
 | p,n,[],e=>e=p∧∀ l,¬ WholeS sm S hi p g n l
 | p,n,l::ls,e=>WholeS sm S hi p g n l∧zbm sm S hi g (zaz p l) (n+1) ls e
theorem zbm.le {sm:List UInt8→List UInt8} {S:List (List UInt8)} {hi g:Nat} : ∀ {ls:List (List Chg)} {p n e:Nat},zbm sm S hi g p n ls e→p≤e
 | [],_,_,_,h=>Nat.le_of_eq h.1.symm
 | l::ls,p,n,e,h=>Nat.le_trans (by unfold zaz;omega) (zbm.le h.2)
theorem zbm.fits {sm:List UInt8→List UInt8} {S:List (List UInt8)} {hi g:Nat} : ∀ {ls:List (List Chg)} {p n e:Nat},zbm sm S hi g p n ls e→p≤hi→e≤hi
 | [],_,_,_,h,hp=>by rw[h.1];exact hp
 | l::ls,p,n,e,h,_=>zbm.fits h.2 h.1.fits
theorem zbm.len {sm:List UInt8→List UInt8} {S:List (List UInt8)} {hi g:Nat} : ∀ {ls:List (List Chg)} {p n e:Nat},zbm sm S hi g p n ls e→p+ls.length≤e
 | [],_,_,_,h=>by rw[h.1];simp
 | l::ls,p,n,e,h=>by
   have:=zbm.len h.2
   unfold zaz at this
   simp only[List.length_cons]
   omega
section
variable {sm:List UInt8→List UInt8} (hs:∀ b,(sm b).length=32)
include hs
theorem zbm.one {S:List (List UInt8)} {hi g:Nat} (hg:g<18446744073709551616):∀ {ls ls' : List (List Chg)} {p n e e' : Nat},n+ls.length<18446744073709551616→n+ls'.length<18446744073709551616→zbm sm S hi g p n ls e→zbm sm S hi g p n ls' e'→ls.map (·.map Chg.norm)=ls'.map (·.map Chg.norm)∧e=e'
 | [],[],_,_,_,_,_,_,h,h'=>⟨rfl,h.1.trans h'.1.symm⟩
 | [],l'::ls',_,_,_,_,_,_,h,h'=>absurd h'.1 (h.2 l')
 | l::ls,[],_,_,_,_,_,_,h,h'=>absurd h.1 (h'.2 l)
 | l::ls,l'::ls',p,n,e,e',hn,hn',h,h'=>by
   simp only[List.length_cons] at hn hn'
   obtain ⟨_,e2,e3⟩:=WholeS.one hs hg (by omega) h.1 h'.1
   have h2:=h'.2
   rw[← e3] at h2
   obtain ⟨e4,e5⟩:=zbm.one hg (by omega) (by omega) h.2 h2
   exact ⟨by rw[List.map_cons,List.map_cons,e2,e4],e5⟩
end
theorem zbm.same {sm:List UInt8→List UInt8} {S S' : List (List UInt8)} {hi g:Nat} : ∀ {ls:List (List Chg)} {p n e:Nat},zbm sm S hi g p n ls e→(∀ q,p≤q→q<e→S'[q]? = S[q]?)→(∀ l,¬ WholeS sm S' hi e g (n+ls.length) l)→zbm sm S' hi g p n ls e
 | [],_,_,_,h,_,hn=>by
   obtain ⟨h1,_⟩:=h
   subst h1
   exact ⟨rfl,by simpa using hn⟩
 | l::ls,p,n,e,h,hq,hn=>by
   have hle:=zbm.le h.2
   refine ⟨h.1.same (fun q h1 h2=>hq q h1 (by omega)),zbm.same h.2 (fun q h1 h2=>hq q (by unfold zaz at h1;omega) h2) ?_⟩
   intro l2 h2
   exact hn l2 (by rw[List.length_cons,show n+(ls.length+1)=n+1+ls.length by omega];exact h2)
theorem zbm.snoc {sm:List UInt8→List UInt8} {S S' : List (List UInt8)} {hi g:Nat} : ∀ {ls:List (List Chg)} {p n e:Nat} {l:List Chg},zbm sm S hi g p n ls e→(∀ q,p≤q→q<e→S'[q]? = S[q]?)→WholeS sm S' hi e g (n+ls.length) l→(∀ l2,¬ WholeS sm S' hi (zaz e l) g (n+ls.length+1) l2)→zbm sm S' hi g p n (ls++[l]) (zaz e l)
 | [],_,_,_,l,h,_,hw,hn=>by
   obtain ⟨h1,_⟩:=h
   subst h1
   exact ⟨by simpa using hw,rfl,by simpa using hn⟩
 | l1::ls,p,n,e,l,h,hq,hw,hn=>by
   have hle:=zbm.le h.2
   refine ⟨h.1.same (fun q h1 h2=>hq q h1 (by omega)),zbm.snoc h.2 (fun q h1 h2=>hq q (by unfold zaz at h1;omega) h2) ?_ ?_⟩
   ·rw[show n+1+ls.length=n+(l1::ls).length by simp only[List.length_cons];omega];exact hw
   ·intro l2 h2
    exact hn l2 (by rw[show n+(l1::ls).length+1=n+1+ls.length+1 by simp only[List.length_cons];omega];exact h2)
def zfk (V:List UInt8→Option (List UInt8)) (c:Chg):List UInt8→Option (List UInt8):=fun k=>if c.key=k then (if c.gone then none else some c.value) else V k
def zgq (V:List UInt8→Option (List UInt8)) (l:List Chg):List UInt8→Option (List UInt8):=l.foldl zfk V
theorem zlk (V:List UInt8→Option (List UInt8)) (c:Chg):zfk V c.norm=zfk V c:=by
 funext k
 unfold zfk Chg.norm
 by_cases h:c.gone=true <;> simp[h]
theorem zev:∀ (l:List Chg) (V:List UInt8→Option (List UInt8)),zgq V (l.map Chg.norm)=zgq V l
 | [],_=>rfl
 | c::l,V=>by
   show zgq (zfk V c.norm) (l.map Chg.norm)=zgq (zfk V c) l
   rw[zlk,zev l]
theorem zll:∀ (ls ls' : List (List Chg)),ls.map (·.map Chg.norm)=ls'.map (·.map Chg.norm)→∀ V,zgq V ls.flatten=zgq V ls'.flatten:=by
 intro ls ls' h V
 have key:∀ ls:List (List Chg),(ls.map (·.map Chg.norm)).flatten=ls.flatten.map Chg.norm:=by
  intro ls
  rw[List.map_flatten]
 rw[← zev,← zev ls'.flatten,← key,← key,h]
theorem zmv {D:Dsk} (hd:D.down=false) (hl:D.left<0) {i:Nat} (hi:i<D.safe.length) {b:List UInt8} (hb:b.length≤256):wrD D (i:Int) b=({ D with U:=D.U++[(i,padS b)] },0):=by
 unfold wrD
 rw[if_neg (by rw[hd];decide),if_pos ⟨(zeb D i).2 (by omega),hb⟩,Int.toNat_natCast]
 unfold cntD
 simp only
 rw[if_neg (by omega),if_neg (by omega)]
theorem zmw {D:Dsk} (hd:D.down=false) (hl:D.left<0):syD D=(zbl (fun _=>256) D,0):=by
 have e:cntD D=(D,0):=by
  unfold cntD
  rw[if_neg (by omega),if_neg (by omega)]
 unfold syD
 rw[if_neg (by rw[hd];decide),e]
 rfl
theorem zgw:zd9 256=256:=by decide
theorem zkg {S:List (List UInt8)} {x:Nat × List UInt8} (hx:x.2.length=256) (hi:x.1<S.length) (hS:∀ s∈S,s.length=256):lay1 S x 256=S.set x.1 x.2:=by
 unfold lay1
 rw[List.getElem?_eq_getElem hi,Option.getD_some,List.take_of_length_le (by omega),List.drop_of_length_le (by rw[hS _ (List.getElem_mem hi)];omega),List.append_nil]
theorem Blk.typ {w:World} {b:Nat} {t:TypeId} {cs:List Value} (h:Blk w b t cs) (ht:t≠5):¬ Typ w b:=by
 rintro ⟨cur,m,h2⟩
 unfold Blk at h
 rw[h] at h2
 injection h2 with h3
 injection h3 with _ h4
 exact ht h4
theorem zbh {w:World} {ops:Array Oper} {rest:List Oper} {o:Oper} {a:Act} {Q:Exit→Act→World→Prop} (hgd:o.guard=none) (s x:Operand)
  (ho:o.op = .call { callee := .builtin .append,args := #[s,x],argTypes := #[53,53] })
  (base:Nat) (v:Value) (n:Nat) (xs:List Value) (hs:a.eval s=v) (hown:w.ownsRow base 5 1 v n xs)
  (ao:Option Addr) (c:Nat) (l:List UInt8) (hb:Bts w ao c l) (m:Nat) (hm:m=l.length) (hx:a.eval x = .slice ao m c) (hn:n+m≤140737488355328) (hbase:base≤w.heap.size)
  (h:∀ v' w',w'.ownsRow base 5 1 v' (n+m) (xs++l.map bv)→w.grownBy w' v.ownBlock→wpList Tryz.prog ops Q rest (a.put o.dst v') w'):wpList Tryz.prog ops Q (o::rest) a w:=by
 subst hm
 exact zet hgd s x ho base v n xs hs hown ao c l hb hx hn hbase h
theorem zqx (V:World) (base:Nat) (h:base≤V.heap.size):∃ Wb,Wb=V.alloc (.cells #[] 5)∧Wb.ownsRow base 5 1 (.slice (some ⟨V.heap.size,0,none⟩) 0 0) 0 []∧V.grownBy Wb none :=
 ⟨_,rfl,World.ownsRow_made V #[] 0 h (by unfold maxLen;omega) rfl,zaf (zac _ _) _⟩
theorem zhm {V V' : World} {base n:Nat} {v:Value} {xs:List Value} (h:V.ownsRow base 5 1 v n xs) (g:V.grownBy V' none):V'.ownsRow base 5 1 v n xs :=
 h.kept g (by
  by_cases e:v.ownBlock=none
  ·exact Or.inl e
  ·exact Or.inr e)
theorem zed {u V V' : World} {n:Nat} {v:Value} {xs:List Value} (g:u.grownBy V none) (h:V.ownsRow u.heap.size 5 1 v n xs) (q:V.grownBy V' v.ownBlock):u.grownBy V' none :=
 zae g q (fun x e=>Or.inl (h.lt x e).1)
theorem zcn {w:World} {b o:Nat} {l:List UInt8} (h:w.rangeAt b o (l.map bv)) (hm:l.length≤maxLen):Bts w (some ⟨b,o,none⟩) l.length l:=by
 refine ⟨(fun e=>by cases e),Nat.le_refl _,hm,(fun ad e _=>by cases e;rfl),(fun ad e i hi => ?_)⟩
 cases e
 exact h i _ (by simp[bv,hi])
theorem zqy {w:World} {base n k x:Nat} {t:TypeId} {v:Value} {xs:List Value} (h:w.ownsRow base t k v n xs) (e:v.ownBlock=some x) (ht:t≠5):¬ Typ w x:=by
 rcases h.2 with ⟨rfl,_⟩ | ⟨g,cap,cur,rfl,_,hh,_⟩
 ·cases e
 ·have:g=x:=by simpa[Value.ownBlock] using e
  subst this
  rintro ⟨cur2,m2,h2⟩
  rw[hh] at h2
  injection h2 with h3
  injection h3 with _ h4
  exact ht h4
theorem zbu (w:World) (t:TypeId) (Z:Array Value) (cs:List Value):∃ W,W=(w.alloc (.cells Z t)).setRow w.heap.size cs.toArray∧Blk W w.heap.size t cs∧w.grownBy W none :=
 ⟨_,rfl,by
  have h:Blk (w.alloc (.cells Z t)) w.heap.size t Z.toList:=by simpa using Blk.new w t Z.toList
  exact h.row cs,zaj (zaf (zac _ _) _) _ (Or.inl (Nat.le_refl _))⟩
theorem zah (w:World) (t:TypeId) (cs:List Value):∃ W,W=w.alloc (.cells cs.toArray t)∧Blk W w.heap.size t cs∧w.grownBy W none :=
 ⟨_,rfl,Blk.new w t cs,zaf (zac _ _) _⟩
theorem zan {w:World} {b:Nat} {t:TypeId} {vs:List Value} (h:Blk w b t vs):w.rangeAt b 0 vs:=by
 have:Blk w b t ([]++(vs++[])):=by simpa using h
 exact this.range
theorem zmx {w:World} {b c:Nat} {t t' : TypeId} {x y:List Value} (h:Blk w b t x) (k:Blk w c t' y) (ht:t≠t'):b≠c:=by
 rintro rfl
 unfold Blk at h k
 rw[h] at k
 injection k with k
 injection k with _ k
 exact ht k
theorem zap {w:World} {base k n b:Nat} {t t' : TypeId} {v:Value} {xs cs:List Value} (h:w.ownsRow base t k v n xs) (hb:Blk w b t' cs) (ht:t≠t'):some b≠v.ownBlock:=by
 rcases h.2 with ⟨rfl,_⟩ | ⟨g,cap,cur,rfl,_,hh,_⟩
 ·intro e;cases e
 ·intro e
  have:b=g:=by simpa[Value.ownBlock] using e
  subst this
  unfold Blk at hb
  rw[hh] at hb
  injection hb with hb
  injection hb with _ hb
  exact ht hb
theorem zcz {w:World} {base k n base' k' n' : Nat} {t t' : TypeId} {v v' : Value} {xs xs' : List Value} (h:w.ownsRow base t k v n xs) (h' : w.ownsRow base' t' k' v' n' xs') (ht:t≠t'):v.ownBlock=Option.none∨v.ownBlock≠v'.ownBlock:=by
 rcases h.2 with ⟨rfl,_⟩ | ⟨g,cap,cur,rfl,_,hh,_⟩
 ·exact Or.inl rfl
 ·rcases h'.2 with ⟨rfl,_⟩ | ⟨g',cap',cur',rfl,_,hh',_⟩
  ·exact Or.inr (by simp[Value.ownBlock])
  ·refine Or.inr fun e => ?_
   have:g=g':=by simpa[Value.ownBlock] using e
   subst this
   rw[hh] at hh'
   injection hh' with e1
   injection e1 with _ e2
   exact ht e2
theorem zai {P:Program} {Q:Exit→Act→World→Prop} {a:Act} {w:World} {id:Nat} {l:List Oper} (h:∀ O:Array Oper,O=l.toArray→wpList P O Q l a w):(Code.region id l.toArray false).wp P Q a w :=
 wp_region_lit (h _ rfl)
theorem zab {P:Program} {ops:Array Oper} {rest:List Oper} {o:Oper} {a:Act} {w:World} {Q:Exit→Act→World→Prop} (hw:Region.wanted o (yielded ops a.tmps)=true) (v:Value)
  (hv:∀ K:Act→World→Prop,K (a.put o.dst v) w→o.wp P a w K Q) (h:wpList P ops Q rest (a.put o.dst v) w):wpList P ops Q (o::rest) a w :=
 wpList_step fun K hK=>by rw[if_pos hw];exact hv K (hK _ _ h)
theorem zat {P:Program} {ops:Array Oper} {rest:List Oper} {o:Oper} {a:Act} {w:World} {Q:Exit→Act→World→Prop} (hw:Region.wanted o (yielded ops a.tmps)=true)
  (h:∀ K:Act→World→Prop,(∀ a w,wpList P ops Q rest a w→K a w)→o.wp P a w K Q):wpList P ops Q (o::rest) a w :=
 wpList_step fun K hK=>by rw[if_pos hw];exact h K hK
theorem zad {P:Program} {ops:Array Oper} {rest:List Oper} {o:Oper} {a:Act} {w:World} {Q:Exit→Act→World→Prop} (hw:Region.wanted o (yielded ops a.tmps)=false)
  (h:wpList P ops Q rest (a.put o.dst undef) w):wpList P ops Q (o::rest) a w :=
 wpList_step fun K hK=>by rw[hw,if_neg (by simp)];exact hK _ _ h
theorem zmy {α:Type} (f:α→List Value) (k:Nat) (L:List α) (h:∀ x∈L,(f x).length=k) (i j:Nat) (hi:i<L.length) (hj:j<k):(L.flatMap f)[i*k+j]? = (f L[i])[j]? := by
 induction L generalizing i with
 | nil=>simp at hi
 | cons x L ih =>
   have hx:=h x (by simp)
   rw[List.flatMap_cons]
   cases i with
   | zero=>rw[Nat.zero_mul,Nat.zero_add,List.getElem?_append_left (by omega)];rfl
   | succ i =>
     rw[List.getElem?_append_right (by rw[hx,Nat.succ_mul];omega),hx,show (i+1)*k+j - k=i*k+j by rw[Nat.succ_mul];omega]
     exact ih (fun y hy=>h y (List.mem_cons_of_mem _ hy)) i (by simpa using hi)
theorem zee {α:Type} (f:α→List Value) (k:Nat) (L:List α) (h:∀ x∈L,(f x).length=k):(L.flatMap f).length=L.length*k:=by
 induction L with
 | nil=>simp
 | cons x L ih =>
   have hx:=h x (by simp)
   rw[List.flatMap_cons,List.length_append,hx,ih (fun y hy=>h y (List.mem_cons_of_mem _ hy)),List.length_cons,Nat.succ_mul]
   omega
theorem zpb {α:Type} (f:α→List Value) (k:Nat) {w:World} {base:Nat} {t:TypeId} {v:Value} {L:List α} (h:w.ownsRow base t k v L.length (L.flatMap f)) (hf:∀ x∈L,(f x).length=k) :
  ∃ ao c,v = .slice ao L.length c∧(ao=none→L.length=0∧c=0)∧L.length≤c∧c≤maxLen∧(∀ ad,ao=some ad→ad.spot=none∧base≤ad.block)∧∀ ad,ao=some ad→∀ i (h:i<L.length),w.rangeAt ad.block (ad.off+i*k) (f L[i]):=by
 rcases h.2 with ⟨rfl,h2⟩ | ⟨g,cap,cur,rfl,hg,hh,h3,h4,h5,h6⟩
 ·have:=List.eq_nil_of_length_eq_zero h2
  subst this
  exact ⟨none,0,rfl,fun _=>⟨rfl,rfl⟩,Nat.le_refl _,Nat.zero_le _,(fun _ e=>by cases e),fun _ e=>by cases e⟩
 ·refine ⟨_,_,rfl,(fun e=>by cases e),h3,h4,(fun ad e=>by cases e;exact ⟨rfl,hg⟩),fun ad e i hi j v hv => ?_⟩
  cases e
  have hj:j<k:=by rw[← hf L[i] (List.getElem_mem _)];exact (List.getElem?_eq_some_iff.1 hv).1
  have h7:(cur.toList.take (L.length*k))[i*k+j]? = (L.flatMap f)[i*k+j]? := by rw[h6]
  have h8:(i+1)*k≤L.length*k:=Nat.mul_le_mul_right k hi
  rw[Nat.succ_mul] at h8
  rw[List.getElem?_take_of_lt (by omega),zmy f k L hf i j hi hj,hv] at h7
  simp only[World.cell?,hh,Nat.zero_add]
  simpa using h7
end Go.Proofs.YtoilcpdhhlcidaaGreatDoor
