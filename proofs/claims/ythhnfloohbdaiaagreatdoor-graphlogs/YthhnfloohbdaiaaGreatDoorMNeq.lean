/- Lemmas. -/
import Derived.Test.YthhnfloohbdaiaaGreatDoorGRange
import Derived.Shelf.SlSortCmp.WholeK
import Derived.Shelf.SlSortCmp.NoneTotal
import Derived.Lib.BytesEntry
import Derived.Lib.Bytealg
import Derived.Maps.RangeRun
import Derived.Deep.LoopGhost
namespace Go.Proofs.YthhnfloohbdaiaaGreatDoor
open Go.RowKit Go.Shelf Go.Lib Go.Sort
set_option maxRecDepth 100000
def srtR:Ren :=
 ⟨fun n=>if n=6 then 72 else if n=14 then 102 else if n=15 then 103 else if n=20 then 131
  else if n=21 then 132 else if n=22 then 133 else if n=23 then 134 else if n=24 then 135
  else if n=25 then 136 else if n=26 then 137 else if n=27 then 138 else if n=28 then 139 else if n=29 then 140
  else if n=46 then 162 else if n=47 then 163 else if n=48 then 164 else if n=49 then 165 else if n=50 then 166 else if n=57 then 175 else n,
 fun n=>if n=0 then 0 else if n=3 then 3 else if n=4 then 4 else if n=5 then 5 else if n=9 then 9 else if n=22 then 29 else if n=24 then 33 else if n=25 then 113 else if n=39 then 177 else if n=45 then 220
  else if n=46 then 221 else if n=50 then 225 else if n=53 then 209 else if n=55 then 68 else if n=66 then 243 else if n=70 then 247 else if n=76 then 255 else if n=77 then 256 else n,
 fun n=>n⟩
theorem srt6:SlLaysF0.n6 Tryz.prog srtR where
 mixed:=by kernel_rfl
 f6:=⟨Tryz.f72.name,by kernel_rfl,by kernel_rfl⟩
 f14:=⟨Tryz.f102.name,by kernel_rfl,by kernel_rfl⟩
 f15:=by kernel_rfl
 f20:=⟨Tryz.f131.name,by kernel_rfl,by kernel_rfl⟩
 f21:=⟨Tryz.f132.name,by kernel_rfl,by kernel_rfl⟩
 f22:=⟨Tryz.f133.name,by kernel_rfl,by kernel_rfl⟩
 f23:=⟨Tryz.f134.name,by kernel_rfl,by kernel_rfl⟩
 f24:=⟨Tryz.f135.name,by kernel_rfl,by kernel_rfl⟩
 f25:=⟨Tryz.f136.name,by kernel_rfl,by kernel_rfl⟩
 f26:=⟨Tryz.f137.name,by kernel_rfl,by kernel_rfl⟩
 f27:=⟨Tryz.f138.name,by kernel_rfl,by kernel_rfl⟩
 f28:=by kernel_rfl
 f29:=by kernel_rfl
 f46:=⟨Tryz.f162.name,by kernel_rfl,by kernel_rfl⟩
 f47:=by kernel_rfl
 f48:=by kernel_rfl
 f49:=⟨Tryz.f165.name,by kernel_rfl,by kernel_rfl⟩
 f50:=⟨Tryz.f166.name,by kernel_rfl,by kernel_rfl⟩
 f57:=⟨Tryz.f175.name,by kernel_rfl,by kernel_rfl⟩
 t0:=by kernel_rfl
 a0:=fun _=>by kernel_rfl
 z0:=fun _=>by kernel_rfl
 v0:=fun _=>by kernel_rfl
 t3:=by kernel_rfl
 a3:=fun _=>by kernel_rfl
 z3:=fun _=>by kernel_rfl
 v3:=fun _=>by kernel_rfl
 t4:=by kernel_rfl
 a4:=fun _=>by kernel_rfl
 z4:=fun _=>by kernel_rfl
 v4:=fun _=>by kernel_rfl
 t5:=by kernel_rfl
 a5:=fun _=>by kernel_rfl
 z5:=fun _=>by kernel_rfl
 v5:=fun _=>by kernel_rfl
 t9:=by kernel_rfl
 a9:=fun _=>by kernel_rfl
 z9:=fun _=>by kernel_rfl
 v9:=fun _=>by kernel_rfl
 t22:=by kernel_rfl
 a22:=fun _=>by kernel_rfl
 z22:=fun _=>by kernel_rfl
 v22:=fun _=>by kernel_rfl
 t25:=by kernel_rfl
 a25:=fun _=>by kernel_rfl
 z25:=fun _=>by kernel_rfl
 v25:=fun _=>by kernel_rfl
 t39:=by kernel_rfl
 a39:=fun _=>by kernel_rfl
 z39:=fun _=>by kernel_rfl
 v39:=fun _=>by kernel_rfl
 t45:=by kernel_rfl
 a45:=fun _=>by kernel_rfl
 z45:=fun _=>by kernel_rfl
 v45:=fun _=>by kernel_rfl
 t46:=by kernel_rfl
 a46:=fun _=>by kernel_rfl
 z46:=fun _=>by kernel_rfl
 v46:=fun _=>by kernel_rfl
 t50:=by kernel_rfl
 a50:=fun _=>by kernel_rfl
 z50:=fun _=>by kernel_rfl
 v50:=fun _=>by kernel_rfl
 t53:=by kernel_rfl
 a53:=fun _=>by kernel_rfl
 z53:=fun _=>by kernel_rfl
 v53:=fun _=>by kernel_rfl
 t55:=by kernel_rfl
 a55:=fun _=>by kernel_rfl
 z55:=fun _=>by kernel_rfl
 v55:=fun _=>by kernel_rfl
 t66:=by kernel_rfl
 a66:=fun _=>by kernel_rfl
 z66:=fun _=>by kernel_rfl
 v66:=fun _=>by kernel_rfl
 t70:=by kernel_rfl
 a70:=fun _=>by kernel_rfl
 z70:=fun _=>by kernel_rfl
 v70:=fun _=>by kernel_rfl
 t76:=by kernel_rfl
 a76:=fun _=>by kernel_rfl
 z76:=fun _=>by kernel_rfl
 v76:=fun _=>by kernel_rfl
 t77:=by kernel_rfl
 a77:=fun _=>by kernel_rfl
 z77:=fun _=>by kernel_rfl
 v77:=fun _=>by kernel_rfl
theorem zkn:∀ a b:List UInt8,decide (compareBytes a b<0)=za8 a b
 | [],[]=>rfl
 | [],_::_=>rfl
 | _::_,[]=>rfl
 | x::a,y::b=>by
  rw[zdm,← zkn a b]
  show decide ((if x<y then -1 else if y<x then 1 else compareBytes a b)<0)=_
  by_cases h1:x<y
  ·simp[h1]
  ·by_cases h2:y<x
   ·have:(x == y)=false:=by
     rw[beq_eq_false_iff_ne]
     rintro rfl
     exact UInt8.lt_irrefl _ h2
    simp[h1,h2,this]
   ·have:x=y:=UInt8.le_antisymm (UInt8.not_lt.1 h2) (UInt8.not_lt.1 h1)
    subst this
    simp[h1]
theorem zx2 (W:World) (bA bB:Nat) (a b:List UInt8) (ha:a.length=32) (hb:b.length=32) (hA:W.rangeAt bA 0 (a.map bv)) (hB:W.rangeAt bB 0 (b.map bv)) :
  (Extern.BytealgCompare.compare #[.slice (some ⟨bA,0,none⟩) 32 32,.slice (some ⟨bB,0,none⟩) 32 32]).run Tryz.prog W = .ok (.int .i64 (compareBytes a b)) W:=by
 have hl:∀ (blk:Nat) (l:List UInt8),l.length=32→W.rangeAt blk 0 (l.map bv)→(Extern.Bytes.bytesOf (.slice (some ⟨blk,0,none⟩) 32 32)).run Tryz.prog W = .ok ⟨l.toArray⟩ W:=by
  intro blk l hl hr
  have:=run_loadBytesX (P:=Tryz.prog) W (l.map fun x=>(x.toNat:Int)) ⟨blk,0,none⟩ .empty (fun j x hx=>by
   obtain ⟨hj,rfl⟩:=List.getElem?_eq_some_iff.1 hx
   have hj' : j<l.length:=by simpa using hj
   rw[Addr.add_mid]
   have:=hr j (bv l[j]) (by simp[hj'])
   simpa[bv] using this)
  rw[List.length_map,hl] at this
  show (Extern.Bytes.loadBytes _ 32 _).run _ _=_
  rw[this]
  have e:Lib.bytesOf (l.map fun x=>(x.toNat:Int))=l:=by
   unfold Lib.bytesOf
   rw[List.map_map]
   conv=>rhs;rw[← List.map_id l]
   apply List.map_congr_left
   intro x _
   simp
  rw[e]
  simp
 change Sem.run Tryz.prog (do pure (goInt (Extern.BytealgCompare.cmp (← Extern.Bytes.bytesOf (.slice (some ⟨bA,0,none⟩) 32 32)) (← Extern.Bytes.bytesOf (.slice (some ⟨bB,0,none⟩) 32 32))))) W=_
 simp only[Sem.run_bind,hl bA a ha hA,hl bB b hb hB,Sem.run_pure,Result.andThen]
 rw[cmp_eq]
 rfl
theorem zvt (W:World) (bA bB:Nat) (a b:List UInt8) (ha:a.length=32) (hb:b.length=32) (hA:W.rangeAt bA 0 (a.map bv)) (hB:W.rangeAt bB 0 (b.map bv)) :
  Calls Tryz.prog 85 #[.slice (some ⟨bA,0,none⟩) 32 32,.slice (some ⟨bB,0,none⟩) 32 32] W fun e w'=>e = .returned (.int .i64 (compareBytes a b))∧w'=W:=by
 have h8 := @run_callFunc_extern Tryz.prog 112 _ Extern.BytealgCompare.compare Tryz.func112 (by kernel_rfl) (by kernel_rfl) (by kernel_rfl) (by kernel_rfl)
 have h9:=zx2 W bA bB a b ha hb hA hB
 obtain ⟨y,hy⟩:∃ y,y=compareBytes a b:=⟨_,rfl⟩
 rw[← hy] at h9 ⊢
 clear hy hA hB ha hb
 go_enter Tryz.func85,Tryz.ntmps85
 go_wp2
 go_ret
 exact ⟨rfl,rfl⟩
theorem ziv (W:World) (a b:List UInt8) (ha:a.length=32) (hb:b.length=32) :
  Calls Tryz.prog 59 #[keyV a,keyV b] W fun e w'=>e = .returned (.int .i64 (compareBytes a b))∧∃ q os,w'=grow (W.drewN q) os:=by
 obtain ⟨AB,hAB⟩:∃ l,l=a.map bv:=⟨_,rfl⟩
 obtain ⟨BB,hBB⟩:∃ l,l=b.map bv:=⟨_,rfl⟩
 obtain ⟨y,hy⟩:∃ y,y=compareBytes a b:=⟨_,rfl⟩
 obtain ⟨W1,hW1,hB1,g1⟩:=zag W 33 AB
 obtain ⟨W2,hW2,hB2,g2⟩:=zag W1 33 BB
 have hs1:W1.heap.size=W.heap.size+1:=by rw[hW1];simp
 rw[hs1] at hB2
 obtain ⟨WD,hWD⟩:∃ V,V=W2.drew:=⟨_,rfl⟩
 have hfin:∃ q os,WD=grow (W.drewN q) os:=⟨1,#[.cells AB.toArray 33,.cells BB.toArray 33],by
  rw[hWD,hW2,hW1,alloc_eq_grow,alloc_eq_grow,grow_grow];rfl⟩
 have hc:=zvt WD W.heap.size (W.heap.size+1) a b ha hb (by rw[hWD,← hAB];exact zal (hB1.kept g2 (by simp)).drew) (by rw[hWD,← hBB];exact zal hB2.drew)
 rw[← hy] at hc
 have hW:W2=(W.alloc (.cells AB.toArray 33)).alloc (.cells BB.toArray 33):=by rw[hW2,hW1]
 rw[show keyV a = .agg AB.toArray by rw[hAB];rfl,show keyV b = .agg BB.toArray by rw[hBB];rfl,← hy]
 obtain ⟨HW,HC,HF⟩:=zh3 hW hc hfin
 clear hW hW1 hW2 hB1 hB2 g1 g2 hs1 hAB hBB hy hc hfin ha hb
 go_enter Tryz.func59,Tryz.ntmps59
 go_upto_region 1 with (rw[← uh HW])
 refine wp_region_noPanic ?_
 refine wp_region_held_drew (S:=fun V=>V=WD) (by kernel_rfl) hWD.symm (fun _ => ?_)
 rw[← hWD]
 clear hWD
 refine tz 0 5 (.slice 33 (.tmp 2) none none none) (.slice (some ⟨W.heap.size,0,none⟩) 32 32) rfl ?_ (y:=(Or.inl ⟨by rfl,fun V hV=>by (subst hV;have z9:=zbw W.heap.size 0;go_simp)⟩))
 refine tz 1 6 (.slice 33 (.tmp 3) none none none) (.slice (some ⟨W.heap.size+1,0,none⟩) 32 32) rfl ?_ (y:=(Or.inl ⟨by rfl,fun V hV=>by (subst hV;have z9:=zbw (W.heap.size+1) 0;go_simp)⟩))
 (try simp only[pq])
 refine rd 2 (some 7) (.call { callee := .value (.func 85),args := #[(.tmp 5),(.tmp 6)],argTypes := #[37,37] }) (fun K9 hK9 => ?_)
 go_simp
 go_at_call 85
 refine (uh HC).mono ?_
 rintro e w2 ⟨rfl,e2⟩
 subst w2
 go_wp2_with fail
 refine hK9.out _ _ rfl (fun _ => ?_)
 clear hK9 K9
 refine tq 3 4 (.assign (.tmp 7)) (.int .i64 y) rfl ?_
 (try simp only[pq])
 refine wpAnyH_done (by kernel_rfl) ?_ _
 refine NoPanic.normal ?_
 go_wp2
 go_ret
 exact ⟨rfl,uh HF⟩
theorem zx3 (W:World) (q:Nat) (os:Array Obj):W.grownBy (grow (W.drewN q) os) none :=
 ⟨rfl,rfl,rfl,by simp[grow,World.drewN],fun i hi _=>by
  have:i<(W.drewN q).heap.size:=hi
  simp only[grow]
  rw[Array.getElem?_append_left this]
  rfl⟩
theorem zlr (w:World) (a b:List UInt8) (ha:a.length=32) (hb:b.length=32) :
  Calls Tryz.prog 30 #[keyV a,keyV b] w fun e w'=>e = .returned (.bool (za8 a b))∧w.grownBy w' none:=by
 obtain ⟨AB,hAB⟩:∃ l,l=a.map bv:=⟨_,rfl⟩
 obtain ⟨BB,hBB⟩:∃ l,l=b.map bv:=⟨_,rfl⟩
 have hAl:AB.length=32:=by rw[hAB];simp[ha]
 have hBl:BB.length=32:=by rw[hBB];simp[hb]
 obtain ⟨W1,hW1,hB1,g1⟩:=zag w 33 AB
 obtain ⟨W2,hW2,hB2,g2⟩:=zag W1 33 BB
 have hs1:W1.heap.size=w.heap.size+1:=by rw[hW1];simp
 rw[hs1] at hB2
 have hc:=ziv W2 a b ha hb
 rw[← zkn]
 obtain ⟨y,hy⟩:∃ y,y=compareBytes a b:=⟨_,rfl⟩
 rw[← hy] at hc ⊢
 have hra:=zal (hB1.kept g2 (by simp))
 have hrb:=zal hB2
 have hiA:(Tryz.prog.info? 33).map (·.size)=some AB.length:=by rw[hAl];exact zat
 have hiB:(Tryz.prog.info? 33).map (·.size)=some BB.length:=by rw[hBl];exact zat
 have hW:W2=(w.alloc (.cells AB.toArray 33)).alloc (.cells BB.toArray 33):=by rw[hW2,hW1]
 rw[show keyV a = .agg AB.toArray by rw[hAB];rfl,show keyV b = .agg BB.toArray by rw[hBB];rfl] at hc ⊢
 obtain ⟨HW,HIA,HIB⟩:=zh3 hW hiA hiB
 have HG:=hide (tn g1 g2)
 clear hW hW1 hW2 hB1 hB2 g1 g2 hs1 hAB hBB hy ha hb hAl hBl hiA hiB
 go_enter Tryz.func30,Tryz.ntmps30
 go_wp2_with (first
  | (rw[← uh HW];refine wpList_load_mid rfl 33 _ rfl w.heap.size 0 rfl AB _ hra Tryz.underlying33 rfl (uh HIA) ?_;clear hra)
  | (refine wpList_load_mid rfl 33 _ rfl (w.heap.size+1) 0 rfl BB _ hrb Tryz.underlying33 rfl (uh HIB) ?_;clear hrb)
  | (go_at_call 59;refine hc.mono ?_;rintro e w3 ⟨rfl,q,os,e3⟩;clear hc;have g3:=hide (tn (uh HG) (e3 ▸ zx3 W2 q os));clear e3))
 go_ret
 exact ⟨rfl,uh g3⟩
abbrev Nm:={ l:List UInt8 // l.length=32 }
instance:Inhabited Nm:=⟨⟨List.replicate 32 0,by simp⟩⟩
def encN (x:Nm):List Value:=x.1.map bv
theorem zgi (x:Nm):(encN x).length=32:=by simp[encN,x.2]
theorem zko (x y:Nm):ltOf (fun x y:Nm=>compareBytes x.1 y.1) x y=za8 x.1 y.1:=zkn x.1 y.1
theorem zvu:SWO (ltOf fun x y:Nm=>compareBytes x.1 y.1) where
 irrefl x:=by rw[zko];exact zf3 _
 trans x y z h1 h2:=by rw[zko] at *;exact zc5 _ _ _ h1 h2
 ntrans x y z h1 h2:=by
  rw[zko] at *
  cases h3:za8 x.1 z.1 with
  | false=>rfl
  | true =>
   by_cases he:za8 y.1 x.1=true
   ·have:=zc5 _ _ _ he h3
    rw[h2] at this
    cases this
   ·have e1:=zc4 _ _ h1 (by simpa using he)
    rw[e1] at h3
    rw[h2] at h3
    cases h3
end Go.Proofs.YthhnfloohbdaiaaGreatDoor

/- Lemmas. -/
namespace Go.Proofs.YthhnfloohbdaiaaGreatDoor
open Go.RowKit
set_option maxRecDepth 100000
structure CmR where
 id:List UInt8
 time:Nat
 pars:List (List UInt8)
 po:Option Addr
 pc:Nat
deriving Inhabited
def cmC (r:CmR):List Value:=r.id.map bv++[.int .u64 (r.time:Int),.slice r.po r.pars.length r.pc]
theorem zc7 (r:CmR) (h:r.id.length=32):(cmC r).length=34:=by simp[cmC,h]
theorem zfs (r:CmR):∀ u∈cmC r,u.oneCell'=true:=by
 intro u hu
 simp only[cmC,List.mem_append,List.mem_cons,List.not_mem_nil,or_false] at hu
 rcases hu with hu | rfl | rfl
 ·exact za6 _ u hu
 all_goals rfl
theorem zst (r:CmR) (h:r.id.length=32):(cmC r)[32]? = some (.int .u64 (r.time:Int))∧(cmC r)[33]? = some (.slice r.po r.pars.length r.pc):=by
 have hl:(r.id.map bv).length=32:=by simp[h]
 unfold cmC
 refine ⟨?_,?_⟩ <;> rw[List.getElem?_append_right (by omega),hl] <;> rfl
theorem zx4 {w:World} {b o:Nat} {r:CmR} (h:w.rangeAt b o (cmC r)):w.rangeAt b o (r.id.map bv):=by
 intro j v hv
 refine h j v ?_
 unfold cmC
 rw[List.getElem?_append_left (List.getElem?_eq_some_iff.1 hv).1]
 exact hv
def cmLt (a b:CmR):Bool:=if a.time=b.time then za8 a.id b.id else decide (b.time<a.time)
theorem zfc:(Tryz.prog.info? 109).map (·.size)=some 34:=by kernel_rfl
theorem zvv (w:World):(Go.sizeOf 109).run Tryz.prog w = .ok 34 w:=by kernel_rfl
def zls:CmR:=⟨List.replicate 32 0,0,[],none,0⟩
theorem zhq (w:World):(zeroValue 109).run Tryz.prog w = .ok (.agg (cmC zls).toArray) w:=by kernel_rfl
theorem zsu:(Tryz.prog.info? 109).map (fun i=>(i.zero,i.size,i.bytes))=some (some (.agg (cmC zls).toArray),34,64):=by kernel_rfl
structure WaitAt (w:World) (base wb:Nat) (sp:Option Addr) (v:Value) (H:List CmR):Prop where
 blk:Blk w wb 104 [.pointer sp,v]
 own:w.ownsRow base 109 34 v H.length (H.flatMap cmC)
 ids:∀ r∈H,r.id.length=32
 nb:base≤wb
theorem WaitAt.kept {w a:World} {base wb:Nat} {sp:Option Addr} {v:Value} {H:List CmR} {r:Option Nat} (h:WaitAt w base wb sp v H) (g:w.grownBy a r) (h1:some wb≠r) (h2:v.ownBlock=none∨v.ownBlock≠r):WaitAt a base wb sp v H :=
 ⟨h.blk.kept g h1,h.own.kept g h2,h.ids,h.nb⟩
theorem WaitAt.none {w a:World} {base wb:Nat} {sp:Option Addr} {v:Value} {H:List CmR} (h:WaitAt w base wb sp v H) (g:w.grownBy a Option.none):WaitAt a base wb sp v H :=
 h.kept g (by simp) (by cases v.ownBlock <;> simp)
theorem WaitAt.cell {w:World} {base wb:Nat} {sp:Option Addr} {v:Value} {H:List CmR} (h:WaitAt w base wb sp v H):w.cell? ⟨wb,0,Option.none⟩=some (.pointer sp)∧w.cell? ⟨wb,1,Option.none⟩=some v:=⟨by rw[h.blk.cell];rfl,by rw[h.blk.cell];rfl⟩
theorem WaitAt.row {w:World} {base wb:Nat} {sp:Option Addr} {v:Value} {H:List CmR} (h:WaitAt w base wb sp v H) (hn:0<H.length):∃ g cap,v = .slice (some ⟨g,0,Option.none⟩) H.length cap∧base≤g∧g<w.heap.size∧H.length≤cap∧∀ i (hi:i<H.length),w.rangeAt g (i*34) (cmC H[i]):=by
 obtain ⟨g,cap,rfl,h1,h2⟩:=h.own.form hn
 obtain ⟨ao,c,e,_,hc,_,_,h3⟩:=ze8 cmC 34 h.own (fun x hx=>zc7 x (h.ids x hx))
 cases e
 refine ⟨g,cap,rfl,h1,h2,hc,fun i hi => ?_⟩
 have:=h3 ⟨g,0,Option.none⟩ rfl i hi
 simpa using this
theorem zkp (w:World) (base wb:Nat) (sp:Option Addr) (v:Value) (H:List CmR) (h:WaitAt w base wb sp v H) :
  Calls Tryz.prog 56 #[.pointer (some ⟨wb,0,none⟩)] w fun e w'=>e = .returned (.int .i64 (H.length:Int))∧w'=w:=by
 obtain ⟨ao,c,rfl⟩:=zbd h.own
 have hc:=h.cell.2
 clear h
 go_enter Tryz.func56,Tryz.ntmps56
 go_wp2
 go_ret
 exact ⟨rfl,rfl⟩
set_option maxHeartbeats 4000000 in
theorem ze3 (w:World) (base wb:Nat) (sp:Option Addr) (v:Value) (H:List CmR) (h:WaitAt w base wb sp v H) (i j:Nat) (hi:i<H.length) (hj:j<H.length) (hl:H.length≤100000) :
  Calls Tryz.prog 198 #[.pointer (some ⟨wb,0,none⟩),.int .i64 (i:Int),.int .i64 (j:Int)] w fun e w'=>e = .returned (.bool (cmLt H[i] H[j]))∧w.grownBy w' none:=by
 obtain ⟨g,cap,rfl,hg,hgl,hcap,hrow⟩:=h.row (by omega)
 have hc:=h.cell.2
 have hrI:=hrow i hi
 have hrJ:=hrow j hj
 have hid:=h.ids _ (List.getElem_mem hi)
 have hjd:=h.ids _ (List.getElem_mem hj)
 obtain ⟨A,hA⟩:∃ A,A=H[i]:=⟨_,rfl⟩
 obtain ⟨B,hB⟩:∃ A,A=H[j]:=⟨_,rfl⟩
 rw[← hA] at hrI hid
 rw[← hB] at hrJ hjd
 rw[← hA,← hB]
 obtain ⟨AC,hAC⟩:∃ A',A'=cmC A:=⟨_,rfl⟩
 obtain ⟨BC,hBC⟩:∃ A',A'=cmC B:=⟨_,rfl⟩
 rw[← hAC] at hrI
 rw[← hBC] at hrJ
 have hAl:AC.length=34:=by rw[hAC];exact zc7 _ hid
 have hBl:BC.length=34:=by rw[hBC];exact zc7 _ hjd
 have hAo:AC.toArray.all (·.oneCell')=true:=by rw[hAC];exact all_oneCell_toArray (zfs _)
 have hBo:BC.toArray.all (·.oneCell')=true:=by rw[hBC];exact all_oneCell_toArray (zfs _)
 have hiA:(Tryz.prog.info? 109).map (·.size)=some AC.length:=by rw[hAl];exact zfc
 have hiB:(Tryz.prog.info? 109).map (·.size)=some BC.length:=by rw[hBl];exact zfc
 have hiA2:(Tryz.prog.info? 109).map (·.size)=some AC.toArray.size:=by simpa using hiA
 have hiB2:(Tryz.prog.info? 109).map (·.size)=some BC.toArray.size:=by simpa using hiB
 obtain ⟨ZC,hZC⟩:∃ Z,Z=cmC zls:=⟨_,rfl⟩
 have hzv:∀ w,(zeroValue 109).run Tryz.prog w = .ok (.agg ZC.toArray) w:=fun w=>by rw[hZC];exact zhq w
 have hZl:ZC.length=34:=by rw[hZC];rfl
 have hZA:ZC.toArray.size=AC.toArray.size:=by simp[hZl,hAl]
 have hZB:ZC.toArray.size=BC.toArray.size:=by simp[hZl,hBl]
 obtain ⟨n,hn⟩:∃ n,n=H.length:=⟨_,rfl⟩
 rw[← hn] at hc hi hj hl
 have h0:w.grownBy w.drew none:=zak (zab _ _)
 obtain ⟨IA,hIA⟩:∃ l,l=A.id.map bv:=⟨_,rfl⟩
 obtain ⟨IB,hIB⟩:∃ l,l=B.id.map bv:=⟨_,rfl⟩
 have hkA:keyV A.id = .agg IA.toArray:=by rw[hIA];rfl
 have hkB:keyV B.id = .agg IB.toArray:=by rw[hIB];rfl
 have hiIA:(Tryz.prog.info? 33).map (·.size)=some IA.length:=by rw[hIA];simpa[hid] using zat
 have hiIB:(Tryz.prog.info? 33).map (·.size)=some IB.length:=by rw[hIB];simpa[hjd] using zat
 have HFIN:Hid (∀ V p7 p8,w.grownBy V none→Blk V p7 109 AC→Blk V p8 109 BC→V.cell? ⟨p7,32,none⟩=some (.int .u64 (A.time:Int))∧V.cell? ⟨p8,32,none⟩=some (.int .u64 (B.time:Int))∧V.rangeAt p7 0 IA∧V.rangeAt p8 0 IB∧Calls Tryz.prog 30 #[.agg IA.toArray,.agg IB.toArray] V fun e w'=>e = .returned (.bool (za8 A.id B.id))∧V.grownBy w' none):=by
  intro V p7 p8 _ h7 h8
  rw[hAC] at h7
  rw[hBC] at h8
  refine ⟨by rw[h7.cell];exact (zst A hid).1,by rw[h8.cell];exact (zst B hjd).1,?_,?_,?_⟩
  ·rw[hIA];exact zx4 (zal h7)
  ·rw[hIB];exact zx4 (zal h8)
  ·rw[← hkA,← hkB];exact zlr V _ _ hid hjd
 obtain ⟨tA,htA⟩:∃ t:Nat,t=A.time:=⟨_,rfl⟩
 obtain ⟨tB,htB⟩:∃ t:Nat,t=B.time:=⟨_,rfl⟩
 obtain ⟨lAB,hlAB⟩:∃ l:Bool,l=za8 A.id B.id:=⟨_,rfl⟩
 rw[← htA,← htB,← hlAB] at HFIN
 obtain ⟨y,hy⟩:∃ y,y=cmLt A B:=⟨_,rfl⟩
 rw[← hy]
 have HY:Hid (y=if tA=tB then lAB else decide (tB<tA)):=by rw[htA,htB,hlAB,hy];rfl
 obtain ⟨HIA,HIB,HIA2,HIB2,HAO,HBO⟩:=zh6 hiA hiB hiA2 hiB2 hAo hBo
 obtain ⟨HZA,HZB,HJA,HJB⟩:=zh4 hZA hZB hiIA hiIB
 clear h hrow hid hjd hA hB hAC hBC hAl hBl hAo hBo hiA hiB hiA2 hiB2 hZC hZl hZA hZB hn hIA hIB hkA hkB hiIA hiIB htA htB hlAB hy hg hgl hcap
 go_enter Tryz.func198,Tryz.ntmps198
 go_upto_region 1 with fail
 refine wp_region_noPanic ?_
 refine wp_region_held_drew (S:=fun V=>w.grownBy V none) (by kernel_rfl) h0 (fun _ => ?_)
 obtain ⟨WD,hWD⟩:∃ V,V=w.drew:=⟨_,rfl⟩
 rw[← hWD]
 rw[← hWD] at h0
 clear hWD
 refine tq 0 9 (.move (.tmp 0)) (.pointer (some ⟨wb,0,none⟩)) h0 ?_
 refine tq 4 13 (.move (.tmp 1)) (.int .i64 (i:Int)) h0 ?_
 refine tq 7 16 (.move (.tmp 0)) (.pointer (some ⟨wb,0,none⟩)) h0 ?_
 refine tq 11 20 (.move (.tmp 2)) (.int .i64 (j:Int)) h0 ?_
 (try simp only[pq])
 refine tq 1 10 (.nilCheck (.tmp 9)) (.pointer (some ⟨wb,0,none⟩)) h0 ?_
 refine tq 8 17 (.nilCheck (.tmp 16)) (.pointer (some ⟨wb,0,none⟩)) h0 ?_
 refine tq 2 11 (.fieldAddr 104 (.tmp 10) 1) (.pointer (some ⟨wb,1,none⟩)) h0 ?_
 refine tq 9 18 (.fieldAddr 104 (.tmp 17) 1) (.pointer (some ⟨wb,1,none⟩)) h0 ?_
 (try simp only[pq])
 refine tz 3 12 (.load 102 (.tmp 11)) (.slice (some ⟨g,0,none⟩) n cap) h0 ?_ (y:=(Or.inl ⟨by rfl,fun V hV=>by (have hv1:=hV.cell hc (by simp);go_simp)⟩))
 refine tz 10 19 (.load 102 (.tmp 18)) (.slice (some ⟨g,0,none⟩) n cap) h0 ?_ (y:=(Or.inl ⟨by rfl,fun V hV=>by (have hv1:=hV.cell hc (by simp);go_simp)⟩))
 refine tq 5 14 (.indexAddr 102 (.tmp 12) (.tmp 13)) (.pointer (some ⟨g,i*34,none⟩)) h0 ?_
 refine tq 12 21 (.indexAddr 102 (.tmp 19) (.tmp 20)) (.pointer (some ⟨g,j*34,none⟩)) h0 ?_
 (try simp only[pq])
 refine tz 6 15 (.load 109 (.tmp 14)) (.agg AC.toArray) h0 ?_ (y:=(yieldsIf_load_mid (by rfl) _ _ rfl _ _ rfl AC _ (fun V hV=>zaf hrI hV (by simp)) Tryz.underlying109 rfl (uh HIA)))
 refine tz 13 22 (.load 109 (.tmp 21)) (.agg BC.toArray) h0 ?_ (y:=(yieldsIf_load_mid (by rfl) _ _ rfl _ _ rfl BC _ (fun V hV=>zaf hrJ hV (by simp)) Tryz.underlying109 rfl (uh HIB)))
 (try simp only[pq])
 refine wpAnyH_ready (rs:=[14,15]) (by kernel_rfl) (by simp) ?_
 refine AllReadyH.cons (o:=⟨some 7,.alloc 109,_,_,_,_⟩) rfl (fun K9 hK9 => ?_) (AllReadyH.cons (o:=⟨some 8,.alloc 109,_,_,_,_⟩) rfl (fun K9 hK9 => ?_) AllReadyH.nil)
 ·go_simp
  obtain ⟨wa1,hwa,hB7,ga⟩:=zag WD 109 ZC
  rw[← hwa]
  have hs1:=tn h0 ga
  refine hK9.out _ _ hs1 (fun _ => ?_)
  clear hK9 K9 hwa
  (try simp only[pq])
  have hl7:WD.heap.size<wa1.heap.size:=hB7.lt
  clear ga
  refine rd 15 (some 8) (.alloc 109) (fun K9 hK9 => ?_)
  go_simp
  obtain ⟨wa2,hwa,hB8,ga⟩:=zag wa1 109 ZC
  rw[← hwa]
  have hs2:=tn hs1 ga
  refine hK9.out _ _ hs2 (fun _ => ?_)
  clear hK9 K9 hwa
  (try simp only[pq])
  replace hB7:=hB7.kept ga (by simp)
  have hl8:wa1.heap.size<wa2.heap.size:=hB8.lt
  clear ga
  refine rd 16 none (.store 109 (.tmp 7) (.tmp 15)) (fun K9 hK9 => ?_)
  rw[if_pos (by rfl)]
  refine wp_store_row _ _ _ rfl (WD.heap.size) _ rfl rfl _ _ hB7 (uh HIA2) (uh HZA) (uh HAO) ?_
  obtain ⟨ws3,hws⟩:∃ V,V=wa2.setRow (WD.heap.size) AC.toArray:=⟨_,rfl⟩
  rw[← hws]
  have hs3:w.grownBy ws3 none:=by rw[hws];exact zam hs2 _ (Or.inl (by have:=(h0).size;omega))
  replace hB7:=hB7.row AC
  rw[← hws] at hB7
  replace hB8:=hB8.row_other (WD.heap.size) AC.toArray (by omega)
  rw[← hws] at hB8
  refine hK9.out _ _ hs3 (fun _ => ?_)
  clear hK9 K9 hws
  (try simp only[Act.put])
  refine rd 17 none (.store 109 (.tmp 8) (.tmp 22)) (fun K9 hK9 => ?_)
  rw[if_pos (by rfl)]
  refine wp_store_row _ _ _ rfl (wa1.heap.size) _ rfl rfl _ _ hB8 (uh HIB2) (uh HZB) (uh HBO) ?_
  obtain ⟨ws4,hws⟩:∃ V,V=ws3.setRow (wa1.heap.size) BC.toArray:=⟨_,rfl⟩
  rw[← hws]
  have hs4:w.grownBy ws4 none:=by rw[hws];exact zam hs3 _ (Or.inl (by have:=(h0).size;omega))
  replace hB8:=hB8.row BC
  rw[← hws] at hB8
  replace hB7:=hB7.row_other (wa1.heap.size) BC.toArray (by omega)
  rw[← hws] at hB7
  refine hK9.out _ _ hs4 (fun _ => ?_)
  clear hK9 K9 hws
  (try simp only[Act.put])
  refine wpAnyH_done (by kernel_rfl) ?_ _
  refine NoPanic.normal ?_
  obtain ⟨d7,d8,r7,r8,cl⟩:=uh HFIN ws4 (WD.heap.size) (wa1.heap.size) hs4 hB7 hB8
  have hy9:=uh HY
  clear hB7 hB8 hl7 hl8 hrI hrJ hc
  by_cases ht:tA=tB
  ·rw[if_pos ht] at hy9
   subst ht
   subst hy9
   go_wp2_with (first | (refine wpList_load_mid rfl 33 _ rfl (WD.heap.size) 0 rfl IA _ r7 Tryz.underlying33 rfl (uh HJA) ?_;clear r7) | (refine wpList_load_mid rfl 33 _ rfl (wa1.heap.size) 0 rfl IB _ r8 Tryz.underlying33 rfl (uh HJB) ?_;clear r8) | (go_at_call 30;refine cl.mono ?_;rintro e w9 ⟨rfl,g9⟩;clear cl))
   go_ret
   exact ⟨rfl,tn hs4 g9⟩
  ·rw[if_neg ht] at hy9
   have ht2:¬ ((tA:Int)=(tB:Int)):=by omega
   subst hy9
   clear r7 r8 cl
   go_wp2
   go_ret
   exact ⟨rfl,hs4⟩
 ·go_simp
  obtain ⟨wa1,hwa,hB8,ga⟩:=zag WD 109 ZC
  rw[← hwa]
  have hs1:=tn h0 ga
  refine hK9.out _ _ hs1 (fun _ => ?_)
  clear hK9 K9 hwa
  (try simp only[pq])
  have hl8:WD.heap.size<wa1.heap.size:=hB8.lt
  clear ga
  refine rd 14 (some 7) (.alloc 109) (fun K9 hK9 => ?_)
  go_simp
  obtain ⟨wa2,hwa,hB7,ga⟩:=zag wa1 109 ZC
  rw[← hwa]
  have hs2:=tn hs1 ga
  refine hK9.out _ _ hs2 (fun _ => ?_)
  clear hK9 K9 hwa
  (try simp only[pq])
  replace hB8:=hB8.kept ga (by simp)
  have hl7:wa1.heap.size<wa2.heap.size:=hB7.lt
  clear ga
  refine rd 16 none (.store 109 (.tmp 7) (.tmp 15)) (fun K9 hK9 => ?_)
  rw[if_pos (by rfl)]
  refine wp_store_row _ _ _ rfl (wa1.heap.size) _ rfl rfl _ _ hB7 (uh HIA2) (uh HZA) (uh HAO) ?_
  obtain ⟨ws3,hws⟩:∃ V,V=wa2.setRow (wa1.heap.size) AC.toArray:=⟨_,rfl⟩
  rw[← hws]
  have hs3:w.grownBy ws3 none:=by rw[hws];exact zam hs2 _ (Or.inl (by have:=(h0).size;omega))
  replace hB7:=hB7.row AC
  rw[← hws] at hB7
  replace hB8:=hB8.row_other (wa1.heap.size) AC.toArray (by omega)
  rw[← hws] at hB8
  refine hK9.out _ _ hs3 (fun _ => ?_)
  clear hK9 K9 hws
  (try simp only[Act.put])
  refine rd 17 none (.store 109 (.tmp 8) (.tmp 22)) (fun K9 hK9 => ?_)
  rw[if_pos (by rfl)]
  refine wp_store_row _ _ _ rfl (WD.heap.size) _ rfl rfl _ _ hB8 (uh HIB2) (uh HZB) (uh HBO) ?_
  obtain ⟨ws4,hws⟩:∃ V,V=ws3.setRow (WD.heap.size) BC.toArray:=⟨_,rfl⟩
  rw[← hws]
  have hs4:w.grownBy ws4 none:=by rw[hws];exact zam hs3 _ (Or.inl (by have:=(h0).size;omega))
  replace hB8:=hB8.row BC
  rw[← hws] at hB8
  replace hB7:=hB7.row_other (WD.heap.size) BC.toArray (by omega)
  rw[← hws] at hB7
  refine hK9.out _ _ hs4 (fun _ => ?_)
  clear hK9 K9 hws
  (try simp only[Act.put])
  refine wpAnyH_done (by kernel_rfl) ?_ _
  refine NoPanic.normal ?_
  obtain ⟨d7,d8,r7,r8,cl⟩:=uh HFIN ws4 (wa1.heap.size) (WD.heap.size) hs4 hB7 hB8
  have hy9:=uh HY
  clear hB7 hB8 hl7 hl8 hrI hrJ hc
  by_cases ht:tA=tB
  ·rw[if_pos ht] at hy9
   subst ht
   subst hy9
   go_wp2_with (first | (refine wpList_load_mid rfl 33 _ rfl (wa1.heap.size) 0 rfl IA _ r7 Tryz.underlying33 rfl (uh HJA) ?_;clear r7) | (refine wpList_load_mid rfl 33 _ rfl (WD.heap.size) 0 rfl IB _ r8 Tryz.underlying33 rfl (uh HJB) ?_;clear r8) | (go_at_call 30;refine cl.mono ?_;rintro e w9 ⟨rfl,g9⟩;clear cl))
   go_ret
   exact ⟨rfl,tn hs4 g9⟩
  ·rw[if_neg ht] at hy9
   have ht2:¬ ((tA:Int)=(tB:Int)):=by omega
   subst hy9
   clear r7 r8 cl
   go_wp2
   go_ret
   exact ⟨rfl,hs4⟩
theorem zlt {w:World} {base k n g cap:Nat} {t:TypeId} {xs:List Value} (h:w.ownsRow base t k (.slice (some ⟨g,0,none⟩) n cap) n xs):∃ sp,Blk w g t (xs++sp)∧(xs++sp).length=cap*k∧n≤cap∧cap≤maxLen∧base≤g:=by
 rcases h.2 with ⟨h1,_⟩ | ⟨g',cap',cur,hv,hg,hh,h3,h4,h5,h6⟩
 ·cases h1
 ·cases hv
  refine ⟨cur.toList.drop (n*k),?_,?_,h3,h4,hg⟩
  ·rw[← h6,List.take_append_drop]
   unfold Blk
   rw[hh]
  ·rw[← h6,List.take_append_drop]
   simpa using h5
theorem zsv {w:World} {base k n g cap:Nat} {t:TypeId} {xs sp:List Value} (hB:Blk w g t (xs++sp)) (hx:xs.length=n*k) (hl:(xs++sp).length=cap*k) (h1:n≤cap) (h2:cap≤maxLen) (hg:base≤g):w.ownsRow base t k (.slice (some ⟨g,0,none⟩) n cap) n xs :=
 ⟨hx,Or.inr ⟨g,cap,(xs++sp).toArray,rfl,hg,hB,h1,h2,by simpa using hl,by simp[← hx]⟩⟩
theorem ziw {α:Type} (f:α→List Value) (k:Nat) {w:World} {base g cap:Nat} {t:TypeId} {L:List α} (h:w.ownsRow base t k (.slice (some ⟨g,0,none⟩) L.length cap) L.length (L.flatMap f)) (hf:∀ x∈L,(f x).length=k) (i:Nat) (hi:i<L.length) (x:α) (hx:(f x).length=k) :
  (w.setCells g (i*k) (f x)).ownsRow base t k (.slice (some ⟨g,0,none⟩) L.length cap) L.length ((L.set i x).flatMap f)∧w.grownBy (w.setCells g (i*k) (f x)) (some g):=by
 obtain ⟨sp,hB,hl,h1,h2,hg⟩:=zlt h
 have hsplit:L.flatMap f=(L.take i).flatMap f++(f L[i]++(L.drop (i+1)).flatMap f):=by
  conv=>lhs;rw[← List.take_append_drop i L,List.drop_eq_getElem_cons hi]
  rw[List.flatMap_append,List.flatMap_cons]
 have hset:(L.set i x).flatMap f=(L.take i).flatMap f++(f x++(L.drop (i+1)).flatMap f):=by
  rw[List.set_eq_take_append_cons_drop,if_pos hi,List.flatMap_append,List.flatMap_cons]
 have hA:((L.take i).flatMap f).length=i*k:=by
  rw[zby f k (L.take i) (fun y hy=>hf y (List.mem_of_mem_take hy)),List.length_take,Nat.min_eq_left (Nat.le_of_lt hi)]
 have hB2:Blk w g t ((L.take i).flatMap f++(f L[i]++((L.drop (i+1)).flatMap f++sp))):=by
  rw[hsplit] at hB
  simpa using hB
 have hS:=Blk.setCells (f x) (f L[i]) hB2 (by rw[hf _ (List.getElem_mem hi),hx])
 rw[hA] at hS
 have hS2:Blk (w.setCells g (i*k) (f x)) g t ((L.set i x).flatMap f++sp):=by
  rw[hset]
  simpa using hS
 have hfl:((L.set i x).flatMap f).length=L.length*k:=by
  rw[zby f k (L.set i x) (fun y hy=>by
   rcases List.mem_or_eq_of_mem_set hy with hy | rfl
   ·exact hf y hy
   ·exact hx),List.length_set]
 have hl2:((L.set i x).flatMap f++sp).length=cap*k:=by
  have h3:(L.flatMap f).length=L.length*k:=zby f k L hf
  rw[List.length_append] at hl ⊢
  omega
 exact ⟨zsv hS2 hfl hl2 h1 h2 hg,zbi (Or.inr rfl) _ _ (zab _ _)⟩
theorem zft {α:Type} (f:α→List Value) (k:Nat) {w:World} {base g cap:Nat} {t:TypeId} {L:List α} (h:w.ownsRow base t k (.slice (some ⟨g,0,none⟩) L.length cap) L.length (L.flatMap f)) (hf:∀ x∈L,(f x).length=k) (i:Nat) (hi:i<L.length):w.there g (i*k) k:=by
 obtain ⟨sp,hB,hl,h1,h2,hg⟩:=zlt h
 intro j hj
 have h3:(L.flatMap f).length=L.length*k:=zby f k L hf
 have h4:(i+1)*k≤L.length*k:=Nat.mul_le_mul_right k hi
 rw[Nat.succ_mul] at h4
 exact hB.there (i*k) k (by rw[List.length_append];omega) j hj
def zde (H:List CmR) (i j:Nat) (hi:i<H.length) (hj:j<H.length):List CmR:=(H.set i H[j]).set j H[i]
set_option maxHeartbeats 4000000 in
theorem ze4 (w:World) (base wb:Nat) (sp:Option Addr) (v:Value) (H:List CmR) (h:WaitAt w base wb sp v H) (i j:Nat) (hi:i<H.length) (hj:j<H.length) (hl:H.length≤100000) :
  Calls Tryz.prog 201 #[.pointer (some ⟨wb,0,none⟩),.int .i64 (i:Int),.int .i64 (j:Int)] w fun e w'=>e = .returned (.tuple #[])∧WaitAt w' base wb sp v (zde H i j hi hj)∧w.grownBy w' v.ownBlock:=by
 obtain ⟨g,cap,rfl,hg,hgl,hcap,hrow⟩:=h.row (by omega)
 have hc:=h.cell.2
 have hrI:=hrow i hi
 have hrJ:=hrow j hj
 have hid:=h.ids _ (List.getElem_mem hi)
 have hjd:=h.ids _ (List.getElem_mem hj)
 have hgw:g≠wb:=fun e=>zaj h.own h.blk (by decide) (by rw[← e];rfl)
 have hf:∀ x∈H,(cmC x).length=34:=fun x hx=>zc7 x (h.ids x hx)
 obtain ⟨o1,g1⟩:=ziw cmC 34 h.own hf i hi H[j] (zc7 _ hjd)
 have hl1:(H.set i H[j]).length=H.length:=List.length_set ..
 have hf1:∀ x∈H.set i H[j],(cmC x).length=34:=fun x hx=>by
  rcases List.mem_or_eq_of_mem_set hx with hx | rfl
  ·exact hf x hx
  ·exact zc7 _ hjd
 obtain ⟨o2,g2⟩:=ziw (w:=w.setCells g (i*34) (cmC H[j])) (base:=base) (cap:=cap) cmC 34 (L:=H.set i H[j]) (by rw[hl1];exact o1) hf1 j (by rw[hl1];exact hj) H[i] (zc7 _ hid)
 rw[hl1] at o2
 have t1:w.drew.there g (i*34) 34:=zft cmC 34 h.own hf i hi
 have t2:(w.drew.setCells g (i*34) (cmC H[j])).there g (j*34) 34:=World.there_setCells (w:=w.drew) (show w.drew.there g (j*34) 34 from zft cmC 34 h.own hf j hj) _ _ _
 have hdr:∀ (b o:Nat) (l:List Value) (V:World),(V.setCells b o l).drew=V.drew.setCells b o l:=by
  intro b o l
  induction l generalizing o with
  | nil=>intro V;rfl
  | cons x l ih=>intro V;simp only[World.setCells];rw[ih];rfl
 have hfin:WaitAt ((w.drew.setCells g (i*34) (cmC H[j])).setCells g (j*34) (cmC H[i])) base wb sp (.slice (some ⟨g,0,none⟩) H.length cap) (zde H i j hi hj)∧w.grownBy ((w.drew.setCells g (i*34) (cmC H[j])).setCells g (j*34) (cmC H[i])) (some g):=by
  have hlen:(zde H i j hi hj).length=H.length:=by simp[zde]
  rw[← hdr,← hdr]
  have gT:w.grownBy (((w.setCells g (i*34) (cmC H[j])).setCells g (j*34) (cmC H[i])).drew) (some g):=zak (zae g1 g2 (fun _ e=>Or.inr e))
  refine ⟨⟨h.blk.kept gT (fun e=>hgw (by cases e;rfl)),?_,fun r hr => ?_,h.nb⟩,gT⟩
  ·rw[hlen]
   exact o2.kept (zak (zab _ none)) (by simp[Value.ownBlock])
  ·unfold zde at hr
   rcases List.mem_or_eq_of_mem_set hr with hr | rfl
   ·rcases List.mem_or_eq_of_mem_set hr with hr | rfl
    ·exact h.ids r hr
    ·exact hjd
   ·exact hid
 obtain ⟨AC,hAC⟩:∃ A',A'=cmC H[i]:=⟨_,rfl⟩
 obtain ⟨BC,hBC⟩:∃ A',A'=cmC H[j]:=⟨_,rfl⟩
 rw[← hAC] at hrI hfin
 rw[← hBC] at hrJ hfin t2
 have hAl:AC.length=34:=by rw[hAC];exact zc7 _ hid
 have hBl:BC.length=34:=by rw[hBC];exact zc7 _ hjd
 have hAo:AC.toArray.all (·.oneCell')=true:=by rw[hAC];exact all_oneCell_toArray (zfs _)
 have hBo:BC.toArray.all (·.oneCell')=true:=by rw[hBC];exact all_oneCell_toArray (zfs _)
 have hiA:(Tryz.prog.info? 109).map (·.size)=some AC.length:=by rw[hAl];exact zfc
 have hiB:(Tryz.prog.info? 109).map (·.size)=some BC.length:=by rw[hBl];exact zfc
 have hiA2:(Tryz.prog.info? 109).map (·.size)=some AC.toArray.size:=by simpa using hiA
 have hiB2:(Tryz.prog.info? 109).map (·.size)=some BC.toArray.size:=by simpa using hiB
 have T1:w.drew.there g (i*34) BC.toArray.size:=by rw[show BC.toArray.size=34 by simpa using hBl];exact t1
 have T2:(w.drew.setCells g (i*34) BC).there g (j*34) AC.toArray.size:=by rw[show AC.toArray.size=34 by simpa using hAl];exact t2
 have cS1:∀ V:World,V.cell? ⟨wb,1,none⟩=w.cell? ⟨wb,1,none⟩→∀ o l,(V.setCells g o l).cell? ⟨wb,1,none⟩=w.cell? ⟨wb,1,none⟩:=fun V hV o l=>by
  rw[← hV]
  exact World.cell?_of_block ((zbi (w:=V) (r:=some g) (Or.inr rfl) l o (zab _ _)).block wb (World.block_lt_of_cell? V ⟨wb,1,none⟩ (hV.trans hc)) (fun e=>hgw (by cases e;rfl)))
 obtain ⟨n,hn⟩:∃ n,n=H.length:=⟨_,rfl⟩
 rw[← hn] at hc hfin ⊢
 have hi' : i<n:=by omega
 have hj' : j<n:=by omega
 obtain ⟨HIA,HIB,HIA2,HIB2,HAO,HBO⟩:=zh6 hiA hiB hiA2 hiB2 hAo hBo
 obtain ⟨HT1,HT2,HF⟩:=zh3 T1 T2 hfin
 have HCS:Hid (∀ V:World,V.cell? ⟨wb,1,none⟩=some (.slice (some ⟨g,0,none⟩) n cap)→∀ o l,(V.setCells g o l).cell? ⟨wb,1,none⟩=some (.slice (some ⟨g,0,none⟩) n cap)):=fun V hV o l=>by
  rw[← hc];exact cS1 V (hV.trans hc.symm) o l
 have h0:w.drew.cell? ⟨wb,1,none⟩=some (.slice (some ⟨g,0,none⟩) n cap):=hc
 have hrI0:w.drew.rangeAt g (i*34) AC:=hrI
 have hrJ0:w.drew.rangeAt g (j*34) BC:=hrJ
 clear h hrow hid hjd hf hf1 o1 o2 g1 g2 hl1 t1 t2 hdr hAC hBC hAl hBl hAo hBo hiA hiB hiA2 hiB2 T1 T2 cS1 hn hg hgl hcap hfin hgw hc hrI hrJ
 go_enter Tryz.func201,Tryz.ntmps201
 refine wp_region_noPanic ?_
 refine wp_region_held_drew (S:=fun V=>V.cell? ⟨wb,1,none⟩=some (.slice (some ⟨g,0,none⟩) n cap)) (by kernel_rfl) h0 (fun _ => ?_)
 refine tq 0 6 (.move (.tmp 0)) (.pointer (some ⟨wb,0,none⟩)) h0 ?_
 refine tq 4 10 (.move (.tmp 1)) (.int .i64 (i:Int)) h0 ?_
 refine tq 5 11 (.move (.tmp 0)) (.pointer (some ⟨wb,0,none⟩)) h0 ?_
 refine tq 9 15 (.move (.tmp 2)) (.int .i64 (j:Int)) h0 ?_
 (try simp only[pq])
 refine tq 10 16 (.move (.tmp 0)) (.pointer (some ⟨wb,0,none⟩)) h0 ?_
 refine tq 14 20 (.move (.tmp 2)) (.int .i64 (j:Int)) h0 ?_
 refine tq 17 23 (.move (.tmp 0)) (.pointer (some ⟨wb,0,none⟩)) h0 ?_
 refine tq 21 27 (.move (.tmp 1)) (.int .i64 (i:Int)) h0 ?_
 (try simp only[pq])
 refine tq 1 7 (.nilCheck (.tmp 6)) (.pointer (some ⟨wb,0,none⟩)) h0 ?_
 refine tq 6 12 (.nilCheck (.tmp 11)) (.pointer (some ⟨wb,0,none⟩)) h0 ?_
 refine tq 11 17 (.nilCheck (.tmp 16)) (.pointer (some ⟨wb,0,none⟩)) h0 ?_
 refine tq 18 24 (.nilCheck (.tmp 23)) (.pointer (some ⟨wb,0,none⟩)) h0 ?_
 (try simp only[pq])
 refine tq 2 8 (.fieldAddr 104 (.tmp 7) 1) (.pointer (some ⟨wb,1,none⟩)) h0 ?_
 refine tq 7 13 (.fieldAddr 104 (.tmp 12) 1) (.pointer (some ⟨wb,1,none⟩)) h0 ?_
 refine tq 12 18 (.fieldAddr 104 (.tmp 17) 1) (.pointer (some ⟨wb,1,none⟩)) h0 ?_
 refine tq 19 25 (.fieldAddr 104 (.tmp 24) 1) (.pointer (some ⟨wb,1,none⟩)) h0 ?_
 (try simp only[pq])
 refine tq 3 9 (.load 102 (.tmp 8)) (.slice (some ⟨g,0,none⟩) n cap) h0 ?_
 refine tq 8 14 (.load 102 (.tmp 13)) (.slice (some ⟨g,0,none⟩) n cap) h0 ?_
 refine tq 13 19 (.load 102 (.tmp 18)) (.slice (some ⟨g,0,none⟩) n cap) h0 ?_
 refine tq 20 26 (.load 102 (.tmp 25)) (.slice (some ⟨g,0,none⟩) n cap) h0 ?_
 (try simp only[pq])
 refine tq 15 21 (.indexAddr 102 (.tmp 19) (.tmp 20)) (.pointer (some ⟨g,j*34,none⟩)) h0 ?_
 refine tq 22 28 (.indexAddr 102 (.tmp 26) (.tmp 27)) (.pointer (some ⟨g,i*34,none⟩)) h0 ?_
 (try simp only[pq])
 refine wpAnyH_ready (rs:=[16,23]) (by kernel_rfl) (by simp) ?_
 refine AllReadyH.cons (o:=⟨some 22,.load 109 (.tmp 21),_,_,_,_⟩) rfl (fun K9 hK9 => ?_) (AllReadyH.cons (o:=⟨some 29,.load 109 (.tmp 28),_,_,_,_⟩) rfl (fun K9 hK9 => ?_) AllReadyH.nil)
 ·rw[if_pos (by rfl)]
  refine wp_load_mid _ _ rfl g (j*34) rfl BC _ hrJ0 Tryz.underlying109 rfl (uh HIB) ?_
  refine hK9.out _ _ h0 (fun _ => ?_)
  clear hK9 K9
  (try simp only[pq])
  refine rd 23 (some 29) (.load 109 (.tmp 28)) (fun K9 hK9 => ?_)
  rw[if_pos (by rfl)]
  refine wp_load_mid _ _ rfl g (i*34) rfl AC _ hrI0 Tryz.underlying109 rfl (uh HIA) ?_
  refine hK9.out _ _ h0 (fun _ => ?_)
  clear hK9 K9
  refine tq 24 30 (.indexAddr 102 (.tmp 9) (.tmp 10)) (.pointer (some ⟨g,i*34,none⟩)) h0 ?_
  (try simp only[pq])
  refine rd 25 none (.store 109 (.tmp 30) (.tmp 22)) (fun K9 hK9 => ?_)
  rw[if_pos (by rfl)]
  refine wp_store_mid _ _ _ rfl g (i*34) BC.toArray rfl rfl (uh HT1) (uh HIB2) (uh HBO) ?_
  have h1:=uh HCS _ h0 (i*34) BC
  refine hK9.out _ _ h1 (fun _ => ?_)
  clear hK9 K9
  (try simp only[Act.put])
  refine tq 26 31 (.indexAddr 102 (.tmp 14) (.tmp 15)) (.pointer (some ⟨g,j*34,none⟩)) h1 ?_
  (try simp only[pq])
  refine rd 27 none (.store 109 (.tmp 31) (.tmp 29)) (fun K9 hK9 => ?_)
  rw[if_pos (by rfl)]
  refine wp_store_mid _ _ _ rfl g (j*34) AC.toArray rfl rfl (uh HT2) (uh HIA2) (uh HAO) ?_
  have h2:=uh HCS _ h1 (j*34) AC
  refine hK9.out _ _ h2 (fun _ => ?_)
  clear hK9 K9
  (try simp only[Act.put])
  refine wpAnyH_done (by kernel_rfl) ?_ _
  refine NoPanic.normal ?_
  clear hrI0 hrJ0
  go_wp2
  go_end0
  exact ⟨rfl,uh HF⟩
 ·rw[if_pos (by rfl)]
  refine wp_load_mid _ _ rfl g (i*34) rfl AC _ hrI0 Tryz.underlying109 rfl (uh HIA) ?_
  refine hK9.out _ _ h0 (fun _ => ?_)
  clear hK9 K9
  (try simp only[pq])
  refine rd 16 (some 22) (.load 109 (.tmp 21)) (fun K9 hK9 => ?_)
  rw[if_pos (by rfl)]
  refine wp_load_mid _ _ rfl g (j*34) rfl BC _ hrJ0 Tryz.underlying109 rfl (uh HIB) ?_
  refine hK9.out _ _ h0 (fun _ => ?_)
  clear hK9 K9
  refine tq 24 30 (.indexAddr 102 (.tmp 9) (.tmp 10)) (.pointer (some ⟨g,i*34,none⟩)) h0 ?_
  (try simp only[pq])
  refine rd 25 none (.store 109 (.tmp 30) (.tmp 22)) (fun K9 hK9 => ?_)
  rw[if_pos (by rfl)]
  refine wp_store_mid _ _ _ rfl g (i*34) BC.toArray rfl rfl (uh HT1) (uh HIB2) (uh HBO) ?_
  have h1:=uh HCS _ h0 (i*34) BC
  refine hK9.out _ _ h1 (fun _ => ?_)
  clear hK9 K9
  (try simp only[Act.put])
  refine tq 26 31 (.indexAddr 102 (.tmp 14) (.tmp 15)) (.pointer (some ⟨g,j*34,none⟩)) h1 ?_
  (try simp only[pq])
  refine rd 27 none (.store 109 (.tmp 31) (.tmp 29)) (fun K9 hK9 => ?_)
  rw[if_pos (by rfl)]
  refine wp_store_mid _ _ _ rfl g (j*34) AC.toArray rfl rfl (uh HT2) (uh HIA2) (uh HAO) ?_
  have h2:=uh HCS _ h1 (j*34) AC
  refine hK9.out _ _ h2 (fun _ => ?_)
  clear hK9 K9
  (try simp only[Act.put])
  refine wpAnyH_done (by kernel_rfl) ?_ _
  refine NoPanic.normal ?_
  clear hrI0 hrJ0
  go_wp2
  go_end0
  exact ⟨rfl,uh HF⟩
theorem zvw {l:List (List UInt8)} {s:List UInt8} {k:Nat} (h:Ris l) (hs:s∉l) (h1:∀ x∈l.take k,za8 x s=true) (h2:∀ y,l[k]? = some y→za8 y s=false):Ris (l.take k++s::l.drop k):=by
 have hsp:Ris (l.take k++l.drop k):=by rw[List.take_append_drop];exact h
 obtain ⟨p1,p2,p3⟩:=List.pairwise_append.1 hsp
 have h4:∀ y∈l.drop k,za8 s y=true:=by
  intro y hy
  cases hd:l.drop k with
  | nil=>rw[hd] at hy;cases hy
  | cons z r =>
   have hz:l[k]? = some z:=by
    have:=congrArg (fun q=>q[0]?) hd
    simpa using this
   have hzl:z∈l:=List.mem_of_getElem? hz
   have hz1:za8 s z=true:=by
    cases h5:za8 s z with
    | true=>rfl
    | false=>exact absurd ((zc4 s z h5 (h2 z hz)) ▸ hzl) hs
   rw[hd] at hy p2
   rcases List.mem_cons.1 hy with rfl | hy
   ·exact hz1
   ·exact zc5 _ _ _ hz1 ((List.pairwise_cons.1 p2).1 y hy)
 refine List.pairwise_append.2 ⟨p1,List.pairwise_cons.2 ⟨h4,p2⟩,fun x hx y hy => ?_⟩
 rcases List.mem_cons.1 hy with rfl | hy
 ·exact h1 x hx
 ·exact p3 x hx y hy
theorem zvx {l:List (List UInt8)} {s x:List UInt8} {k:Nat} : x∈l.take k++s::l.drop k↔x=s∨x∈l:=by
 conv=>rhs;rw[← List.take_append_drop k l]
 simp only[List.mem_append,List.mem_cons]
 constructor
 ·rintro (h | h | h)
  ·exact Or.inr (Or.inl h)
  ·exact Or.inl h
  ·exact Or.inr (Or.inr h)
 ·rintro (h | h | h)
  ·exact Or.inr (Or.inl h)
  ·exact Or.inl h
  ·exact Or.inr (Or.inr h)
structure Rnd (nx:List UInt8→List (List UInt8)) (R out now next:List (List UInt8)):Prop where
 met:∀ x∈out,Rch nx R x
 nows:∀ x∈now,Rch nx R x
 nexts:∀ x∈next,Rch nx R x
 roots:∀ x∈R,x∈out∨x∈now∨x∈next
 named:∀ x∈out,∀ y∈nx x,y∈out∨y∈now∨y∈next
theorem Rnd.start (nx:List UInt8→List (List UInt8)) (R:List (List UInt8)):Rnd nx R [] R [] :=
 ⟨(fun _ h=>by cases h),fun _ h=>Rch.root h,(fun _ h=>by cases h),fun _ h=>Or.inr (Or.inl h),(fun _ h=>by cases h)⟩
theorem Rnd.skip {nx:List UInt8→List (List UInt8)} {R out now next:List (List UInt8)} {x:List UInt8} (h:Rnd nx R out (x::now) next) (hx:x∈out):Rnd nx R out now next:=by
 have key:∀ y,(y∈out∨y∈x::now∨y∈next)→y∈out∨y∈now∨y∈next:=by
  rintro y (h1 | h1 | h1)
  ·exact Or.inl h1
  ·rcases List.mem_cons.1 h1 with rfl | h1
   ·exact Or.inl hx
   ·exact Or.inr (Or.inl h1)
  ·exact Or.inr (Or.inr h1)
 exact ⟨h.met,fun y hy=>h.nows y (List.mem_cons_of_mem _ hy),h.nexts,fun y hy=>key y (h.roots y hy),fun a ha y hy=>key y (h.named a ha y hy)⟩
theorem Rnd.take {nx:List UInt8→List (List UInt8)} {R out now next out' next' : List (List UInt8)} {x:List UInt8} (h:Rnd nx R out (x::now) next) (ho:∀ y,y∈out'↔y=x∨y∈out) (hn:next'=next++nx x):Rnd nx R out' now next':=by
 have hx:Rch nx R x:=h.nows x (by simp)
 have key:∀ y,(y∈out∨y∈x::now∨y∈next)→y∈out'∨y∈now∨y∈next':=by
  rintro y (h1 | h1 | h1)
  ·exact Or.inl ((ho y).2 (Or.inr h1))
  ·rcases List.mem_cons.1 h1 with rfl | h1
   ·exact Or.inl ((ho y).2 (Or.inl rfl))
   ·exact Or.inr (Or.inl h1)
  ·exact Or.inr (Or.inr (by rw[hn];exact List.mem_append_left _ h1))
 refine ⟨fun y hy => ?_,fun y hy=>h.nows y (List.mem_cons_of_mem _ hy),fun y hy => ?_,fun y hy=>key y (h.roots y hy),fun a ha y hy => ?_⟩
 ·rcases (ho y).1 hy with rfl | hy
  ·exact hx
  ·exact h.met y hy
 ·rw[hn] at hy
  rcases List.mem_append.1 hy with hy | hy
  ·exact h.nexts y hy
  ·exact Rch.next hx hy
 ·rcases (ho a).1 ha with rfl | ha
  ·exact Or.inr (Or.inr (by rw[hn];exact List.mem_append_right _ hy))
  ·exact key y (h.named a ha y hy)
theorem Rnd.turn {nx:List UInt8→List (List UInt8)} {R out next:List (List UInt8)} (h:Rnd nx R out [] next):Rnd nx R out next []:=by
 have key:∀ y,(y∈out∨y∈([]:List (List UInt8))∨y∈next)→y∈out∨y∈next∨y∈([]:List (List UInt8)):=by
  rintro y (h1 | h1 | h1)
  ·exact Or.inl h1
  ·cases h1
  ·exact Or.inr (Or.inl h1)
 exact ⟨h.met,h.nexts,(fun _ h=>by cases h),fun y hy=>key y (h.roots y hy),fun a ha y hy=>key y (h.named a ha y hy)⟩
theorem Rnd.done {nx:List UInt8→List (List UInt8)} {R out:List (List UInt8)} (h:Rnd nx R out [] []) (x:List UInt8):x∈out↔Rch nx R x:=by
 refine ⟨h.met x,fun hx => ?_⟩
 induction hx with
 | root hr =>
  rcases h.roots _ hr with h1 | h1 | h1
  ·exact h1
  ·cases h1
  ·cases h1
 | next _ hy ih =>
  rcases h.named _ ih _ hy with h1 | h1 | h1
  ·exact h1
  ·cases h1
  ·cases h1
end Go.Proofs.YthhnfloohbdaiaaGreatDoor

/- Lemmas. -/
namespace Go.Proofs.YthhnfloohbdaiaaGreatDoor
open Go.RowKit Go.Shelf Go.Lib Go.Sort
set_option maxRecDepth 100000
theorem zjr (d:Array Nm):(flatK encN 32 d).toList=d.toList.flatMap encN:=by
 apply List.ext_getElem?
 intro t
 have hl:(d.toList.flatMap encN).length=d.size*32:=by
  rw[zby encN 32 d.toList (fun x _=>zgi x)];simp
 by_cases ht:t<d.size*32
 ·have hq:t / 32<d.toList.length:=by simp;omega
  have h1:=zjw encN 32 d.toList (fun x _=>zgi x) (t / 32) (t % 32) hq (Nat.mod_lt _ (by decide))
  rw[show t / 32*32+t % 32=t by omega] at h1
  rw[h1,Array.getElem?_toList]
  have hs:t<(flatK encN 32 d).size:=by rw[size_flatK];exact ht
  have h2:=get_flatK encN 32 d t ht
  rw[getElem!_pos (flatK encN 32 d) t hs] at h2
  rw[Array.getElem?_eq_getElem hs,h2]
  have hq2:t / 32<d.size:=by simpa using hq
  rw[getElem!_pos d _ hq2]
  have hr:t % 32<(encN d[t / 32]).length:=by rw[zgi];exact Nat.mod_lt _ (by decide)
  rw[getElem!_pos (encN d[t / 32]) (t % 32) hr]
  simp only[Array.getElem_toList]
  rw[List.getElem?_eq_getElem hr]
 ·rw[List.getElem?_eq_none (by simp;omega),List.getElem?_eq_none (by rw[hl];omega)]
theorem zqa {w:World} {g n:Nat} {e:TypeId} {os:Array Obj} {cur:Array Value} (d:Array Nm) (hb:w.heap[g]? = some (.cells cur e (0,0))) :
  (sortWorldK encN 32 w g 0 n d os).heap[g]? = some (.cells (putCells id 0 (flatK encN 32 d) cur) e (0,0)):=by
 have hg:g<w.heap.size:=(Array.getElem?_eq_some_iff.1 hb).1
 unfold sortWorldK putRowK putRow mapBlock grow
 simp only[Sort.ahead]
 rw[Array.getElem?_append_left (by simpa using hg)]
 simp[Array.getElem?_modify,hb,onCells]
theorem zvy {w:World} {g n:Nat} {os:Array Obj} (d:Array Nm):w.grownBy (sortWorldK encN 32 w g 0 n d os) (some g):=by
 refine ⟨rfl,rfl,rfl,?_,fun k hk hne => ?_⟩
 ·unfold sortWorldK putRowK putRow mapBlock grow
  simp[Sort.ahead]
 ·have:g≠k:=fun e=>hne (by rw[e])
  unfold sortWorldK putRowK putRow mapBlock grow
  simp only[Sort.ahead]
  rw[Array.getElem?_append_left (by simpa using hk)]
  simp[Array.getElem?_modify,this]
theorem zsw (cur:Array Value) (d:Array Nm) (h:d.size*32≤cur.size):(putCells id 0 (flatK encN 32 d) cur).toList.take (d.size*32)=d.toList.flatMap encN:=by
 rw[← zjr]
 apply List.ext_getElem?
 intro j
 by_cases hj:j<d.size*32
 ·have hs:j<(flatK encN 32 d).size:=by rw[size_flatK];exact hj
  have hc:j<cur.size:=by omega
  rw[List.getElem?_take_of_lt hj,Array.getElem?_toList,Array.getElem?_toList]
  unfold putCells
  rw[Array.getElem?_mapIdx,Array.getElem?_eq_getElem hc,Array.getElem?_eq_getElem hs]
  simp only[Option.map_some,id_eq,Nat.zero_le,Nat.zero_add,true_and,Nat.sub_zero]
  rw[if_pos hs,getElem!_pos (flatK encN 32 d) j hs]
 ·rw[List.getElem?_eq_none (by simp;omega),List.getElem?_eq_none (by simp;omega)]
theorem zqb:∀ args w,(callFunc 59 args).run Tryz.prog w = .ok (.enter 59 args) w:=enters_of Tryz.func59 (by kernel_rfl) rfl
theorem zy5 (w:World):(isAgg 33).run Tryz.prog w = .ok true w:=by kernel_rfl
theorem zkq {d:Array Nm} (hs:SortedIn (ltOf fun x y:Nm=>compareBytes x.1 y.1) 0 d.size d) (hn:(d.toList.map (·.1)).Nodup):Ris (d.toList.map (·.1)):=by
 unfold Ris
 rw[List.pairwise_iff_getElem]
 intro i j hi hj hij
 have hj' : j<d.size:=by simpa using hj
 have hi' : i<d.size:=by omega
 have h1:=hs i j (Nat.zero_le _) hij hj'
 rw[zko,getElem!_pos d j hj',getElem!_pos d i hi'] at h1
 simp only[List.getElem_map,Array.getElem_toList]
 cases h2:za8 d[i].1 d[j].1 with
 | true=>rfl
 | false =>
  exfalso
  have h3:=zc4 _ _ h1 h2
  have h4:(d.toList.map (·.1))[j]=(d.toList.map (·.1))[i]:=by simpa using h3
  have:=(List.getElem_inj hn).1 h4
  omega
theorem zlu (w:World) (base:Nat) (v:Value) (L:List (List UInt8)) (ho:w.ownsRow base 33 32 v L.length (L.flatMap (·.map bv))) (hi:∀ x∈L,x.length=32) (hn:L.Nodup) (hm:L.length≤100000) :
  Calls Tryz.prog 72 #[v,.func (.func 59) #[] #[]] w fun e w'=>e = .returned (.tuple #[])∧∃ L',Ris L'∧(∀ x,x∈L'↔x∈L)∧L'.length=L.length∧w'.ownsRow base 33 32 v L.length (L'.flatMap (·.map bv))∧w.grownBy w' v.ownBlock:=by
 rcases ho.2 with ⟨rfl,h0⟩ | ⟨g,cap,cur,rfl,hg,hh,h3,h4,h5,h6⟩
 ·have:L=[]:=List.eq_nil_of_length_eq_zero h0
  subst this
  refine (AnyF.slices_SortFunc_none (P:=Tryz.prog) (ρ:=srtR) srt6 none 0 _ w).mono ?_
  rintro e w' ⟨rfl,rfl⟩
  exact ⟨rfl,[],List.Pairwise.nil,fun _=>Iff.rfl,rfl,ho,zab _ _⟩
 ·obtain ⟨D,hD⟩:∃ D:List Nm,D=L.pmap Subtype.mk hi:=⟨_,rfl⟩
  have hDL:D.map (·.1)=L:=by rw[hD,List.map_pmap];simp
  have hDl:D.length=L.length:=by rw[hD,List.length_pmap]
  have hfl:D.flatMap encN=L.flatMap (·.map bv):=by rw[← hDL,List.flatMap_map];rfl
  have hH:HoldsK encN 32 w g 0 D.toArray:=by
   intro j hj
   have hj' : j<L.length*32:=by rw[size_flatK] at hj;simpa[hDl] using hj
   refine ⟨?_,by simp[World.frozen?,hh]⟩
   have h1:(cur.toList.take (L.length*32))[j]? = (L.flatMap (·.map bv))[j]? := by rw[h6]
   rw[List.getElem?_take_of_lt hj',← hfl] at h1
   simp only[World.cell?,hh,Nat.zero_add]
   simp only[Option.isSome_none,Bool.false_eq_true,if_false]
   rw[← Array.getElem?_toList,h1,getElem!_pos (flatK encN 32 D.toArray) j hj]
   have:=zjr D.toArray
   simp only at this
   rw[← this,Array.getElem?_toList,Array.getElem?_eq_getElem hj]
   rfl
  have hc:=AnyQ.slices_SortFunc (P:=Tryz.prog) (ρ:=srtR) srt6 32 zy5 zmt encN zgi (fun x v hv=>za6 _ v hv) (fun x y:Nm=>compareBytes x.1 y.1) zvu 59 #[] g 0 cap D.toArray w zqb
   (fun m os dk _ x y=>by
    have:=ziv (sortWorldK encN 32 w g 0 m dk os) x.1 y.1 x.2 y.2
    exact this) hH (Array.getElem?_eq_some_iff.1 hh).1 (by simp;omega)
  have hsz:D.toArray.size=L.length:=by simp[hDl]
  rw[hsz] at hc
  refine hc.mono ?_
  rintro e w' ⟨rfl,d',n,os,hp,hs,rfl⟩
  have hd's:d'.size=L.length:=by rw[hp.1,hsz]
  have hperm:d'.toList.Perm D:=by
   have:=hp.2.2
   rw[show d'.extract 0 L.length=d' by rw[← hd's];simp,show D.toArray.extract 0 L.length=D.toArray by rw[← hsz];simp] at this
   simpa using this
  have hpm:(d'.toList.map (·.1)).Perm L:=by rw[← hDL];exact hperm.map _
  refine ⟨rfl,d'.toList.map (·.1),zkq (by rw[hd's];exact hs) (hpm.nodup_iff.2 hn),fun x=>hpm.mem_iff,by simp[hd's],?_,zvy d'⟩
  have hfl2:(d'.toList.map (·.1)).flatMap (·.map bv)=d'.toList.flatMap encN:=by rw[List.flatMap_map];rfl
  rw[hfl2]
  refine ⟨?_,Or.inr ⟨g,cap,_,rfl,hg,zqa d' hh,h3,h4,by simp[putCells,h5],?_⟩⟩
  ·rw[zby encN 32 d'.toList (fun x _=>zgi x)];simp[hd's]
  ·rw[← hd's]
   exact zsw cur d' (by rw[hd's,h5];exact Nat.mul_le_mul_right 32 h3)
end Go.Proofs.YthhnfloohbdaiaaGreatDoor

/- Lemmas. -/
namespace Go.Proofs.YthhnfloohbdaiaaGreatDoor
open Go.RowKit
set_option maxRecDepth 100000
set_option maxHeartbeats 4000000 in
theorem zm5 (w:World) (m:Nat) (K:List (List UInt8 × Value)) (h:MapAt w m K) (hK:K.length≤90000) :
  Calls Tryz.prog 43 #[.map (some m)] w fun e w'=>∃ v L,e = .returned v∧Ris L∧(∀ x,x∈L↔x∈K.map (·.1))∧w'.ownsRow w.heap.size 33 32 v L.length (L.flatMap (·.map bv))∧w.grownBy w' none:=by
 obtain ⟨W1,hrg,hO1,g1⟩:=h.over 85 42 Tryz.underlying85
 obtain ⟨Z,hZ,hzv⟩:=zdo
 obtain ⟨HZ,HO1,HG1,HK⟩:=zh4 hZ hO1 g1 hK
 clear hZ hO1 g1 h hK
 go_enter Tryz.func43,Tryz.ntmps43
 go_wp2_with fail
 go_loopg [3] K.length (fun k v wr=>∃ done,Hid (OverAt wr m w.heap.size K done∧wr.ownsRow w.heap.size 33 32 v done.length (done.flatMap (·.map bv))∧w.grownBy wr none)∧K.length - done.length≤k)
 case atStart=>exact ⟨[],⟨uh HO1,World.ownsRow_nil _ _ _ _,uh HG1⟩,by simp⟩
 case round =>
  rename_i v3 _
  obtain ⟨done,HD,hk⟩:=hrel
  have HKK:=hide hk
  clear hk
  have hlen:done.length≤K.length:=by
   have:=zbn (uh HD).1.nodup (uh HD).1.inn
   simpa using this
  rcases (uh HD).1.next 0 with ⟨hall,hr0⟩ | ⟨x,v,w2,hxv,hxd,hr0,hO2,he2,g2,-⟩
  ·have hnx:∀ ty,(Instr.next (.pointer (some ⟨w.heap.size,0,none⟩)) false ty).run Tryz.prog wr = .ok (.tuple #[.bool false]) wr:=fun ty=>hr0
   have hiff:∀ x,x∈done↔x∈K.map (·.1):=fun x=>⟨(uh HD).1.inn x,hall x⟩
   have hwid:∀ x∈done,x.length=32:=fun x hx=>by
    obtain ⟨p,hp,rfl⟩:=List.mem_map.1 ((uh HD).1.inn x hx)
    exact (uh HD).1.wide p hp
   obtain ⟨a3,c3,rfl⟩:=zbd (uh HD).2.1
   have cs:=zlu wr w.heap.size _ done (uh HD).2.1 hwid (uh HD).1.nodup (by have:=uh HK;omega)
   have HI:=hide hiff
   obtain ⟨n9,hn9⟩:∃ n,n=done.length:=⟨_,rfl⟩
   have HN9:=hide hn9
   rw[← hn9] at cs
   rw[← hn9]
   clear hall hr0 hiff hwid hlen hn9
   go_wp2_with (go_at_call 72;refine cs.mono ?_;rintro e w4 ⟨rfl,L',q1,q2,q3,q4,q5⟩;have HQ:=hide (And.intro q1 (And.intro q2 (And.intro q3 (And.intro q4 q5))));clear q1 q2 q3 q4 q5 cs)
   go_ret
   obtain ⟨q1,q2,q3,q4,q5⟩:=uh HQ
   refine ⟨_,L',rfl,q1,fun x=>(q2 x).trans (uh HI x),by rw[q3];exact q4,zae (uh HD).2.2 q5 (fun x e=>Or.inl ?_)⟩
   exact ((uh HD).2.1.lt x (by rw[← uh HN9];exact e)).1
  ·have hnx:∀ ty,(Instr.next (.pointer (some ⟨w.heap.size,0,none⟩)) false ty).run Tryz.prog wr = .ok (.tuple #[.bool true,keyV x,v]) w2:=fun ty=>hr0
   have hx:x.length=32:=(uh HD).1.wide _ hxv
   obtain ⟨XB,hXB⟩:∃ l,l=x.map bv:=⟨_,rfl⟩
   have hkv:keyV x = .agg XB.toArray:=by rw[hXB];rfl
   rw[hkv] at hnx he2
   have hXl:XB.length=32:=by rw[hXB];simp[hx]
   have hX1:∀ u∈XB,u.oneCell'=true:=by rw[hXB];exact za6 _
   have hXo:XB.toArray.all (·.oneCell')=true:=all_oneCell_toArray hX1
   have hiX:(Tryz.prog.info? 33).map (·.size)=some XB.length:=by rw[hXl];exact zat
   have hiX2:(Tryz.prog.info? 33).map (·.size)=some XB.toArray.size:=by simpa using hiX
   have hZX:Z.toList.toArray.size=XB.toArray.size:=by have:=uh HZ;simp[this,hXl]
   have ho2:=(uh HD).2.1.kept g2 (Or.inr fun e=>(uh HD).1.own (uh HD).2.1 e.symm)
   have gw2:w.grownBy w2 none:=zae (uh HD).2.2 g2 (fun y e=>Or.inl (by cases e;exact Nat.le_refl _))
   obtain ⟨W3,hW3,hB3,g3⟩:=zbl w2 33 Z XB
   have hBZ:Blk (w2.alloc (.cells Z 33)) w2.heap.size 33 Z.toList:=by simpa using Blk.new w2 33 Z.toList
   have hr3:=zal hB3
   obtain ⟨W5,hW5,hB5,g5⟩:=zag W3 33 XB
   have hbs:(Instr.buildSlice 29 1 #[(0,.agg XB.toArray)]).run Tryz.prog W3 = .ok (.slice (some ⟨W3.heap.size,0,none⟩) 1 1) W5:=by rw[hW5,hXB];exact zfl x hx W3
   have g25:=tn g3 g5
   have ho5:=zbg ho2 g25 (fun _ e=>by cases e)
   have hO5:=hO2.none g25
   have G5:=tn gw2 g25
   have hne:w.heap.size≤W5.heap.size:=G5.size
   obtain ⟨HXB,HBZ,HW3,HX1,HXO,HIX⟩:=zh6 hXB hBZ hW3 hX1 hXo hiX
   obtain ⟨HIX2,HZX,HBS,HO5,HV5,HB5⟩:=zh6 hiX2 hZX hbs ho5 hO5 hB5
   obtain ⟨HG5,HXL⟩:=zh2 G5 hXl
   have hn9:done.length≤100000:=by have:=uh HK;omega
   obtain ⟨HXD,HLE⟩:=zh2 hxd hlen
   clear hXB hBZ hW3 hX1 hXo hiX hiX2 hZX hbs ho5 hO5 hB5 G5 hXl ho2 gw2 g3 g5 g25 hO2 g2 hB3 hW5 hkv hr0 HD hx hxv hxd hlen
   go_wp2_with (first
    | (have hB9:=uh HBZ;refine wpList_store_row rfl 33 _ _ rfl w2.heap.size XB.toArray rfl rfl _ _ hB9 (uh HIX2) (uh HZX) (uh HXO) ?_;clear hB9;rw[← uh HW3])
    | (refine wpList_load_mid rfl 33 _ rfl w2.heap.size 0 rfl XB _ hr3 Tryz.underlying33 rfl (uh HIX) ?_;clear hr3)
    | (refine zaq rfl 29 _ rfl (.agg XB.toArray) _ rfl (uh HBS) ?_)
    | (refine zb8 rfl _ _ rfl w.heap.size _ _ _ rfl (uh HO5) _ XB (uh HB5) (uh HXL) (uh HX1) rfl hn9 hne ?_;intro v6 w6 ho6 g6;have HO6:=hide ho6;have HV6:=hide ((uh HV5).kept g6 ((uh HV5).map.own (uh HO5)) ((uh HV5).own (uh HO5)));have HG6:=hide (zae (uh HG5) g6 (fun x e=>Or.inl ((uh HO5).lt x e).1));clear ho6 g6))
   go_roundg (K.length - (done++[x]).length)
   case measure =>
    have h1:=uh HKK
    have h2:=zbn (uh HV6).nodup (uh HV6).inn
    simp only[List.length_append,List.length_cons,List.length_nil,List.length_map] at h2 ⊢
    omega
   case rel =>
    refine ⟨done++[x],⟨uh HV6,?_,uh HG6⟩,Nat.le_refl _⟩
    have e1:(done++[x]).length=done.length+1:=by simp
    have e2:(done++[x]).flatMap (·.map bv)=done.flatMap (·.map bv)++XB:=by rw[uh HXB];simp
    rw[e1,e2]
    exact uh HO6
set_option maxHeartbeats 4000000 in
theorem zm6 (w:World) (m:Nat) (K:List (List UInt8 × Value)) (h:MapAt w m K) (hK:K.length≤90000) :
  Calls Tryz.prog 45 #[.map (some m)] w fun e w'=>∃ v L,e = .returned v∧Ris L∧(∀ x,x∈L↔x∈K.map (·.1))∧w'.ownsRow w.heap.size 33 32 v L.length (L.flatMap (·.map bv))∧w.grownBy w' none:=by
 obtain ⟨W1,hrg,hO1,g1⟩:=h.over 95 94 Tryz.underlying95
 obtain ⟨Z,hZ,hzv⟩:=zdo
 obtain ⟨HZ,HO1,HG1,HK⟩:=zh4 hZ hO1 g1 hK
 clear hZ hO1 g1 h hK
 go_enter Tryz.func45,Tryz.ntmps45
 go_wp2_with fail
 go_loopg [3] K.length (fun k v wr=>∃ done,Hid (OverAt wr m w.heap.size K done∧wr.ownsRow w.heap.size 33 32 v done.length (done.flatMap (·.map bv))∧w.grownBy wr none)∧K.length - done.length≤k)
 case atStart=>exact ⟨[],⟨uh HO1,World.ownsRow_nil _ _ _ _,uh HG1⟩,by simp⟩
 case round =>
  rename_i v3 _
  obtain ⟨done,HD,hk⟩:=hrel
  have HKK:=hide hk
  clear hk
  have hlen:done.length≤K.length:=by
   have:=zbn (uh HD).1.nodup (uh HD).1.inn
   simpa using this
  rcases (uh HD).1.next 0 with ⟨hall,hr0⟩ | ⟨x,v,w2,hxv,hxd,hr0,hO2,he2,g2,-⟩
  ·have hnx:∀ ty,(Instr.next (.pointer (some ⟨w.heap.size,0,none⟩)) false ty).run Tryz.prog wr = .ok (.tuple #[.bool false]) wr:=fun ty=>hr0
   have hiff:∀ x,x∈done↔x∈K.map (·.1):=fun x=>⟨(uh HD).1.inn x,hall x⟩
   have hwid:∀ x∈done,x.length=32:=fun x hx=>by
    obtain ⟨p,hp,rfl⟩:=List.mem_map.1 ((uh HD).1.inn x hx)
    exact (uh HD).1.wide p hp
   obtain ⟨a3,c3,rfl⟩:=zbd (uh HD).2.1
   have cs:=zlu wr w.heap.size _ done (uh HD).2.1 hwid (uh HD).1.nodup (by have:=uh HK;omega)
   have HI:=hide hiff
   obtain ⟨n9,hn9⟩:∃ n,n=done.length:=⟨_,rfl⟩
   have HN9:=hide hn9
   rw[← hn9] at cs
   rw[← hn9]
   clear hall hr0 hiff hwid hlen hn9
   go_wp2_with (go_at_call 72;refine cs.mono ?_;rintro e w4 ⟨rfl,L',q1,q2,q3,q4,q5⟩;have HQ:=hide (And.intro q1 (And.intro q2 (And.intro q3 (And.intro q4 q5))));clear q1 q2 q3 q4 q5 cs)
   go_ret
   obtain ⟨q1,q2,q3,q4,q5⟩:=uh HQ
   refine ⟨_,L',rfl,q1,fun x=>(q2 x).trans (uh HI x),by rw[q3];exact q4,zae (uh HD).2.2 q5 (fun x e=>Or.inl ?_)⟩
   exact ((uh HD).2.1.lt x (by rw[← uh HN9];exact e)).1
  ·have hnx:∀ ty,(Instr.next (.pointer (some ⟨w.heap.size,0,none⟩)) false ty).run Tryz.prog wr = .ok (.tuple #[.bool true,keyV x,v]) w2:=fun ty=>hr0
   have hx:x.length=32:=(uh HD).1.wide _ hxv
   obtain ⟨XB,hXB⟩:∃ l,l=x.map bv:=⟨_,rfl⟩
   have hkv:keyV x = .agg XB.toArray:=by rw[hXB];rfl
   rw[hkv] at hnx he2
   have hXl:XB.length=32:=by rw[hXB];simp[hx]
   have hX1:∀ u∈XB,u.oneCell'=true:=by rw[hXB];exact za6 _
   have hXo:XB.toArray.all (·.oneCell')=true:=all_oneCell_toArray hX1
   have hiX:(Tryz.prog.info? 33).map (·.size)=some XB.length:=by rw[hXl];exact zat
   have hiX2:(Tryz.prog.info? 33).map (·.size)=some XB.toArray.size:=by simpa using hiX
   have hZX:Z.toList.toArray.size=XB.toArray.size:=by have:=uh HZ;simp[this,hXl]
   have ho2:=(uh HD).2.1.kept g2 (Or.inr fun e=>(uh HD).1.own (uh HD).2.1 e.symm)
   have gw2:w.grownBy w2 none:=zae (uh HD).2.2 g2 (fun y e=>Or.inl (by cases e;exact Nat.le_refl _))
   obtain ⟨W3,hW3,hB3,g3⟩:=zbl w2 33 Z XB
   have hBZ:Blk (w2.alloc (.cells Z 33)) w2.heap.size 33 Z.toList:=by simpa using Blk.new w2 33 Z.toList
   have hr3:=zal hB3
   obtain ⟨W5,hW5,hB5,g5⟩:=zag W3 33 XB
   have hbs:(Instr.buildSlice 29 1 #[(0,.agg XB.toArray)]).run Tryz.prog W3 = .ok (.slice (some ⟨W3.heap.size,0,none⟩) 1 1) W5:=by rw[hW5,hXB];exact zfl x hx W3
   have g25:=tn g3 g5
   have ho5:=zbg ho2 g25 (fun _ e=>by cases e)
   have hO5:=hO2.none g25
   have G5:=tn gw2 g25
   have hne:w.heap.size≤W5.heap.size:=G5.size
   obtain ⟨HXB,HBZ,HW3,HX1,HXO,HIX⟩:=zh6 hXB hBZ hW3 hX1 hXo hiX
   obtain ⟨HIX2,HZX,HBS,HO5,HV5,HB5⟩:=zh6 hiX2 hZX hbs ho5 hO5 hB5
   obtain ⟨HG5,HXL⟩:=zh2 G5 hXl
   have hn9:done.length≤100000:=by have:=uh HK;omega
   obtain ⟨HXD,HLE⟩:=zh2 hxd hlen
   clear hXB hBZ hW3 hX1 hXo hiX hiX2 hZX hbs ho5 hO5 hB5 G5 hXl ho2 gw2 g3 g5 g25 hO2 g2 hB3 hW5 hkv hr0 HD hx hxv hxd hlen
   go_wp2_with (first
    | (have hB9:=uh HBZ;refine wpList_store_row rfl 33 _ _ rfl w2.heap.size XB.toArray rfl rfl _ _ hB9 (uh HIX2) (uh HZX) (uh HXO) ?_;clear hB9;rw[← uh HW3])
    | (refine wpList_load_mid rfl 33 _ rfl w2.heap.size 0 rfl XB _ hr3 Tryz.underlying33 rfl (uh HIX) ?_;clear hr3)
    | (refine zaq rfl 29 _ rfl (.agg XB.toArray) _ rfl (uh HBS) ?_)
    | (refine zb8 rfl _ _ rfl w.heap.size _ _ _ rfl (uh HO5) _ XB (uh HB5) (uh HXL) (uh HX1) rfl hn9 hne ?_;intro v6 w6 ho6 g6;have HO6:=hide ho6;have HV6:=hide ((uh HV5).kept g6 ((uh HV5).map.own (uh HO5)) ((uh HV5).own (uh HO5)));have HG6:=hide (zae (uh HG5) g6 (fun x e=>Or.inl ((uh HO5).lt x e).1));clear ho6 g6))
   go_roundg (K.length - (done++[x]).length)
   case measure =>
    have h1:=uh HKK
    have h2:=zbn (uh HV6).nodup (uh HV6).inn
    simp only[List.length_append,List.length_cons,List.length_nil,List.length_map] at h2 ⊢
    omega
   case rel =>
    refine ⟨done++[x],⟨uh HV6,?_,uh HG6⟩,Nat.le_refl _⟩
    have e1:(done++[x]).length=done.length+1:=by simp
    have e2:(done++[x]).flatMap (·.map bv)=done.flatMap (·.map bv)++XB:=by rw[uh HXB];simp
    rw[e1,e2]
    exact uh HO6
theorem ze5 {w:World} {ops:Array Oper} {o:Oper} {a:Act} {K:Act→World→Prop} {Q:Exit→Act→World→Prop} {E:Prop} (hw:Region.wanted o (yielded ops a.tmps)=true) (s x:Operand)
  (ho:o.op = .call { callee := .builtin .append,args := #[s,x],argTypes := #[102,102] })
  (base:Nat) (v:Value) (n:Nat) (xs:List Value) (hs:a.eval s=v) (hown:w.ownsRow base 109 34 v n xs) (p:Nat) (EC:List Value) (hB:Blk w p 109 EC) (hEl:EC.length=34) (hE1:∀ u∈EC,u.oneCell'=true)
  (hx:a.eval x = .slice (some ⟨p,0,none⟩) 1 1) (hn:n≤100000) (hbase:base≤w.heap.size)
  (h:∀ g c w',w'.ownsRow base 109 34 (.slice (some ⟨g,0,none⟩) (n+1) c) (n+1) (xs++EC)→w.grownBy w' v.ownBlock→(v.ownBlock=some g∨g=w.heap.size)→K (a.put o.dst (.slice (some ⟨g,0,none⟩) (n+1) c)) w') :
  if Region.wanted o (yielded ops a.tmps)=true then Oper.wp Tryz.prog o a w K Q else E:=by
 rw[if_pos hw]
 obtain ⟨i0,hi,hz0,hz1,hz2⟩:=info_parts zsu
 exact wp_append_lies w s x 102 ho base 109 i0 _ 34 64 Tryz.underlying102 hi hz0 hz1 hz2 rfl (by decide) v n xs hs hown ⟨p,0,none⟩ 1 1 EC hx (by rw[hEl]) (fun j u hu=>World.news_of_block hB j u (by simpa using hu)) hE1 (by decide) (by unfold maxLen;omega) (by omega) hbase _ rfl (fun g c w' q1 q2 q3 _=>h g c w' q1 q2 q3)
theorem zy6 (r:CmR) (h:r.id.length=32) (V:World):(Instr.buildSlice 102 1 #[(0,.agg (cmC r).toArray)]).run Tryz.prog V = .ok (.slice (some ⟨V.heap.size,0,none⟩) 1 1) (V.alloc (.cells (cmC r).toArray 109)):=by
 obtain ⟨id,time,pars,po,pc⟩:=r
 simp only at h
 obtain ⟨a0,a1,a2,a3,a4,a5,a6,a7,a8,a9,a10,a11,a12,a13,a14,a15,a16,a17,a18,a19,a20,a21,a22,a23,a24,a25,a26,a27,a28,a29,a30,a31,rfl⟩:=zew id h
 kernel_rfl
theorem zjs (X:Value) (V:World):(Instr.typeAssert (.iface 109 X) 20 109 false).run Tryz.prog V = .ok X V:=by kernel_rfl
theorem zqc (W:World) (ao:Option Addr) (n c k:Nat) (hk:k≤c) :
  (Instr.slice 102 (.slice ao n c) none (some (.int .i64 (k:Int))) none).run Tryz.prog W = .ok (.slice ao k c) W:=by
 have ht' : Tryz.prog.underlying 102=some (.slice (Tryz.prog.elem 102)):=by simp[Program.elem,Tryz.underlying102]
 have he:Tryz.prog.elem 102=109:=by simp[Program.elem,Tryz.underlying102]
 rw[run_slice_h W 102 _ _ _ ht' .i64 _ (by omega) (by omega),he,zvv]
 cases ao <;> simp[Result.andThen,sliced,Addr.add]
set_option maxHeartbeats 4000000 in
theorem zsx (w:World) (base wb:Nat) (sp:Option Addr) (v:Value) (H:List CmR) (h:WaitAt w base wb sp v H) (r:CmR) (hr:r.id.length=32) (hL:H.length≤100000) :
  Calls Tryz.prog 200 #[.pointer (some ⟨wb,0,none⟩),.iface 109 (.agg (cmC r).toArray)] w fun e w'=>e = .returned (.tuple #[])∧∃ v',WaitAt w' base wb sp v' (H++[r])∧ByPile w w' wb v∧(∀ k,v'.ownBlock=some k→v.ownBlock=some k∨w.heap.size≤k):=by
 obtain ⟨KB,hKB⟩:∃ KB,KB=cmC r:=⟨_,rfl⟩
 have hKl:KB.length=34:=by rw[hKB];exact zc7 _ hr
 have hK1:∀ u∈KB,u.oneCell'=true:=by rw[hKB];exact zfs _
 have hbs:∀ V:World,(Instr.buildSlice 102 1 #[(0,.agg KB.toArray)]).run Tryz.prog V = .ok (.slice (some ⟨V.heap.size,0,none⟩) 1 1) (V.alloc (.cells KB.toArray 109)):=fun V=>by rw[hKB];exact zy6 r hr V
 have hta:=zjs (.agg KB.toArray)
 have hD:=h.none (zak (zab w none))
 have hba:base≤w.drew.heap.size:=Nat.le_trans h.nb (Nat.le_of_lt h.blk.lt)
 obtain ⟨aV,cV,rfl⟩:=zbd h.own
 obtain ⟨v,hv⟩:∃ v:Value,v = .slice aV H.length cV:=⟨_,rfl⟩
 rw[← hv] at h hD ⊢
 have HFIN:Hid (∀ w5 w6 g6b c6,w.drew.grownBy w5 none→w5.ownsRow base 109 34 v H.length (H.flatMap cmC)→w5.grownBy w6 v.ownBlock→w6.ownsRow base 109 34 (.slice (some ⟨g6b,0,none⟩) (H.length+1) c6) (H.length+1) (H.flatMap cmC++KB)→Blk w6 wb 104 [.pointer sp,v]→(v.ownBlock=some g6b∨g6b=w5.heap.size) →
   ∃ v',WaitAt (w6.setCell ⟨wb,1,none⟩ (.slice (some ⟨g6b,0,none⟩) (H.length+1) c6)) base wb sp v' (H++[r])∧ByPile w (w6.setCell ⟨wb,1,none⟩ (.slice (some ⟨g6b,0,none⟩) (H.length+1) c6)) wb v∧(∀ k,v'.ownBlock=some k→v.ownBlock=some k∨w.heap.size≤k)):=by
  intro w5 w6 g6b c6 g5 hO5 g6 hO6 hB6 hat
  have gs:=zcp w6 wb 1 (.slice (some ⟨g6b,0,none⟩) (H.length+1) c6)
  have gw5:w.grownBy w5 none:=tn (zak (zab _ _)) g5
  refine ⟨.slice (some ⟨g6b,0,none⟩) (H.length+1) c6,⟨hB6.set 1 _,?_,fun y hy => ?_,h.nb⟩,⟨?_,?_,?_,?_,fun k hk h1 h2 => ?_⟩,fun k hk => ?_⟩
  ·have e1:(H++[r]).length=H.length+1:=by simp
   have e2:(H++[r]).flatMap cmC=H.flatMap cmC++KB:=by rw[hKB];simp
   rw[e1,e2]
   exact hO6.kept gs (Or.inr fun e=>zaj hO6 hB6 (by decide) e.symm)
  ·rcases List.mem_append.1 hy with hy | hy
   ·exact h.ids y hy
   ·rw[List.mem_singleton.1 hy];exact hr
  ·exact gs.os.trans (g6.os.trans gw5.os)
  ·exact gs.tape.trans (g6.tape.trans gw5.tape)
  ·exact gs.output.trans (g6.output.trans gw5.output)
  ·exact Nat.le_trans gw5.size (Nat.le_trans g6.size gs.size)
  ·have k5:k<w5.heap.size:=Nat.lt_of_lt_of_le hk gw5.size
   rw[gs.block k (Nat.lt_of_lt_of_le k5 g6.size) (fun e=>h1 (by cases e;rfl)),g6.block k k5 h2,gw5.block k hk (by simp)]
  ·have hk2:g6b=k:=by simpa[Value.ownBlock] using hk
   rcases hat with h1 | h1
   ·left;rw[← hk2];exact h1
   ·right;have:=gw5.size;omega
 have HBD:Hid (Blk w.drew wb 104 [.pointer sp,v]):=hD.blk
 have HOD:Hid (w.drew.ownsRow base 109 34 v H.length (H.flatMap cmC)):=hD.own
 rw[← hKB]
 obtain ⟨HKL,HK1,HBS,HN,HBA⟩:=zh5 hKl hK1 hbs hL hba
 have h0:True:=trivial
 clear hD hba hKB hKl hK1 hbs h hr hL hv
 go_enter Tryz.func200,Tryz.ntmps200
 refine wp_region_noPanic ?_
 refine wp_region_held_drew (S:=fun V=>True) (by kernel_rfl) trivial (fun _ => ?_)
 obtain ⟨WD,hWD⟩:∃ V,V=w.drew:=⟨_,rfl⟩
 rw[← hWD]
 rw[← hWD] at HBD HOD HFIN HBA
 clear hWD
 refine tq 0 4 (.move (.tmp 0)) (.pointer (some ⟨wb,0,none⟩)) trivial ?_
 refine tq 1 5 (.move (.tmp 0)) (.pointer (some ⟨wb,0,none⟩)) trivial ?_
 refine tq 5 9 (.move (.tmp 1)) (.iface 109 (.agg KB.toArray)) trivial ?_
 refine tq 2 6 (.nilCheck (.tmp 5)) (.pointer (some ⟨wb,0,none⟩)) trivial ?_
 (try simp only[pq])
 refine tq 6 10 (.typeAssert (.tmp 9) 20 109 false) (.agg KB.toArray) trivial ?_
 refine tq 3 7 (.fieldAddr 104 (.tmp 6) 1) (.pointer (some ⟨wb,1,none⟩)) trivial ?_
 (try simp only[pq])
 refine wpAnyH_ready (rs:=[4,7]) (by kernel_rfl) (by simp) ?_
 refine AllReadyH.cons (o:=⟨some 8,.load 102 (.tmp 7),_,_,_,_⟩) rfl (fun K9 hK9 => ?_) (AllReadyH.cons (o:=⟨some 11,.buildSlice 102 1 #[(0,(.tmp 10))],_,_,_,_⟩) rfl (fun K9 hK9 => ?_) AllReadyH.nil)
 ·have z9:=(uh HBD).cell 1
  simp only[List.getElem?_cons_zero,List.getElem?_cons_succ] at z9
  go_simp
  clear z9
  refine hK9.out _ _ trivial (fun _ => ?_)
  clear hK9 K9
  (try simp only[pq])
  refine rd 7 (some 11) (.buildSlice 102 1 #[(0,(.tmp 10))]) (fun K9 hK9 => ?_)
  obtain ⟨w5,hw5,hE5,g5⟩:=zag WD 109 KB
  refine zar (by rfl) 102 _ rfl (.agg KB.toArray) _ rfl (uh HBS WD) ?_
  rw[← hw5]
  refine hK9.out _ _ trivial (fun _ => ?_)
  clear hK9 K9 hw5
  (try simp only[pq])
  have hO5:=(uh HOD).kept g5 (by cases v.ownBlock <;> simp)
  have hB5:=(uh HBD).kept g5 (by simp)
  have hG5:=tn (zab WD none) g5
  refine rd 8 (some 12) (.call { callee := .builtin .append,args := #[(.tmp 8),(.tmp 11)],argTypes := #[102,102] }) (fun K9 hK9 => ?_)
  refine ze5 (by rfl) _ _ rfl base v _ _ rfl hO5 _ KB hE5 (uh HKL) (uh HK1) rfl (uh HN) (Nat.le_trans (uh HBA) hG5.size) ?_
  intro gb6 c6 w6 hO6 g6 hat6
  refine hK9.out _ _ trivial (fun _ => ?_)
  clear hK9 K9
  (try simp only[pq])
  have hB6:=hB5.kept g6 (zaj hO5 hB5 (by decide))
  have q6:=hB6.cell 1
  simp only[List.getElem?_cons_zero,List.getElem?_cons_succ] at q6
  have f6:=hB6.fz 1
  refine tq 9 13 (.nilCheck (.tmp 4)) (.pointer (some ⟨wb,0,none⟩)) trivial ?_
  refine tq 10 14 (.fieldAddr 104 (.tmp 13) 1) (.pointer (some ⟨wb,1,none⟩)) trivial ?_
  (try simp only[pq])
  refine rd 11 none (.store 102 (.tmp 14) (.tmp 12)) (fun K9 hK9 => ?_)
  go_simp
  refine hK9.out _ _ trivial (fun _ => ?_)
  clear hK9 K9
  (try simp only[pq])
  refine wpAnyH_done (by kernel_rfl) ?_ _
  refine NoPanic.normal ?_
  clear q6 f6
  go_wp2
  go_end0
  exact ⟨rfl,uh HFIN w5 w6 gb6 c6 hG5 hO5 g6 hO6 hB6 hat6⟩
 ·obtain ⟨w5,hw5,hE5,g5⟩:=zag WD 109 KB
  refine zar (by rfl) 102 _ rfl (.agg KB.toArray) _ rfl (uh HBS WD) ?_
  rw[← hw5]
  refine hK9.out _ _ trivial (fun _ => ?_)
  clear hK9 K9 hw5
  (try simp only[pq])
  have hO5:=(uh HOD).kept g5 (by cases v.ownBlock <;> simp)
  have hB5:=(uh HBD).kept g5 (by simp)
  have hG5:=tn (zab WD none) g5
  refine rd 4 (some 8) (.load 102 (.tmp 7)) (fun K9 hK9 => ?_)
  have z9:=(hB5).cell 1
  simp only[List.getElem?_cons_zero,List.getElem?_cons_succ] at z9
  go_simp
  clear z9
  refine hK9.out _ _ trivial (fun _ => ?_)
  clear hK9 K9
  (try simp only[pq])
  refine rd 8 (some 12) (.call { callee := .builtin .append,args := #[(.tmp 8),(.tmp 11)],argTypes := #[102,102] }) (fun K9 hK9 => ?_)
  refine ze5 (by rfl) _ _ rfl base v _ _ rfl hO5 _ KB hE5 (uh HKL) (uh HK1) rfl (uh HN) (Nat.le_trans (uh HBA) hG5.size) ?_
  intro gb6 c6 w6 hO6 g6 hat6
  refine hK9.out _ _ trivial (fun _ => ?_)
  clear hK9 K9
  (try simp only[pq])
  have hB6:=hB5.kept g6 (zaj hO5 hB5 (by decide))
  have q6:=hB6.cell 1
  simp only[List.getElem?_cons_zero,List.getElem?_cons_succ] at q6
  have f6:=hB6.fz 1
  refine tq 9 13 (.nilCheck (.tmp 4)) (.pointer (some ⟨wb,0,none⟩)) trivial ?_
  refine tq 10 14 (.fieldAddr 104 (.tmp 13) 1) (.pointer (some ⟨wb,1,none⟩)) trivial ?_
  (try simp only[pq])
  refine rd 11 none (.store 102 (.tmp 14) (.tmp 12)) (fun K9 hK9 => ?_)
  go_simp
  refine hK9.out _ _ trivial (fun _ => ?_)
  clear hK9 K9
  (try simp only[pq])
  refine wpAnyH_done (by kernel_rfl) ?_ _
  refine NoPanic.normal ?_
  clear q6 f6
  go_wp2
  go_end0
  exact ⟨rfl,uh HFIN w5 w6 gb6 c6 hG5 hO5 g6 hO6 hB6 hat6⟩
set_option maxHeartbeats 4000000 in
theorem zvz (w:World) (base wb:Nat) (sp:Option Addr) (v:Value) (H:List CmR) (r:CmR) (h:WaitAt w base wb sp v (H++[r])) (hL:H.length≤100000) :
  Calls Tryz.prog 199 #[.pointer (some ⟨wb,0,none⟩)] w fun e w'=>e = .returned (.iface 109 (.agg (cmC r).toArray))∧∃ v',WaitAt w' base wb sp v' H∧w.grownBy w' (some wb)∧v'.ownBlock=v.ownBlock:=by
 have hx:r.id.length=32:=h.ids r (by simp)
 obtain ⟨g,cap,rfl,hg,hgl,hcap,hrow⟩:=h.row (by simp)
 have hlen:(H++[r]).length=H.length+1:=by simp
 have hown:=h.own
 have hbk:=h.blk
 have hr:w.rangeAt g (H.length*34) (cmC r):=by
  have:=hrow H.length (by simp)
  rw[List.getElem_append_right (Nat.le_refl _)] at this
  simpa using this
 rw[hlen] at hown hbk hcap ⊢
 obtain ⟨n,hn⟩:∃ n,n=H.length:=⟨_,rfl⟩
 rw[← hn] at hown hbk hL hcap hr ⊢
 obtain ⟨KB,hKB⟩:∃ KB,KB=cmC r:=⟨_,rfl⟩
 rw[← hKB] at hr
 have hKl:KB.length=34:=by rw[hKB];exact zc7 _ hx
 have hKo:KB.toArray.all (·.oneCell')=true:=by rw[hKB];exact all_oneCell_toArray (zfs _)
 obtain ⟨ZC,hZC⟩:∃ Z,Z=cmC zls:=⟨_,rfl⟩
 have hzv:∀ w,(zeroValue 109).run Tryz.prog w = .ok (.agg ZC.toArray) w:=fun w=>by rw[hZC];exact zhq w
 have hZl:ZC.length=34:=by rw[hZC];rfl
 have hiK:(Tryz.prog.info? 109).map (·.size)=some KB.length:=by rw[hKl];exact zfc
 have hiK2:(Tryz.prog.info? 109).map (·.size)=some KB.toArray.size:=by simpa using hiK
 have hZE:ZC.toArray.size=KB.toArray.size:=by simp[hZl,hKl]
 obtain ⟨W1,hW1,hB1,g1⟩:=zbl w 109 ZC.toArray KB
 have hBZ:Blk (w.alloc (.cells ZC.toArray 109)) w.heap.size 109 ZC:=Blk.new w 109 ZC
 have hb1:=hbk.kept g1 (by simp)
 have hc0:=hbk.cell 1
 have hc1:=hb1.cell 1
 have hf1:=hb1.fz 1
 simp only[List.getElem?_cons_zero,List.getElem?_cons_succ] at hc0 hc1
 have hplt:=hbk.lt
 have hsl:∀ W,(Instr.slice 102 (.slice (some ⟨g,0,none⟩) (n+1) cap) none (some (.int .i64 (n:Int))) none).run Tryz.prog W = .ok (.slice (some ⟨g,0,none⟩) n cap) W:=fun W=>zqc W _ _ _ _ (by omega)
 have hB2:=(hB1.other ⟨wb,1,none⟩ (.slice (some ⟨g,0,none⟩) n cap) (by simp;omega))
 have hr2:=zal hB2
 obtain ⟨W2,hW2⟩:∃ W,W=W1.setCell ⟨wb,1,none⟩ (.slice (some ⟨g,0,none⟩) n cap):=⟨_,rfl⟩
 have g2:W1.grownBy W2 (some wb):=by rw[hW2];exact zcp _ _ _ _
 have hP2:Blk W2 wb 104 [.pointer sp,.slice (some ⟨g,0,none⟩) n cap]:=by rw[hW2];exact hb1.set 1 _
 rw[← hW2] at hB2 hr2
 have hfin:WaitAt W2 base wb sp (.slice (some ⟨g,0,none⟩) n cap) H∧w.grownBy W2 (some wb):=by
  refine ⟨⟨hP2,?_,fun y hy=>h.ids y (by simp[hy]),h.nb⟩,zae (zaw _ g1) g2 (fun _ e=>Or.inr e)⟩
  have ho:=zjp hown (Nat.le_succ n)
  have hfl:(H.flatMap cmC).length=n*34:=by rw[hn];exact zby cmC 34 H (fun y hy=>zc7 y (h.ids y (by simp[hy])))
  have e2:((H++[r]).flatMap cmC).take (n*34)=H.flatMap cmC:=by
   rw[List.flatMap_append,List.take_append_of_le_length (by omega),List.take_of_length_le (by omega)]
  rw[e2] at ho
  rw[← hn]
  exact (ho.kept g1 (by simp[Value.ownBlock])).kept g2 (Or.inr fun e=>zaj (ho.kept g1 (by simp[Value.ownBlock])) hb1 (by decide) e.symm)
 rw[← hKB]
 have hwn:IntKind.i64.wrap (((n+1:Nat):Int) - 1)=(n:Int):=by rw[IntKind.wrap_i64];omega
 have hwn2:((n:Int)+1) - 1=(n:Int):=by omega
 obtain ⟨HW1,HW2,HBZ,HIK,HIK2,HZE⟩:=zh6 hW1 hW2 hBZ hiK hiK2 hZE
 obtain ⟨HKO,HF⟩:=zh2 hKo hfin
 clear hW1 hW2 hBZ hiK hiK2 hZE hKo hfin hB1 hb1 h hown hbk hKB hKl hx hg hgl hlen hcap hB2 hP2 g1 g2 hZC hZl hplt hn hrow
 go_enter Tryz.func199,Tryz.ntmps199
 go_wp2_with (first
  | (refine wpList_load_mid rfl 109 _ rfl g (n*34) (by first | rfl | simp) KB _ hr Tryz.underlying109 rfl (uh HIK) ?_;clear hr)
  | (have hB9:=uh HBZ;refine wpList_store_row rfl 109 _ _ rfl w.heap.size KB.toArray rfl rfl _ _ hB9 (uh HIK2) (uh HZE) (uh HKO) ?_;clear hB9;rw[← uh HW1])
  | (rw[← uh HW2];refine wpList_load_mid rfl 109 _ rfl w.heap.size 0 rfl KB _ hr2 Tryz.underlying109 rfl (uh HIK) ?_;clear hr2))
 go_ret
 exact ⟨rfl,_,(uh HF).1,(uh HF).2,rfl⟩
theorem zem (a:CmR):cmLt a a=false:=by unfold cmLt;rw[if_pos rfl];exact zf3 _
theorem zfd (a b c:CmR) (h1:cmLt a b=true) (h2:cmLt b c=true):cmLt a c=true:=by
 unfold cmLt at *
 by_cases e1:a.time=b.time
 ·by_cases e2:b.time=c.time
  ·rw[if_pos e1] at h1
   rw[if_pos e2] at h2
   rw[if_pos (e1.trans e2)]
   exact zc5 _ _ _ h1 h2
  ·rw[if_neg e2] at h2
   rw[if_neg (by omega)]
   simp at h2 ⊢
   omega
 ·rw[if_neg e1] at h1
  by_cases e2:b.time=c.time
  ·rw[if_neg (by omega)]
   simp at h1 ⊢
   omega
  ·rw[if_neg e2] at h2
   simp at h1 h2
   rw[if_neg (by omega)]
   simp
   omega
theorem zg1 (a b:CmR) (h:cmLt a b=true):cmLt b a=false:=by
 cases h2:cmLt b a with
 | false=>rfl
 | true =>
  have:=zfd _ _ _ h h2
  rw[zem] at this
  cases this
theorem zjt (a b:CmR) (h1:cmLt a b=false) (h2:cmLt b a=false):a.time=b.time∧a.id=b.id:=by
 unfold cmLt at *
 by_cases e1:a.time=b.time
 ·rw[if_pos e1] at h1
  rw[if_pos e1.symm] at h2
  exact ⟨e1,zc4 _ _ h1 h2⟩
 ·rw[if_neg e1] at h1
  rw[if_neg (fun e=>e1 e.symm)] at h2
  simp at h1 h2
  omega
theorem zqd (a b c:CmR) (h:a.time=b.time∧a.id=b.id):cmLt a c=cmLt b c∧cmLt c a=cmLt c b:=by
 unfold cmLt
 rw[h.1,h.2]
 exact ⟨rfl,rfl⟩
theorem zds (a b c:CmR) (h1:cmLt a b=false) (h2:cmLt b c=false):cmLt a c=false:=by
 cases h3:cmLt a c with
 | false=>rfl
 | true =>
  cases h4:cmLt b a with
  | true =>
   have:=zfd _ _ _ h4 h3
   rw[h2] at this
   cases this
  | false =>
   have he:=zjt a b h1 h4
   rw[(zqd a b c he).1,h2] at h3
   cases h3
def atH (H:List CmR) (i:Nat):CmR:=H.getD i default
theorem zea {H:List CmR} {i:Nat} (h:i<H.length):atH H i=H[i]:=by unfold atH;rw[List.getD_eq_getElem?_getD,List.getElem?_eq_getElem h];rfl
theorem zdy {H:List CmR} {i j:Nat} (hi:i<H.length) (hj:j<H.length) (k:Nat):atH (zde H i j hi hj) k=if k=j then atH H i else if k=i then atH H j else atH H k:=by
 unfold zde atH
 rw[List.getD_eq_getElem?_getD,List.getElem?_set,List.getElem?_set,List.length_set]
 by_cases h1:k=j
 ·subst h1
  rw[if_pos rfl,if_pos hj,if_pos rfl,List.getD_eq_getElem?_getD,List.getElem?_eq_getElem hi]
 ·rw[if_neg (fun e=>h1 e.symm),if_neg h1]
  by_cases h2:k=i
  ·subst h2
   rw[if_pos rfl,if_pos hi,if_pos rfl,List.getD_eq_getElem?_getD,List.getElem?_eq_getElem hj]
  ·rw[if_neg (fun e=>h2 e.symm),if_neg h2,List.getD_eq_getElem?_getD]
theorem zsy {H:List CmR} {i j:Nat} (hi:i<H.length) (hj:j<H.length):(zde H i j hi hj).length=H.length:=by simp[zde]
theorem zeb {H:List CmR} {i j:Nat} (hi:i<H.length) (hj:j<H.length):(zde H i j hi hj).Perm H:=by
 have h:=Array.swap_perm (xs:=H.toArray) (i:=i) (j:=j) (by simpa using hi) (by simpa using hj)
 have h2:=h.toList
 simpa[zde] using h2
def zcz (H:List CmR) (n:Nat):Prop:=∀ i,0<i→i<n→cmLt (atH H i) (atH H ((i - 1) / 2))=false
def zjc (H:List CmR) (n j:Nat):Prop:=(∀ i,0<i→i<n→i≠j→cmLt (atH H i) (atH H ((i - 1) / 2))=false)∧(0<j→∀ c,0<c→c<n→(c - 1) / 2=j→cmLt (atH H c) (atH H ((j - 1) / 2))=false)
def zen (H:List CmR) (n j:Nat):Prop:=(∀ i,0<i→i<n→(i - 1) / 2≠j→cmLt (atH H i) (atH H ((i - 1) / 2))=false)∧(0<j→∀ c,0<c→c<n→(c - 1) / 2=j→cmLt (atH H c) (atH H ((j - 1) / 2))=false)
theorem zjc.end0 {H:List CmR} {n:Nat} (h:zjc H n 0):zcz H n:=fun i h1 h2=>h.1 i h1 h2 (by omega)
theorem zjc.end {H:List CmR} {n j:Nat} (h:zjc H n j) (hj:cmLt (atH H j) (atH H ((j - 1) / 2))=false):zcz H n:=fun i h1 h2=>by
 by_cases e:i=j
 ·subst e;exact hj
 ·exact h.1 i h1 h2 e
theorem zjc.step {H:List CmR} {n j p:Nat} (hp:p=(j - 1) / 2) (h:zjc H n j) (h0:0<j) (hjn:j<n) (hi:p<H.length) (hj:j<H.length) (hlt:cmLt (atH H j) (atH H p)=true):zjc (zde H p j hi hj) n p:=by
 have hpj:p<j:=by omega
 have hE:∀ k,atH (zde H p j hi hj) k=if k=j then atH H p else if k=p then atH H j else atH H k:=fun k=>zdy hi hj k
 constructor
 ·intro i h1 h2 h3
  rw[hE,hE]
  by_cases e1:i=j
  ·subst e1
   rw[if_pos rfl,← hp,if_neg (by omega),if_pos rfl]
   exact zg1 _ _ hlt
  ·rw[if_neg e1,if_neg h3]
   by_cases e2:(i - 1) / 2=j
   ·rw[if_pos e2]
    have:=h.2 h0 i h1 h2 e2
    rwa [← hp] at this
   ·rw[if_neg e2]
    by_cases e3:(i - 1) / 2=p
    ·rw[if_pos e3]
     have h5:=h.1 i h1 h2 e1
     rw[e3] at h5
     cases h6:cmLt (atH H i) (atH H j) with
     | false=>rfl
     | true =>
      have:=zfd _ _ _ h6 hlt
      rw[h5] at this
      cases this
    ·rw[if_neg e3]
     exact h.1 i h1 h2 e1
 ·intro hp0 c h1 h2 h3
  rw[hE,hE]
  have e4:(p - 1) / 2≠j:=by omega
  have e5:(p - 1) / 2≠p:=by omega
  rw[if_neg e4,if_neg e5]
  have hpp:=h.1 p hp0 (by omega) (by omega)
  by_cases e1:c=j
  ·rw[if_pos e1];exact hpp
  ·rw[if_neg e1,if_neg (by omega)]
   have h5:=h.1 c h1 h2 e1
   rw[h3] at h5
   exact zds _ _ _ h5 hpp
theorem zen.end {H:List CmR} {n j:Nat} (h:zen H n j) (hj:∀ c,0<c→c<n→(c - 1) / 2=j→cmLt (atH H c) (atH H j)=false):zcz H n:=fun i h1 h2=>by
 by_cases e:(i - 1) / 2=j
 ·rw[e];exact hj i h1 h2 e
 ·exact h.1 i h1 h2 e
theorem zen.step {H:List CmR} {n i j:Nat} (h:zen H n i) (hj0:0<j) (hjn:j<n) (hpar:(j - 1) / 2=i) (hi:i<H.length) (hj:j<H.length) (hlt:cmLt (atH H j) (atH H i)=true) (hsib:∀ c,0<c→c<n→(c - 1) / 2=i→cmLt (atH H c) (atH H j)=false):zen (zde H i j hi hj) n j:=by
 have hij:i<j:=by omega
 have hE:∀ k,atH (zde H i j hi hj) k=if k=j then atH H i else if k=i then atH H j else atH H k:=fun k=>zdy hi hj k
 constructor
 ·intro k h1 h2 h3
  rw[hE,hE,if_neg h3]
  by_cases e1:(k - 1) / 2=i
  ·rw[if_pos e1]
   by_cases e2:k=j
   ·rw[if_pos e2];exact zg1 _ _ hlt
   ·rw[if_neg e2,if_neg (by omega)]
    exact hsib k h1 h2 e1
  ·rw[if_neg e1,if_neg (fun e=>e1 (by rw[e];exact hpar))]
   by_cases e2:k=i
   ·rw[if_pos e2,e2]
    exact h.2 (by omega) j hj0 hjn hpar
   ·rw[if_neg e2]
    exact h.1 k h1 h2 e1
 ·intro _ c h1 h2 h3
  rw[hE,hE,hpar]
  rw[if_neg (by omega),if_neg (by omega),if_neg (by omega),if_pos rfl]
  have:=h.1 c h1 h2 (by omega)
  rwa [h3] at this
theorem zcz.top {H:List CmR} {n:Nat} (h:zcz H n):∀ k,k<n→cmLt (atH H k) (atH H 0)=false:=by
 intro k
 induction k using Nat.strongRecOn with
 | _ k ih =>
  intro hk
  by_cases h0:k=0
  ·subst h0;exact zem _
  ·exact zds _ _ _ (h k (by omega) hk) (ih ((k - 1) / 2) (by omega) (by omega))
theorem zcz.less {H G:List CmR} {n:Nat} (h:zcz H n) (he:∀ i,i<n→atH G i=atH H i):zcz G n:=fun i h1 h2=>by
 rw[he i h2,he _ (by omega)]
 exact h i h1 h2
theorem mLen (v:Value) (w:World):(Go.method 408 101 v "Len").run Tryz.prog w = .ok (56,v) w:=by kernel_rfl
theorem zy7 (v:Value) (w:World):(Go.method 408 101 v "Less").run Tryz.prog w = .ok (198,v) w:=by kernel_rfl
theorem zx5 (v:Value) (w:World):(Go.method 408 101 v "Swap").run Tryz.prog w = .ok (201,v) w:=by kernel_rfl
theorem zzp (v:Value) (w:World):(Go.method 408 101 v "Push").run Tryz.prog w = .ok (200,v) w:=by kernel_rfl
theorem mPop (v:Value) (w:World):(Go.method 408 101 v "Pop").run Tryz.prog w = .ok (199,v) w:=by kernel_rfl
theorem zix {w a b:World} {r:Option Nat} (h:w.grownBy a r) (k:a.grownBy b r):w.grownBy b r:=zae h k (fun _ e=>Or.inr e)
set_option maxHeartbeats 4000000 in
theorem zy8 (w:World) (base wb:Nat) (sp:Option Addr) (v:Value) (H:List CmR) (h:WaitAt w base wb sp v H) (j:Nat) (hj:j<H.length) (hU:zjc H H.length j) (hl:H.length≤100000) :
  Calls Tryz.prog 106 #[.iface 101 (.pointer (some ⟨wb,0,none⟩)),.int .i64 (j:Int)] w fun e w'=>e = .returned (.tuple #[])∧∃ H',H'.Perm H∧zcz H' H.length∧WaitAt w' base wb sp v H'∧w.grownBy w' v.ownBlock:=by
 have m1:=zy7
 have m2:=zx5
 obtain ⟨n,hn⟩:∃ n,n=H.length:=⟨_,rfl⟩
 rw[← hn] at hj hU hl ⊢
 obtain ⟨HN,HH,HU⟩:=zh3 hn h hU
 clear hn h hU
 go_enter Tryz.func106,Tryz.ntmps106
 go_wp2_with fail
 go_loopg [1] j (fun k sj wr=>∃ (i:Nat) (G:List CmR),sj = .int .i64 i∧i<n∧Hid (WaitAt wr base wb sp v G∧zjc G n i∧G.Perm H∧w.grownBy wr v.ownBlock)∧i≤k)
 case atStart=>exact ⟨j,H,rfl,hj,⟨uh HH,uh HU,List.Perm.refl _,zab _ _⟩,Nat.le_refl _⟩
 case round =>
  obtain ⟨i,G,rfl,hi,HG,hk⟩:=hrel
  have HK:=hide hk
  clear hk
  have hGl:G.length=n:=by rw[(uh HG).2.2.1.length_eq,uh HN]
  rcases Nat.eq_zero_or_pos i with rfl | hi0
  ·have hE:=(uh HG).2.1.end0
   have HE:=hide hE
   clear hE hGl
   go_upto_region 1 with fail
   refine za3 fun O hO => ?_
   refine zaa (by rw[hO];kernel_rfl) (.int .i64 0) (fun K9 hK9=>by go_simp;exact hK9) ?_
   (try simp only[pq])
   refine zaa (by rw[hO];kernel_rfl) (.int .i64 0) (fun K9 hK9=>by go_simp;exact hK9) ?_
   (try simp only[pq])
   refine zaa (by rw[hO];kernel_rfl) (.bool true) (fun K9 hK9=>by go_simp;exact hK9) ?_
   (try simp only[pq])
   refine zaa (by rw[hO];kernel_rfl) (.bool true) (fun K9 hK9=>by go_simp;exact hK9) ?_
   (try simp only[pq])
   refine zac (by rw[hO];kernel_rfl) ?_
   (try simp only[pq])
   refine zac (by rw[hO];kernel_rfl) ?_
   (try simp only[pq])
   refine zac (by rw[hO];kernel_rfl) ?_
   (try simp only[pq])
   refine zac (by rw[hO];kernel_rfl) ?_
   (try simp only[pq])
   refine zac (by rw[hO];kernel_rfl) ?_
   (try simp only[pq])
   refine zaa (by rw[hO];kernel_rfl) (.bool true) (fun K9 hK9=>by go_simp;exact hK9) ?_
   (try simp only[pq])
   go_wp2
   go_end0
   obtain ⟨a1,a2,a3,a4⟩:=uh HG
   exact ⟨rfl,G,a3,uh HE,a1,a4⟩
  ·obtain ⟨q,rfl⟩:∃ q,i=q+1:=⟨i - 1,by omega⟩
   obtain ⟨p,hp⟩:∃ p,p=q / 2:=⟨_,rfl⟩
   have hpq:p≤q:=by omega
   have hp2:p=(q+1 - 1) / 2:=by rw[hp];rfl
   have hw1:IntKind.i64.wrap (((q+1:Nat):Int) - 1)=(q:Int):=by rw[IntKind.wrap_i64];omega
   have hw2:((q:Int)+1) - 1=(q:Int):=by omega
   have hd:Int.tdiv (q:Int) 2=(p:Int):=by rw[hp,Int.tdiv_eq_ediv_of_nonneg (by omega)];omega
   have hd2:(q:Int) / 2=(p:Int):=by rw[hp];omega
   have hne:¬ ((p:Int)=(q:Int)+1):=by omega
   have hneb:((p:Int) == (q:Int)+1)=false:=by simpa using hne
   have ce:(((q+1:Nat)):Int)=(q:Int)+1:=by omega
   have hiG:q+1<G.length:=by omega
   have hpG:p<G.length:=by omega
   have cl:=ze3 wr base wb sp v G (uh HG).1 (q+1) p hiG hpG (by omega)
   obtain ⟨y,hy⟩:∃ y,y=cmLt G[q+1] G[p]:=⟨_,rfl⟩
   rw[← hy] at cl
   have hy2:y=cmLt (atH G (q+1)) (atH G p):=by rw[hy,zea hiG,zea hpG]
   obtain ⟨HY,HP,HGL,HHG,HHP⟩:=zh5 hy2 hp2 hGl hiG hpG
   rw[ce] at cl ⊢
   clear hp hp2 hy hy2 hGl hiG hpG ce
   cases y with
   | false =>
    go_wp2_with (go_at_call 198;refine cl.mono ?_;rintro e w2 ⟨rfl,g2⟩;clear cl)
    go_end0
    obtain ⟨a1,a2,a3,a4⟩:=uh HG
    exact ⟨rfl,G,a3,a2.end (by rw[← uh HP];exact (uh HY).symm),a1.none g2,tn a4 g2⟩
   | true =>
    have cs:∀ w2,wr.grownBy w2 none→Calls Tryz.prog 201 #[.pointer (some ⟨wb,0,none⟩),.int .i64 (p:Int),.int .i64 ((q:Int)+1)] w2 fun e w'=>e = .returned (.tuple #[])∧WaitAt w' base wb sp v (zde G p (q+1) (uh HHP) (uh HHG))∧w2.grownBy w' v.ownBlock:=fun w2 g2 =>
     ze4 w2 base wb sp v G ((uh HG).1.none g2) p (q+1) (uh HHP) (uh HHG) (by have:=uh HGL;omega)
    have HCS:=hide cs
    clear cs
    go_wp2_with (first
     | (go_at_call 198;refine cl.mono ?_;rintro e w2 ⟨rfl,g2⟩;clear cl;have cs:=uh HCS w2 g2)
     | (go_at_call 201;refine cs.mono ?_;rintro e w3 ⟨rfl,hW3,g3⟩;clear cs;have HW3:=hide hW3;clear hW3))
    go_roundg p
    case measure=>have:=uh HK;omega
    case rel =>
     obtain ⟨a1,a2,a3,a4⟩:=uh HG
     refine ⟨p,zde G p (q+1) (uh HHP) (uh HHG),rfl,by omega,⟨uh HW3,a2.step (uh HP) (by omega) hi (uh HHP) (uh HHG) (uh HY).symm,(zeb _ _).trans a3,zix (tn a4 g2) g3⟩,Nat.le_refl _⟩
set_option maxHeartbeats 8000000 in
theorem zv0 (w:World) (base wb:Nat) (sp:Option Addr) (v:Value) (H:List CmR) (h:WaitAt w base wb sp v H) (n:Nat) (hn:n≤H.length) (hD:zen H n 0) (hl:H.length≤100000) :
  Calls Tryz.prog 83 #[.iface 101 (.pointer (some ⟨wb,0,none⟩)),.int .i64 0,.int .i64 (n:Int)] w fun e w'=>∃ y,e = .returned y∧∃ H',H'.Perm H∧zcz H' n∧WaitAt w' base wb sp v H'∧(∀ k,n≤k→atH H' k=atH H k)∧w.grownBy w' v.ownBlock:=by
 have m1:=zy7
 have m2:=zx5
 obtain ⟨N,hN⟩:∃ N,N=H.length:=⟨_,rfl⟩
 rw[← hN] at hn hl
 obtain ⟨HN,HH,HD⟩:=zh3 hN h hD
 clear hN h hD
 go_enter Tryz.func83,Tryz.ntmps83
 go_wp2_with fail
 go_loopg [7] n (fun k si wr=>∃ (i:Nat) (G:List CmR),si = .int .i64 i∧i≤n∧Hid (WaitAt wr base wb sp v G∧zen G n i∧G.Perm H∧w.grownBy wr v.ownBlock)∧Hid (∀ k,n≤k→atH G k=atH H k)∧n - i≤k)
 case atStart=>exact ⟨0,H,rfl,Nat.zero_le _,⟨uh HH,uh HD,List.Perm.refl _,zab _ _⟩,fun _ _=>rfl,by omega⟩
 case round =>
  obtain ⟨i,G,rfl,hi,HG,HKP,hk⟩:=hrel
  have HK:=hide hk
  clear hk
  have hGl:G.length=N:=by rw[(uh HG).2.2.1.length_eq,uh HN]
  have HGL:=hide hGl
  obtain ⟨j1,hj1⟩:∃ j,j=2*i+1:=⟨_,rfl⟩
  obtain ⟨j2,hj2⟩:∃ j,j=j1+1:=⟨_,rfl⟩
  have e1:2*(i:Int)+1=(j1:Int):=by omega
  have e2:(j1:Int)+1=(j2:Int):=by omega
  have b1:j1≤300000:=by omega
  have hnn:¬ ((j1:Int)<0):=by omega
  obtain ⟨HJ1,HJ2⟩:=zh2 hj1 hj2
  by_cases hA:j1<n
  ·have hA1:decide (n≤j1)=false:=by simp;omega
   have hA2:¬ n≤j1:=by omega
   by_cases hB:j2<n
   ·have hJ1G:j1<G.length:=by omega
    have hJ2G:j2<G.length:=by omega
    have c6:=ze3 wr base wb sp v G (uh HG).1 j2 j1 hJ2G hJ1G (by omega)
    obtain ⟨y6,hy6⟩:∃ y,y=cmLt G[j2] G[j1]:=⟨_,rfl⟩
    rw[← hy6] at c6
    have hz6:y6=cmLt (atH G j2) (atH G j1):=by rw[hy6,zea hJ2G,zea hJ1G]
    have HZ6:=hide hz6
    clear hGl hj1 hj2 hJ1G hJ2G hy6 hz6
    cases y6 with
    | false =>
     go_upto_region 8 with (go_at_call 198;refine c6.mono ?_;rintro e w6 ⟨rfl,g6⟩;clear c6)
     have hJG:j1<G.length:=by have:=uh HGL;omega
     have hIG:i<G.length:=by have:=uh HGL;have:=uh HJ1;omega
     have hJ0:0<j1:=by have:=uh HJ1;omega
     have hJp:(j1 - 1) / 2=i:=by have:=uh HJ1;have:=uh HJ2;omega
     have c8:=ze3 w6 base wb sp v G ((uh HG).1.none g6) j1 i hJG hIG (by have:=uh HGL;omega)
     obtain ⟨y8,hy8⟩:∃ y,y=cmLt G[j1] G[i]:=⟨_,rfl⟩
     rw[← hy8] at c8
     have hz8:y8=cmLt (atH G j1) (atH G i):=by rw[hy8,zea hJG,zea hIG]
     have hsib:∀ c,0<c→c<n→(c - 1) / 2=i→cmLt (atH G c) (atH G j1)=false:=fun c h1 h2 h3=>by
          have h4:=uh HJ1
          have h5:=uh HJ2
          rcases (by omega:c=j1∨c=j2) with rfl | rfl
          ·exact zem _
          ·exact (uh HZ6).symm
     obtain ⟨HZ8,HSB,HJG,HIG,HJ0,HJP⟩:=zh6 hz8 hsib hJG hIG hJ0 hJp
     have HGW:=hide g6
     clear hy8 hz8 hsib hJG hIG hJ0 hJp
     cases y8 with
     | false =>
      go_wp2_with (go_at_call 198;refine c8.mono ?_;rintro e w8 ⟨rfl,g8⟩;clear c8)
      go_ret
      obtain ⟨a1,a2,a3,a4⟩:=uh HG
      have gA:=tn (uh HGW) g8
      refine ⟨_,rfl,G,a3,a2.end (fun c h1 h2 h3=>zds _ _ _ (uh HSB c h1 h2 h3) (uh HZ8).symm),a1.none gA,fun k hk=>uh HKP k hk,tn a4 gA⟩
     | true =>
      have cs:∀ w8,w6.grownBy w8 none→Calls Tryz.prog 201 #[.pointer (some ⟨wb,0,none⟩),.int .i64 (i:Int),.int .i64 (j1:Int)] w8 fun e w'=>e = .returned (.tuple #[])∧WaitAt w' base wb sp v (zde G i j1 (uh HIG) (uh HJG))∧w8.grownBy w' v.ownBlock:=fun w8 g8=>ze4 w8 base wb sp v G ((uh HG).1.none (tn (uh HGW) g8)) i j1 (uh HIG) (uh HJG) (by have:=uh HGL;omega)
      have HCS:=hide cs
      clear cs
      go_wp2_with (first | (go_at_call 198;refine c8.mono ?_;rintro e w8 ⟨rfl,g8⟩;clear c8;have cs:=uh HCS w8 g8) | (go_at_call 201;refine cs.mono ?_;rintro e w9 ⟨rfl,hW9,g9⟩;clear cs;have HW9:=hide hW9;clear hW9))
      go_roundg (n - j1)
      case measure=>have:=uh HK;have:=uh HJ1;have:=uh HJ2;omega
      case rel =>
       obtain ⟨a1,a2,a3,a4⟩:=uh HG
       refine ⟨j1,zde G i j1 (uh HIG) (uh HJG),rfl,by omega,⟨uh HW9,a2.step (uh HJ0) (by omega) (uh HJP) (uh HIG) (uh HJG) (uh HZ8).symm (uh HSB),(zeb _ _).trans a3,zix (tn a4 (tn (uh HGW) g8)) g9⟩,fun k hk => ?_,Nat.le_refl _⟩
       rw[zdy,if_neg (by omega),if_neg (by have:=uh HJ1;have:=uh HJ2;omega)]
       exact uh HKP k hk
    | true =>
     go_upto_region 8 with (go_at_call 198;refine c6.mono ?_;rintro e w6 ⟨rfl,g6⟩;clear c6)
     have hJG:j2<G.length:=by have:=uh HGL;omega
     have hIG:i<G.length:=by have:=uh HGL;have:=uh HJ1;omega
     have hJ0:0<j2:=by have:=uh HJ1;omega
     have hJp:(j2 - 1) / 2=i:=by have:=uh HJ1;have:=uh HJ2;omega
     have c8:=ze3 w6 base wb sp v G ((uh HG).1.none g6) j2 i hJG hIG (by have:=uh HGL;omega)
     obtain ⟨y8,hy8⟩:∃ y,y=cmLt G[j2] G[i]:=⟨_,rfl⟩
     rw[← hy8] at c8
     have hz8:y8=cmLt (atH G j2) (atH G i):=by rw[hy8,zea hJG,zea hIG]
     have hsib:∀ c,0<c→c<n→(c - 1) / 2=i→cmLt (atH G c) (atH G j2)=false:=fun c h1 h2 h3=>by
          have h4:=uh HJ1
          have h5:=uh HJ2
          rcases (by omega:c=j1∨c=j2) with rfl | rfl
          ·exact zg1 _ _ (uh HZ6).symm
          ·exact zem _
     obtain ⟨HZ8,HSB,HJG,HIG,HJ0,HJP⟩:=zh6 hz8 hsib hJG hIG hJ0 hJp
     have HGW:=hide g6
     clear hy8 hz8 hsib hJG hIG hJ0 hJp
     cases y8 with
     | false =>
      go_wp2_with (go_at_call 198;refine c8.mono ?_;rintro e w8 ⟨rfl,g8⟩;clear c8)
      go_ret
      obtain ⟨a1,a2,a3,a4⟩:=uh HG
      have gA:=tn (uh HGW) g8
      refine ⟨_,rfl,G,a3,a2.end (fun c h1 h2 h3=>zds _ _ _ (uh HSB c h1 h2 h3) (uh HZ8).symm),a1.none gA,fun k hk=>uh HKP k hk,tn a4 gA⟩
     | true =>
      have cs:∀ w8,w6.grownBy w8 none→Calls Tryz.prog 201 #[.pointer (some ⟨wb,0,none⟩),.int .i64 (i:Int),.int .i64 (j2:Int)] w8 fun e w'=>e = .returned (.tuple #[])∧WaitAt w' base wb sp v (zde G i j2 (uh HIG) (uh HJG))∧w8.grownBy w' v.ownBlock:=fun w8 g8=>ze4 w8 base wb sp v G ((uh HG).1.none (tn (uh HGW) g8)) i j2 (uh HIG) (uh HJG) (by have:=uh HGL;omega)
      have HCS:=hide cs
      clear cs
      go_wp2_with (first | (go_at_call 198;refine c8.mono ?_;rintro e w8 ⟨rfl,g8⟩;clear c8;have cs:=uh HCS w8 g8) | (go_at_call 201;refine cs.mono ?_;rintro e w9 ⟨rfl,hW9,g9⟩;clear cs;have HW9:=hide hW9;clear hW9))
      go_roundg (n - j2)
      case measure=>have:=uh HK;have:=uh HJ1;have:=uh HJ2;omega
      case rel =>
       obtain ⟨a1,a2,a3,a4⟩:=uh HG
       refine ⟨j2,zde G i j2 (uh HIG) (uh HJG),rfl,by omega,⟨uh HW9,a2.step (uh HJ0) (by omega) (uh HJP) (uh HIG) (uh HJG) (uh HZ8).symm (uh HSB),(zeb _ _).trans a3,zix (tn a4 (tn (uh HGW) g8)) g9⟩,fun k hk => ?_,Nat.le_refl _⟩
       rw[zdy,if_neg (by omega),if_neg (by have:=uh HJ1;have:=uh HJ2;omega)]
       exact uh HKP k hk
   ·have hB1:decide (j2<n)=false:=by simp;omega
    clear hGl hj1 hj2
    go_upto_region 6 with fail
    refine za3 fun O hO => ?_
    refine zaa (by rw[hO];kernel_rfl) (.int .i64 (j2:Int)) (fun K9 hK9=>by go_simp;exact hK9) ?_
    (try simp only[pq])
    refine zaa (by rw[hO];kernel_rfl) (.int .i64 (n:Int)) (fun K9 hK9=>by go_simp;exact hK9) ?_
    (try simp only[pq])
    refine zaa (by rw[hO];kernel_rfl) (.bool false) (fun K9 hK9=>by go_simp;exact hK9) ?_
    (try simp only[pq])
    refine zaa (by rw[hO];kernel_rfl) (.bool false) (fun K9 hK9=>by go_simp;exact hK9) ?_
    (try simp only[pq])
    refine zac (by rw[hO];kernel_rfl) ?_
    (try simp only[pq])
    refine zac (by rw[hO];kernel_rfl) ?_
    (try simp only[pq])
    refine zac (by rw[hO];kernel_rfl) ?_
    (try simp only[pq])
    refine zac (by rw[hO];kernel_rfl) ?_
    (try simp only[pq])
    refine zaa (by rw[hO];kernel_rfl) (.bool false) (fun K9 hK9=>by go_simp;exact hK9) ?_
    (try simp only[pq])
    go_upto_region 8 with fail
    have hJG:j1<G.length:=by have:=uh HGL;omega
    have hIG:i<G.length:=by have:=uh HGL;have:=uh HJ1;omega
    have hJ0:0<j1:=by have:=uh HJ1;omega
    have hJp:(j1 - 1) / 2=i:=by have:=uh HJ1;have:=uh HJ2;omega
    have c8:=ze3 wr base wb sp v G ((uh HG).1.none (zab wr none)) j1 i hJG hIG (by have:=uh HGL;omega)
    obtain ⟨y8,hy8⟩:∃ y,y=cmLt G[j1] G[i]:=⟨_,rfl⟩
    rw[← hy8] at c8
    have hz8:y8=cmLt (atH G j1) (atH G i):=by rw[hy8,zea hJG,zea hIG]
    have hsib:∀ c,0<c→c<n→(c - 1) / 2=i→cmLt (atH G c) (atH G j1)=false:=fun c h1 h2 h3=>by
         have:c=j1:=by have:=uh HJ1;have:=uh HJ2;omega
         rw[this];exact zem _
    obtain ⟨HZ8,HSB,HJG,HIG,HJ0,HJP⟩:=zh6 hz8 hsib hJG hIG hJ0 hJp
    have HGW:=hide (zab wr none)
    clear hy8 hz8 hsib hJG hIG hJ0 hJp
    cases y8 with
    | false =>
     go_wp2_with (go_at_call 198;refine c8.mono ?_;rintro e w8 ⟨rfl,g8⟩;clear c8)
     go_ret
     obtain ⟨a1,a2,a3,a4⟩:=uh HG
     have gA:=tn (uh HGW) g8
     refine ⟨_,rfl,G,a3,a2.end (fun c h1 h2 h3=>zds _ _ _ (uh HSB c h1 h2 h3) (uh HZ8).symm),a1.none gA,fun k hk=>uh HKP k hk,tn a4 gA⟩
    | true =>
     have cs:∀ w8,wr.grownBy w8 none→Calls Tryz.prog 201 #[.pointer (some ⟨wb,0,none⟩),.int .i64 (i:Int),.int .i64 (j1:Int)] w8 fun e w'=>e = .returned (.tuple #[])∧WaitAt w' base wb sp v (zde G i j1 (uh HIG) (uh HJG))∧w8.grownBy w' v.ownBlock:=fun w8 g8=>ze4 w8 base wb sp v G ((uh HG).1.none (tn (uh HGW) g8)) i j1 (uh HIG) (uh HJG) (by have:=uh HGL;omega)
     have HCS:=hide cs
     clear cs
     go_wp2_with (first | (go_at_call 198;refine c8.mono ?_;rintro e w8 ⟨rfl,g8⟩;clear c8;have cs:=uh HCS w8 g8) | (go_at_call 201;refine cs.mono ?_;rintro e w9 ⟨rfl,hW9,g9⟩;clear cs;have HW9:=hide hW9;clear hW9))
     go_roundg (n - j1)
     case measure=>have:=uh HK;have:=uh HJ1;have:=uh HJ2;omega
     case rel =>
      obtain ⟨a1,a2,a3,a4⟩:=uh HG
      refine ⟨j1,zde G i j1 (uh HIG) (uh HJG),rfl,by omega,⟨uh HW9,a2.step (uh HJ0) (by omega) (uh HJP) (uh HIG) (uh HJG) (uh HZ8).symm (uh HSB),(zeb _ _).trans a3,zix (tn a4 (tn (uh HGW) g8)) g9⟩,fun k hk => ?_,Nat.le_refl _⟩
      rw[zdy,if_neg (by omega),if_neg (by have:=uh HJ1;have:=uh HJ2;omega)]
      exact uh HKP k hk
  ·have hA1:decide (n≤j1)=true:=by simp;omega
   have hA2:n≤j1:=by omega
   have hE:=(uh HG).2.1.end (fun c h1 h2 h3=>by omega)
   have HE:=hide hE
   clear hE hGl hj1 hj2
   go_upto_region 3 with fail
   refine za3 fun O hO => ?_
   refine zaa (by rw[hO];kernel_rfl) (.int .i64 (j1:Int)) (fun K9 hK9=>by go_simp;exact hK9) ?_
   (try simp only[pq])
   refine zaa (by rw[hO];kernel_rfl) (.int .i64 (n:Int)) (fun K9 hK9=>by go_simp;exact hK9) ?_
   (try simp only[pq])
   refine zaa (by rw[hO];kernel_rfl) (.bool true) (fun K9 hK9=>by go_simp;exact hK9) ?_
   (try simp only[pq])
   refine zaa (by rw[hO];kernel_rfl) (.bool true) (fun K9 hK9=>by go_simp;exact hK9) ?_
   (try simp only[pq])
   refine zac (by rw[hO];kernel_rfl) ?_
   (try simp only[pq])
   refine zac (by rw[hO];kernel_rfl) ?_
   (try simp only[pq])
   refine zaa (by rw[hO];kernel_rfl) (.bool true) (fun K9 hK9=>by go_simp;exact hK9) ?_
   (try simp only[pq])
   go_wp2
   go_ret
   obtain ⟨a1,a2,a3,a4⟩:=uh HG
   first
    | exact ⟨_,rfl,G,a3,uh HE,a1,uh HKP,a4⟩
    | exact ⟨⟨_,rfl⟩,G,a3,uh HE,a1,uh HKP,a4⟩
theorem zqe {w a b:World} {pb:Nat} {v v' : Value} (h:ByPile w a pb v) (k:a.grownBy b v'.ownBlock) (hv:∀ k,v'.ownBlock=some k→v.ownBlock=some k∨w.heap.size≤k):ByPile w b pb v :=
 ⟨k.os.trans h.os,k.tape.trans h.tape,k.output.trans h.output,Nat.le_trans h.size k.size,fun i hi h1 h2=>by
  rw[k.block i (Nat.lt_of_lt_of_le hi h.size) (fun e=>by
   rcases hv i e.symm with h3 | h3
   ·exact h2 h3.symm
   ·omega),h.block i hi h1 h2]⟩
theorem zsz {H:List CmR} (r:CmR) (h:zcz H H.length):zjc (H++[r]) (H.length+1) H.length:=by
 have hat:∀ i,i<H.length→atH (H++[r]) i=atH H i:=fun i hi=>by
  unfold atH
  rw[List.getD_eq_getElem?_getD,List.getD_eq_getElem?_getD,List.getElem?_append_left hi]
 refine ⟨fun i h1 h2 h3 => ?_,fun h0 c h1 h2 h3=>by omega⟩
 rw[hat i (by omega),hat _ (by omega)]
 exact h i h1 (by omega)
set_option maxHeartbeats 4000000 in
theorem zs0 (w:World) (base wb:Nat) (sp:Option Addr) (v:Value) (H:List CmR) (h:WaitAt w base wb sp v H) (r:CmR) (hr:r.id.length=32) (hH:zcz H H.length) (hL:H.length≤90000) :
  Calls Tryz.prog 82 #[.iface 101 (.pointer (some ⟨wb,0,none⟩)),.iface 109 (.agg (cmC r).toArray)] w fun e w'=>e = .returned (.tuple #[])∧∃ v' H',WaitAt w' base wb sp v' H'∧H'.Perm (H++[r])∧zcz H' H'.length∧ByPile w w' wb v∧(∀ k,v'.ownBlock=some k→v.ownBlock=some k∨w.heap.size≤k):=by
 have m1:=zzp
 have m2:=mLen
 have cp:=zsx w base wb sp v H h r hr (by omega)
 obtain ⟨RV,hRV⟩:∃ x,x=Value.agg (cmC r).toArray:=⟨_,rfl⟩
 rw[← hRV] at cp ⊢
 have HU:=hide (zsz r hH)
 obtain ⟨n,hn⟩:∃ n,n=H.length:=⟨_,rfl⟩
 have HN:=hide hn
 have hL' : n≤90000:=by omega
 clear h hr hH hL hRV hn
 go_enter Tryz.func82,Tryz.ntmps82
 go_wp2_with fail
 refine cp.mono ?_
 rintro e w1 ⟨rfl,v1,hW1,hP1,hv1⟩
 have cl:=zkp w1 base wb sp v1 _ hW1
 have el:(H++[r]).length=n+1:=by rw[uh HN];simp
 rw[el] at cl
 have ew:(((n+1:Nat)):Int)=(n:Int)+1:=by omega
 rw[ew] at cl
 have cu:=zy8 w1 base wb sp v1 _ hW1 n (by omega) (by rw[el];have:=uh HU;rw[← uh HN] at this;exact this) (by omega)
 have hw:IntKind.i64.wrap ((n:Int)+1 - 1)=(n:Int):=by rw[IntKind.wrap_i64];omega
 have hw2:(n:Int)+1 - 1=(n:Int):=by omega
 obtain ⟨HP1,HV1,HEL⟩:=zh3 hP1 hv1 el
 clear cp hW1 hP1 hv1 el ew
 go_wp2_with (first
  | (go_at_call 56;refine cl.mono ?_;rintro e w2 ⟨rfl,e2⟩;subst w2;clear cl))
 refine cu.mono ?_
 rintro e w3 ⟨rfl,H3,p3,q3,hW3,g3⟩
 have HQ:=hide (And.intro p3 (And.intro q3 (And.intro hW3 g3)))
 clear cu p3 q3 hW3 g3
 go_wp2
 go_end0
 obtain ⟨p3,q3,hW3,g3⟩:=uh HQ
 exact ⟨rfl,v1,H3,hW3,p3,by rw[p3.length_eq];exact q3,zqe (uh HP1) g3 (uh HV1),uh HV1⟩
theorem zm7 {H:List CmR} (n:Nat) (hn:H.length=n+1) (h:zcz H (n+1)):zen (zde H 0 n (by omega) (by omega)) n 0:=by
 refine ⟨fun i h1 h2 h3 => ?_,fun h0=>by omega⟩
 rw[zdy,zdy,if_neg (by omega),if_neg (by omega),if_neg (by omega),if_neg h3]
 exact h i h1 (by omega)
theorem zlv {H:List CmR} (n:Nat) (hn:H.length=n+1):H=H.take n++[atH H n]:=by
 rw[zea (by omega)]
 conv=>lhs;rw[← List.take_append_drop n H,List.drop_eq_getElem_cons (by omega)]
 rw[List.drop_of_length_le (by omega)]
set_option maxHeartbeats 4000000 in
theorem zv1 (w:World) (base wb:Nat) (sp:Option Addr) (v:Value) (H:List CmR) (h:WaitAt w base wb sp v H) (h0:0<H.length) (hH:zcz H H.length) (hL:H.length≤90000) :
  Calls Tryz.prog 57 #[.iface 101 (.pointer (some ⟨wb,0,none⟩))] w fun e w'=>∃ r v' H',e = .returned (.iface 109 (.agg (cmC r).toArray))∧r∈H∧(∀ x∈H,cmLt x r=false)∧WaitAt w' base wb sp v' H'∧(H'++[r]).Perm H∧zcz H' H'.length∧ByPile w w' wb v∧v'.ownBlock=v.ownBlock:=by
 have m1:=mLen
 have m2:=zx5
 have m3:=mPop
 obtain ⟨n,hn⟩:∃ n,H.length=n+1:=⟨H.length - 1,by omega⟩
 have cl:=zkp w base wb sp v H h
 have cs:=ze4 w base wb sp v H h 0 n (by omega) (by omega) (by omega)
 rw[hn] at cl hH
 have ew:(((n+1:Nat)):Int)=(n:Int)+1:=by omega
 rw[ew] at cl
 have hw:IntKind.i64.wrap ((n:Int)+1 - 1)=(n:Int):=by rw[IntKind.wrap_i64];omega
 have hw2:(n:Int)+1 - 1=(n:Int):=by omega
 obtain ⟨G,hG⟩:∃ G,G=zde H 0 n (by omega) (by omega):=⟨_,rfl⟩
 rw[← hG] at cs
 have hGl:G.length=n+1:=by rw[hG,zsy];exact hn
 have hGD:zen G n 0:=by rw[hG];exact zm7 n hn hH
 have hGp:G.Perm H:=by rw[hG];exact zeb _ _
 have hGn:atH G n=atH H 0:=by rw[hG,zdy,if_pos rfl]
 have htop:∀ x∈H,cmLt x (atH H 0)=false:=fun x hx=>by
  obtain ⟨i,hi,rfl⟩:=List.mem_iff_getElem.1 hx
  rw[← zea hi]
  exact hH.top i (by omega)
 have hmem:atH H 0∈H:=by rw[zea h0];exact List.getElem_mem h0
 have hn9:n≤90000:=by omega
 obtain ⟨HGL,HGD,HGP,HGN,HTOP,HMEM⟩:=zh6 hGl hGD hGp hGn htop hmem
 have c0:((0:Nat):Int)=0:=rfl
 rw[c0] at cs
 clear h h0 hH hL hn ew hG hGl hGD hGp hGn htop hmem c0
 go_enter Tryz.func57,Tryz.ntmps57
 go_wp2_with (first
  | (go_at_call 56;refine cl.mono ?_;rintro e w1 ⟨rfl,e1⟩;subst w1;clear cl)
  | (go_at_call 201;refine cs.mono ?_;rintro e w2 ⟨rfl,hW2,g2⟩;clear cs;have HW2:=hide hW2;clear hW2;have cd:=zv0 w2 base wb sp v G (uh HW2) n (by have:=uh HGL;omega) (uh HGD) (by have:=uh HGL;omega)))
 refine cd.mono ?_
 rintro e w3 ⟨y3,rfl,G3,p3,q3,hW3,hk3,g3⟩
 have hl3:G3.length=n+1:=by rw[p3.length_eq];exact uh HGL
 have hs3:=zlv n hl3
 have hr3:atH G3 n=atH H 0:=by rw[hk3 n (Nat.le_refl _)];exact uh HGN
 rw[hr3] at hs3
 have hW3':=hW3
 rw[hs3] at hW3'
 have cp:=zvz w3 base wb sp v (G3.take n) (atH H 0) hW3' (by rw[List.length_take];omega)
 have HF:Hid ((G3.take n++[atH H 0]).Perm H∧zcz (G3.take n) (G3.take n).length):=by
  refine ⟨by rw[← hs3];exact p3.trans (uh HGP),?_⟩
  rw[List.length_take,hl3,Nat.min_eq_left (Nat.le_succ n)]
  refine q3.less fun i hi => ?_
  unfold atH
  rw[List.getD_eq_getElem?_getD,List.getD_eq_getElem?_getD,List.getElem?_take_of_lt hi]
 have HGG:=hide (And.intro g2 g3)
 obtain ⟨RC,hRC⟩:∃ x,x=Value.agg (cmC (atH H 0)).toArray:=⟨_,rfl⟩
 rw[← hRC] at cp
 have HRC:=hide hRC
 clear cd p3 q3 hW3 hk3 g3 hl3 hs3 hr3 hW3' hRC g2
 go_wp2_with (go_at_call 199;refine cp.mono ?_;rintro e w4 ⟨rfl,v4,hW4,g4,hv4⟩;clear cp;have HW4:=hide (And.intro hW4 (And.intro g4 hv4));clear hW4 g4 hv4)
 go_ret
 obtain ⟨hW4,g4,hv4⟩:=uh HW4
 obtain ⟨g2,g3⟩:=uh HGG
 refine ⟨atH H 0,v4,G3.take n,by rw[uh HRC];rfl,uh HMEM,uh HTOP,hW4,(uh HF).1,(uh HF).2,?_,hv4⟩
 have g23:=zix g2 g3
 refine ⟨g4.os.trans g23.os,g4.tape.trans g23.tape,g4.output.trans g23.output,Nat.le_trans g23.size g4.size,fun k hk h1 h2 => ?_⟩
 rw[g4.block k (Nat.lt_of_lt_of_le hk g23.size) (fun e=>h1 (by cases e;rfl)),g23.block k hk h2]
theorem zeo {P:Program} {ops:Array Oper} {S:World→Prop} {op:Oper} {a:Act} (hw:Region.wanted op (yielded ops a.tmps)=true) (t t' : TypeId) (x y:Operand) (ho:op.op = .binOp .neq t x y t') (X Z:Array Value) (r:Bool)
  (hx:a.eval x = .agg X) (hy:a.eval y = .agg Z) (hm:P.eqGuardType P.depth t=false) (hq:∀ w:World,(binOp .neq t (.agg X) (.agg Z)).run P w = .ok (.bool r) w):YieldsIf P ops S op (.bool r) a :=
 .inl ⟨hw,fun w _=>by
  unfold execOp
  simp only[ho,hx,hy,Sem.run_bind,run_eqGuard_agg w .neq t x y X Z hm,hq,Result.andThen_ok]
  rfl⟩
end Go.Proofs.YthhnfloohbdaiaaGreatDoor
