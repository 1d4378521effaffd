/- Lemmas. -/
import Derived.Test.YthhnfloohbdaiaaGreatDoorGReach
import Derived.Shelf.SlSortCmp.WholeK
import Derived.Shelf.SlSortCmp.NoneTotal
import Derived.Lib.BytesEntry
import Derived.Lib.Bytealg
import Derived.Maps.RangeRun
namespace Go.Proofs.YthhnfloohbdaiaaGreatDoor
open Go.RowKit Go.Shelf Go.Lib Go.Sort
set_option maxRecDepth 100000
def srtR:Ren :=
 ⟨fun n=>if n=6 then 72 else if n=14 then 102 else if n=15 then 103 else if n=20 then 131
  else if n=21 then 132 else if n=22 then 133 else if n=23 then 134 else if n=24 then 135
  else if n=25 then 136 else if n=26 then 137 else if n=27 then 138 else if n=28 then 139 else if n=29 then 140
  else if n=46 then 162 else if n=47 then 163 else if n=48 then 164 else if n=49 then 165 else if n=50 then 166 else if n=57 then 175 else n,
 fun n=>if n=0 then 0 else if n=3 then 3 else if n=4 then 4 else if n=5 then 5 else if n=9 then 9 else if n=22 then 29 else if n=24 then 33 else if n=25 then 113 else if n=39 then 177 else if n=45 then 220
  else if n=46 then 221 else if n=50 then 225 else if n=53 then 209 else if n=55 then 68 else if n=66 then 243 else if n=70 then 247 else if n=76 then 255 else if n=77 then 256 else n,
 fun n=>n⟩
theorem srt6:SlLaysF0.n6 Tryz.prog srtR where
 mixed:=by kernel_rfl
 f6:=⟨Tryz.f72.name,by kernel_rfl,by kernel_rfl⟩
 f14:=⟨Tryz.f102.name,by kernel_rfl,by kernel_rfl⟩
 f15:=by kernel_rfl
 f20:=⟨Tryz.f131.name,by kernel_rfl,by kernel_rfl⟩
 f21:=⟨Tryz.f132.name,by kernel_rfl,by kernel_rfl⟩
 f22:=⟨Tryz.f133.name,by kernel_rfl,by kernel_rfl⟩
 f23:=⟨Tryz.f134.name,by kernel_rfl,by kernel_rfl⟩
 f24:=⟨Tryz.f135.name,by kernel_rfl,by kernel_rfl⟩
 f25:=⟨Tryz.f136.name,by kernel_rfl,by kernel_rfl⟩
 f26:=⟨Tryz.f137.name,by kernel_rfl,by kernel_rfl⟩
 f27:=⟨Tryz.f138.name,by kernel_rfl,by kernel_rfl⟩
 f28:=by kernel_rfl
 f29:=by kernel_rfl
 f46:=⟨Tryz.f162.name,by kernel_rfl,by kernel_rfl⟩
 f47:=by kernel_rfl
 f48:=by kernel_rfl
 f49:=⟨Tryz.f165.name,by kernel_rfl,by kernel_rfl⟩
 f50:=⟨Tryz.f166.name,by kernel_rfl,by kernel_rfl⟩
 f57:=⟨Tryz.f175.name,by kernel_rfl,by kernel_rfl⟩
 t0:=by kernel_rfl
 a0:=fun _=>by kernel_rfl
 z0:=fun _=>by kernel_rfl
 v0:=fun _=>by kernel_rfl
 t3:=by kernel_rfl
 a3:=fun _=>by kernel_rfl
 z3:=fun _=>by kernel_rfl
 v3:=fun _=>by kernel_rfl
 t4:=by kernel_rfl
 a4:=fun _=>by kernel_rfl
 z4:=fun _=>by kernel_rfl
 v4:=fun _=>by kernel_rfl
 t5:=by kernel_rfl
 a5:=fun _=>by kernel_rfl
 z5:=fun _=>by kernel_rfl
 v5:=fun _=>by kernel_rfl
 t9:=by kernel_rfl
 a9:=fun _=>by kernel_rfl
 z9:=fun _=>by kernel_rfl
 v9:=fun _=>by kernel_rfl
 t22:=by kernel_rfl
 a22:=fun _=>by kernel_rfl
 z22:=fun _=>by kernel_rfl
 v22:=fun _=>by kernel_rfl
 t25:=by kernel_rfl
 a25:=fun _=>by kernel_rfl
 z25:=fun _=>by kernel_rfl
 v25:=fun _=>by kernel_rfl
 t39:=by kernel_rfl
 a39:=fun _=>by kernel_rfl
 z39:=fun _=>by kernel_rfl
 v39:=fun _=>by kernel_rfl
 t45:=by kernel_rfl
 a45:=fun _=>by kernel_rfl
 z45:=fun _=>by kernel_rfl
 v45:=fun _=>by kernel_rfl
 t46:=by kernel_rfl
 a46:=fun _=>by kernel_rfl
 z46:=fun _=>by kernel_rfl
 v46:=fun _=>by kernel_rfl
 t50:=by kernel_rfl
 a50:=fun _=>by kernel_rfl
 z50:=fun _=>by kernel_rfl
 v50:=fun _=>by kernel_rfl
 t53:=by kernel_rfl
 a53:=fun _=>by kernel_rfl
 z53:=fun _=>by kernel_rfl
 v53:=fun _=>by kernel_rfl
 t55:=by kernel_rfl
 a55:=fun _=>by kernel_rfl
 z55:=fun _=>by kernel_rfl
 v55:=fun _=>by kernel_rfl
 t66:=by kernel_rfl
 a66:=fun _=>by kernel_rfl
 z66:=fun _=>by kernel_rfl
 v66:=fun _=>by kernel_rfl
 t70:=by kernel_rfl
 a70:=fun _=>by kernel_rfl
 z70:=fun _=>by kernel_rfl
 v70:=fun _=>by kernel_rfl
 t76:=by kernel_rfl
 a76:=fun _=>by kernel_rfl
 z76:=fun _=>by kernel_rfl
 v76:=fun _=>by kernel_rfl
 t77:=by kernel_rfl
 a77:=fun _=>by kernel_rfl
 z77:=fun _=>by kernel_rfl
 v77:=fun _=>by kernel_rfl
theorem zkn:∀ a b:List UInt8,decide (compareBytes a b<0)=zbc a b
 | [],[]=>rfl
 | [],_::_=>rfl
 | _::_,[]=>rfl
 | x::a,y::b=>by
  rw[zdj,← zkn a b]
  show decide ((if x<y then -1 else if y<x then 1 else compareBytes a b)<0)=_
  by_cases h1:x<y
  ·simp[h1]
  ·by_cases h2:y<x
   ·have:(x == y)=false:=by
     rw[beq_eq_false_iff_ne]
     rintro rfl
     exact UInt8.lt_irrefl _ h2
    simp[h1,h2,this]
   ·have:x=y:=UInt8.le_antisymm (UInt8.not_lt.1 h2) (UInt8.not_lt.1 h1)
    subst this
    simp[h1]
theorem zxc (W:World) (bA bB:Nat) (a b:List UInt8) (ha:a.length=32) (hb:b.length=32) (hA:W.rangeAt bA 0 (a.map bv)) (hB:W.rangeAt bB 0 (b.map bv)) :
  (Extern.BytealgCompare.compare #[.slice (some ⟨bA,0,none⟩) 32 32,.slice (some ⟨bB,0,none⟩) 32 32]).run Tryz.prog W = .ok (.int .i64 (compareBytes a b)) W:=by
 have hl:∀ (blk:Nat) (l:List UInt8),l.length=32→W.rangeAt blk 0 (l.map bv)→(Extern.Bytes.bytesOf (.slice (some ⟨blk,0,none⟩) 32 32)).run Tryz.prog W = .ok ⟨l.toArray⟩ W:=by
  intro blk l hl hr
  have:=run_loadBytesX (P:=Tryz.prog) W (l.map fun x=>(x.toNat:Int)) ⟨blk,0,none⟩ .empty (fun j x hx=>by
   obtain ⟨hj,rfl⟩:=List.getElem?_eq_some_iff.1 hx
   have hj' : j<l.length:=by simpa using hj
   rw[Addr.add_mid]
   have:=hr j (bv l[j]) (by simp[hj'])
   simpa[bv] using this)
  rw[List.length_map,hl] at this
  show (Extern.Bytes.loadBytes _ 32 _).run _ _=_
  rw[this]
  have e:Lib.bytesOf (l.map fun x=>(x.toNat:Int))=l:=by
   unfold Lib.bytesOf
   rw[List.map_map]
   conv=>rhs;rw[← List.map_id l]
   apply List.map_congr_left
   intro x _
   simp
  rw[e]
  simp
 change Sem.run Tryz.prog (do pure (goInt (Extern.BytealgCompare.cmp (← Extern.Bytes.bytesOf (.slice (some ⟨bA,0,none⟩) 32 32)) (← Extern.Bytes.bytesOf (.slice (some ⟨bB,0,none⟩) 32 32))))) W=_
 simp only[Sem.run_bind,hl bA a ha hA,hl bB b hb hB,Sem.run_pure,Result.andThen]
 rw[cmp_eq]
 rfl
theorem zu8 (W:World) (bA bB:Nat) (a b:List UInt8) (ha:a.length=32) (hb:b.length=32) (hA:W.rangeAt bA 0 (a.map bv)) (hB:W.rangeAt bB 0 (b.map bv)) :
  Calls Tryz.prog 85 #[.slice (some ⟨bA,0,none⟩) 32 32,.slice (some ⟨bB,0,none⟩) 32 32] W fun e w'=>e = .returned (.int .i64 (compareBytes a b))∧w'=W:=by
 have h8 := @run_callFunc_extern Tryz.prog 112 _ Extern.BytealgCompare.compare Tryz.func112 (by kernel_rfl) (by kernel_rfl) (by kernel_rfl) (by kernel_rfl)
 have h9:=zxc W bA bB a b ha hb hA hB
 obtain ⟨y,hy⟩:∃ y,y=compareBytes a b:=⟨_,rfl⟩
 rw[← hy] at h9 ⊢
 clear hy hA hB ha hb
 go_enter Tryz.func85,Tryz.ntmps85
 go_wp2
 go_ret
 exact ⟨rfl,rfl⟩
theorem ziz (W:World) (a b:List UInt8) (ha:a.length=32) (hb:b.length=32) :
  Calls Tryz.prog 59 #[keyV a,keyV b] W fun e w'=>e = .returned (.int .i64 (compareBytes a b))∧∃ q os,w'=grow (W.drewN q) os:=by
 obtain ⟨AB,hAB⟩:∃ l,l=a.map bv:=⟨_,rfl⟩
 obtain ⟨BB,hBB⟩:∃ l,l=b.map bv:=⟨_,rfl⟩
 obtain ⟨y,hy⟩:∃ y,y=compareBytes a b:=⟨_,rfl⟩
 obtain ⟨W1,hW1,hB1,g1⟩:=zaf W 33 AB
 obtain ⟨W2,hW2,hB2,g2⟩:=zaf W1 33 BB
 have hs1:W1.heap.size=W.heap.size+1:=by rw[hW1];simp
 rw[hs1] at hB2
 obtain ⟨WD,hWD⟩:∃ V,V=W2.drew:=⟨_,rfl⟩
 have hfin:∃ q os,WD=grow (W.drewN q) os:=⟨1,#[.cells AB.toArray 33,.cells BB.toArray 33],by
  rw[hWD,hW2,hW1,alloc_eq_grow,alloc_eq_grow,grow_grow];rfl⟩
 have hc:=zu8 WD W.heap.size (W.heap.size+1) a b ha hb (by rw[hWD,← hAB];exact zak (hB1.kept g2 (by simp)).drew) (by rw[hWD,← hBB];exact zak hB2.drew)
 rw[← hy] at hc
 have hW:W2=(W.alloc (.cells AB.toArray 33)).alloc (.cells BB.toArray 33):=by rw[hW2,hW1]
 rw[show keyV a = .agg AB.toArray by rw[hAB];rfl,show keyV b = .agg BB.toArray by rw[hBB];rfl,← hy]
 obtain ⟨HW,HC,HF⟩:=zh3 hW hc hfin
 clear hW hW1 hW2 hB1 hB2 g1 g2 hs1 hAB hBB hy hc hfin ha hb
 go_enter Tryz.func59,Tryz.ntmps59
 go_upto_region 1 with (rw[← uh HW])
 refine wp_region_noPanic ?_
 refine wp_region_held_drew (S:=fun V=>V=WD) (by kernel_rfl) hWD.symm (fun _ => ?_)
 rw[← hWD]
 clear hWD
 refine tz 0 5 (.slice 33 (.tmp 2) none none none) (.slice (some ⟨W.heap.size,0,none⟩) 32 32) rfl ?_ (y:=(Or.inl ⟨by rfl,fun V hV=>by (subst hV;have z9:=zc8 W.heap.size 0;go_simp)⟩))
 refine tz 1 6 (.slice 33 (.tmp 3) none none none) (.slice (some ⟨W.heap.size+1,0,none⟩) 32 32) rfl ?_ (y:=(Or.inl ⟨by rfl,fun V hV=>by (subst hV;have z9:=zc8 (W.heap.size+1) 0;go_simp)⟩))
 (try simp only[pq])
 refine rd 2 (some 7) (.call { callee := .value (.func 85),args := #[(.tmp 5),(.tmp 6)],argTypes := #[37,37] }) (fun K9 hK9 => ?_)
 go_simp
 go_at_call 85
 refine (uh HC).mono ?_
 rintro e w2 ⟨rfl,e2⟩
 subst w2
 go_wp2_with fail
 refine hK9.out _ _ rfl (fun _ => ?_)
 clear hK9 K9
 refine tq 3 4 (.assign (.tmp 7)) (.int .i64 y) rfl ?_
 (try simp only[pq])
 refine wpAnyH_done (by kernel_rfl) ?_ _
 refine NoPanic.normal ?_
 go_wp2
 go_ret
 exact ⟨rfl,uh HF⟩
theorem zxd (W:World) (q:Nat) (os:Array Obj):W.grownBy (grow (W.drewN q) os) none :=
 ⟨rfl,rfl,rfl,by simp[grow,World.drewN],fun i hi _=>by
  have:i<(W.drewN q).heap.size:=hi
  simp only[grow]
  rw[Array.getElem?_append_left this]
  rfl⟩
theorem zsi (w:World) (a b:List UInt8) (ha:a.length=32) (hb:b.length=32) :
  Calls Tryz.prog 30 #[keyV a,keyV b] w fun e w'=>e = .returned (.bool (zbc a b))∧w.grownBy w' none:=by
 obtain ⟨AB,hAB⟩:∃ l,l=a.map bv:=⟨_,rfl⟩
 obtain ⟨BB,hBB⟩:∃ l,l=b.map bv:=⟨_,rfl⟩
 have hAl:AB.length=32:=by rw[hAB];simp[ha]
 have hBl:BB.length=32:=by rw[hBB];simp[hb]
 obtain ⟨W1,hW1,hB1,g1⟩:=zaf w 33 AB
 obtain ⟨W2,hW2,hB2,g2⟩:=zaf W1 33 BB
 have hs1:W1.heap.size=w.heap.size+1:=by rw[hW1];simp
 rw[hs1] at hB2
 have hc:=ziz W2 a b ha hb
 rw[← zkn]
 obtain ⟨y,hy⟩:∃ y,y=compareBytes a b:=⟨_,rfl⟩
 rw[← hy] at hc ⊢
 have hra:=zak (hB1.kept g2 (by simp))
 have hrb:=zak hB2
 have hiA:(Tryz.prog.info? 33).map (·.size)=some AB.length:=by rw[hAl];exact zar
 have hiB:(Tryz.prog.info? 33).map (·.size)=some BB.length:=by rw[hBl];exact zar
 have hW:W2=(w.alloc (.cells AB.toArray 33)).alloc (.cells BB.toArray 33):=by rw[hW2,hW1]
 rw[show keyV a = .agg AB.toArray by rw[hAB];rfl,show keyV b = .agg BB.toArray by rw[hBB];rfl] at hc ⊢
 obtain ⟨HW,HIA,HIB⟩:=zh3 hW hiA hiB
 have HG:=hide (tn g1 g2)
 clear hW hW1 hW2 hB1 hB2 g1 g2 hs1 hAB hBB hy ha hb hAl hBl hiA hiB
 go_enter Tryz.func30,Tryz.ntmps30
 go_wp2_with (first
  | (rw[← uh HW];refine wpList_load_mid rfl 33 _ rfl w.heap.size 0 rfl AB _ hra Tryz.underlying33 rfl (uh HIA) ?_;clear hra)
  | (refine wpList_load_mid rfl 33 _ rfl (w.heap.size+1) 0 rfl BB _ hrb Tryz.underlying33 rfl (uh HIB) ?_;clear hrb)
  | (go_at_call 59;refine hc.mono ?_;rintro e w3 ⟨rfl,q,os,e3⟩;clear hc;have g3:=hide (tn (uh HG) (e3 ▸ zxd W2 q os));clear e3))
 go_ret
 exact ⟨rfl,uh g3⟩
abbrev Nm:={ l:List UInt8 // l.length=32 }
instance:Inhabited Nm:=⟨⟨List.replicate 32 0,by simp⟩⟩
def encN (x:Nm):List Value:=x.1.map bv
theorem zgd (x:Nm):(encN x).length=32:=by simp[encN,x.2]
theorem zko (x y:Nm):ltOf (fun x y:Nm=>compareBytes x.1 y.1) x y=zbc x.1 y.1:=zkn x.1 y.1
theorem zu9:SWO (ltOf fun x y:Nm=>compareBytes x.1 y.1) where
 irrefl x:=by rw[zko];exact zf2 _
 trans x y z h1 h2:=by rw[zko] at *;exact zdm _ _ _ h1 h2
 ntrans x y z h1 h2:=by
  rw[zko] at *
  cases h3:zbc x.1 z.1 with
  | false=>rfl
  | true =>
   by_cases he:zbc y.1 x.1=true
   ·have:=zdm _ _ _ he h3
    rw[h2] at this
    cases this
   ·have e1:=zdl _ _ h1 (by simpa using he)
    rw[e1] at h3
    rw[h2] at h3
    cases h3
end Go.Proofs.YthhnfloohbdaiaaGreatDoor

/- Lemmas. -/
namespace Go.Proofs.YthhnfloohbdaiaaGreatDoor
open Go.RowKit
set_option maxRecDepth 100000
structure CmR where
 id:List UInt8
 time:Nat
 pars:List (List UInt8)
 po:Option Addr
 pc:Nat
deriving Inhabited
def cmC (r:CmR):List Value:=r.id.map bv++[.int .u64 (r.time:Int),.slice r.po r.pars.length r.pc]
theorem zc2 (r:CmR) (h:r.id.length=32):(cmC r).length=34:=by simp[cmC,h]
theorem zfs (r:CmR):∀ u∈cmC r,u.oneCell'=true:=by
 intro u hu
 simp only[cmC,List.mem_append,List.mem_cons,List.not_mem_nil,or_false] at hu
 rcases hu with hu | rfl | rfl
 ·exact za4 _ u hu
 all_goals rfl
theorem zsj (r:CmR) (h:r.id.length=32):(cmC r)[32]? = some (.int .u64 (r.time:Int))∧(cmC r)[33]? = some (.slice r.po r.pars.length r.pc):=by
 have hl:(r.id.map bv).length=32:=by simp[h]
 unfold cmC
 refine ⟨?_,?_⟩ <;> rw[List.getElem?_append_right (by omega),hl] <;> rfl
theorem zxe {w:World} {b o:Nat} {r:CmR} (h:w.rangeAt b o (cmC r)):w.rangeAt b o (r.id.map bv):=by
 intro j v hv
 refine h j v ?_
 unfold cmC
 rw[List.getElem?_append_left (List.getElem?_eq_some_iff.1 hv).1]
 exact hv
def cmLt (a b:CmR):Bool:=if a.time=b.time then zbc a.id b.id else decide (b.time<a.time)
theorem zfd:(Tryz.prog.info? 109).map (·.size)=some 34:=by kernel_rfl
theorem zva (w:World):(Go.sizeOf 109).run Tryz.prog w = .ok 34 w:=by kernel_rfl
def zls:CmR:=⟨List.replicate 32 0,0,[],none,0⟩
theorem zhs (w:World):(zeroValue 109).run Tryz.prog w = .ok (.agg (cmC zls).toArray) w:=by kernel_rfl
theorem zsk:(Tryz.prog.info? 109).map (fun i=>(i.zero,i.size,i.bytes))=some (some (.agg (cmC zls).toArray),34,64):=by kernel_rfl
structure WaitAt (w:World) (base wb:Nat) (sp:Option Addr) (v:Value) (H:List CmR):Prop where
 blk:Blk w wb 104 [.pointer sp,v]
 own:w.ownsRow base 109 34 v H.length (H.flatMap cmC)
 ids:∀ r∈H,r.id.length=32
 nb:base≤wb
theorem WaitAt.kept {w a:World} {base wb:Nat} {sp:Option Addr} {v:Value} {H:List CmR} {r:Option Nat} (h:WaitAt w base wb sp v H) (g:w.grownBy a r) (h1:some wb≠r) (h2:v.ownBlock=none∨v.ownBlock≠r):WaitAt a base wb sp v H :=
 ⟨h.blk.kept g h1,h.own.kept g h2,h.ids,h.nb⟩
theorem WaitAt.none {w a:World} {base wb:Nat} {sp:Option Addr} {v:Value} {H:List CmR} (h:WaitAt w base wb sp v H) (g:w.grownBy a Option.none):WaitAt a base wb sp v H :=
 h.kept g (by simp) (by cases v.ownBlock <;> simp)
theorem WaitAt.cell {w:World} {base wb:Nat} {sp:Option Addr} {v:Value} {H:List CmR} (h:WaitAt w base wb sp v H):w.cell? ⟨wb,0,Option.none⟩=some (.pointer sp)∧w.cell? ⟨wb,1,Option.none⟩=some v:=⟨by rw[h.blk.cell];rfl,by rw[h.blk.cell];rfl⟩
theorem WaitAt.row {w:World} {base wb:Nat} {sp:Option Addr} {v:Value} {H:List CmR} (h:WaitAt w base wb sp v H) (hn:0<H.length):∃ g cap,v = .slice (some ⟨g,0,Option.none⟩) H.length cap∧base≤g∧g<w.heap.size∧H.length≤cap∧∀ i (hi:i<H.length),w.rangeAt g (i*34) (cmC H[i]):=by
 obtain ⟨g,cap,rfl,h1,h2⟩:=h.own.form hn
 obtain ⟨ao,c,e,_,hc,_,_,h3⟩:=ze7 cmC 34 h.own (fun x hx=>zc2 x (h.ids x hx))
 cases e
 refine ⟨g,cap,rfl,h1,h2,hc,fun i hi => ?_⟩
 have:=h3 ⟨g,0,Option.none⟩ rfl i hi
 simpa using this
theorem zkp (w:World) (base wb:Nat) (sp:Option Addr) (v:Value) (H:List CmR) (h:WaitAt w base wb sp v H) :
  Calls Tryz.prog 56 #[.pointer (some ⟨wb,0,none⟩)] w fun e w'=>e = .returned (.int .i64 (H.length:Int))∧w'=w:=by
 obtain ⟨ao,c,rfl⟩:=zbi h.own
 have hc:=h.cell.2
 clear h
 go_enter Tryz.func56,Tryz.ntmps56
 go_wp2
 go_ret
 exact ⟨rfl,rfl⟩
set_option maxHeartbeats 4000000 in
theorem ze3 (w:World) (base wb:Nat) (sp:Option Addr) (v:Value) (H:List CmR) (h:WaitAt w base wb sp v H) (i j:Nat) (hi:i<H.length) (hj:j<H.length) (hl:H.length≤100000) :
  Calls Tryz.prog 198 #[.pointer (some ⟨wb,0,none⟩),.int .i64 (i:Int),.int .i64 (j:Int)] w fun e w'=>e = .returned (.bool (cmLt H[i] H[j]))∧w.grownBy w' none:=by
 obtain ⟨g,cap,rfl,hg,hgl,hcap,hrow⟩:=h.row (by omega)
 have hc:=h.cell.2
 have hrI:=hrow i hi
 have hrJ:=hrow j hj
 have hid:=h.ids _ (List.getElem_mem hi)
 have hjd:=h.ids _ (List.getElem_mem hj)
 obtain ⟨A,hA⟩:∃ A,A=H[i]:=⟨_,rfl⟩
 obtain ⟨B,hB⟩:∃ A,A=H[j]:=⟨_,rfl⟩
 rw[← hA] at hrI hid
 rw[← hB] at hrJ hjd
 rw[← hA,← hB]
 obtain ⟨AC,hAC⟩:∃ A',A'=cmC A:=⟨_,rfl⟩
 obtain ⟨BC,hBC⟩:∃ A',A'=cmC B:=⟨_,rfl⟩
 rw[← hAC] at hrI
 rw[← hBC] at hrJ
 have hAl:AC.length=34:=by rw[hAC];exact zc2 _ hid
 have hBl:BC.length=34:=by rw[hBC];exact zc2 _ hjd
 have hAo:AC.toArray.all (·.oneCell')=true:=by rw[hAC];exact all_oneCell_toArray (zfs _)
 have hBo:BC.toArray.all (·.oneCell')=true:=by rw[hBC];exact all_oneCell_toArray (zfs _)
 have hiA:(Tryz.prog.info? 109).map (·.size)=some AC.length:=by rw[hAl];exact zfd
 have hiB:(Tryz.prog.info? 109).map (·.size)=some BC.length:=by rw[hBl];exact zfd
 have hiA2:(Tryz.prog.info? 109).map (·.size)=some AC.toArray.size:=by simpa using hiA
 have hiB2:(Tryz.prog.info? 109).map (·.size)=some BC.toArray.size:=by simpa using hiB
 obtain ⟨ZC,hZC⟩:∃ Z,Z=cmC zls:=⟨_,rfl⟩
 have hzv:∀ w,(zeroValue 109).run Tryz.prog w = .ok (.agg ZC.toArray) w:=fun w=>by rw[hZC];exact zhs w
 have hZl:ZC.length=34:=by rw[hZC];rfl
 have hZA:ZC.toArray.size=AC.toArray.size:=by simp[hZl,hAl]
 have hZB:ZC.toArray.size=BC.toArray.size:=by simp[hZl,hBl]
 obtain ⟨n,hn⟩:∃ n,n=H.length:=⟨_,rfl⟩
 rw[← hn] at hc hi hj hl
 have h0:w.grownBy w.drew none:=zaj (zaa _ _)
 obtain ⟨IA,hIA⟩:∃ l,l=A.id.map bv:=⟨_,rfl⟩
 obtain ⟨IB,hIB⟩:∃ l,l=B.id.map bv:=⟨_,rfl⟩
 have hkA:keyV A.id = .agg IA.toArray:=by rw[hIA];rfl
 have hkB:keyV B.id = .agg IB.toArray:=by rw[hIB];rfl
 have hiIA:(Tryz.prog.info? 33).map (·.size)=some IA.length:=by rw[hIA];simpa[hid] using zar
 have hiIB:(Tryz.prog.info? 33).map (·.size)=some IB.length:=by rw[hIB];simpa[hjd] using zar
 have HFIN:Hid (∀ V p7 p8,w.grownBy V none→Blk V p7 109 AC→Blk V p8 109 BC→V.cell? ⟨p7,32,none⟩=some (.int .u64 (A.time:Int))∧V.cell? ⟨p8,32,none⟩=some (.int .u64 (B.time:Int))∧V.rangeAt p7 0 IA∧V.rangeAt p8 0 IB∧Calls Tryz.prog 30 #[.agg IA.toArray,.agg IB.toArray] V fun e w'=>e = .returned (.bool (zbc A.id B.id))∧V.grownBy w' none):=by
  intro V p7 p8 _ h7 h8
  rw[hAC] at h7
  rw[hBC] at h8
  refine ⟨by rw[h7.cell];exact (zsj A hid).1,by rw[h8.cell];exact (zsj B hjd).1,?_,?_,?_⟩
  ·rw[hIA];exact zxe (zak h7)
  ·rw[hIB];exact zxe (zak h8)
  ·rw[← hkA,← hkB];exact zsi V _ _ hid hjd
 obtain ⟨tA,htA⟩:∃ t:Nat,t=A.time:=⟨_,rfl⟩
 obtain ⟨tB,htB⟩:∃ t:Nat,t=B.time:=⟨_,rfl⟩
 obtain ⟨lAB,hlAB⟩:∃ l:Bool,l=zbc A.id B.id:=⟨_,rfl⟩
 rw[← htA,← htB,← hlAB] at HFIN
 obtain ⟨y,hy⟩:∃ y,y=cmLt A B:=⟨_,rfl⟩
 rw[← hy]
 have HY:Hid (y=if tA=tB then lAB else decide (tB<tA)):=by rw[htA,htB,hlAB,hy];rfl
 obtain ⟨HIA,HIB,HIA2,HIB2,HAO,HBO⟩:=zh6 hiA hiB hiA2 hiB2 hAo hBo
 obtain ⟨HZA,HZB,HJA,HJB⟩:=zh4 hZA hZB hiIA hiIB
 clear h hrow hid hjd hA hB hAC hBC hAl hBl hAo hBo hiA hiB hiA2 hiB2 hZC hZl hZA hZB hn hIA hIB hkA hkB hiIA hiIB htA htB hlAB hy hg hgl hcap
 go_enter Tryz.func198,Tryz.ntmps198
 go_upto_region 1 with fail
 refine wp_region_noPanic ?_
 refine wp_region_held_drew (S:=fun V=>w.grownBy V none) (by kernel_rfl) h0 (fun _ => ?_)
 obtain ⟨WD,hWD⟩:∃ V,V=w.drew:=⟨_,rfl⟩
 rw[← hWD]
 rw[← hWD] at h0
 clear hWD
 refine tq 0 9 (.move (.tmp 0)) (.pointer (some ⟨wb,0,none⟩)) h0 ?_
 refine tq 4 13 (.move (.tmp 1)) (.int .i64 (i:Int)) h0 ?_
 refine tq 7 16 (.move (.tmp 0)) (.pointer (some ⟨wb,0,none⟩)) h0 ?_
 refine tq 11 20 (.move (.tmp 2)) (.int .i64 (j:Int)) h0 ?_
 (try simp only[pq])
 refine tq 1 10 (.nilCheck (.tmp 9)) (.pointer (some ⟨wb,0,none⟩)) h0 ?_
 refine tq 8 17 (.nilCheck (.tmp 16)) (.pointer (some ⟨wb,0,none⟩)) h0 ?_
 refine tq 2 11 (.fieldAddr 104 (.tmp 10) 1) (.pointer (some ⟨wb,1,none⟩)) h0 ?_
 refine tq 9 18 (.fieldAddr 104 (.tmp 17) 1) (.pointer (some ⟨wb,1,none⟩)) h0 ?_
 (try simp only[pq])
 refine tz 3 12 (.load 102 (.tmp 11)) (.slice (some ⟨g,0,none⟩) n cap) h0 ?_ (y:=(Or.inl ⟨by rfl,fun V hV=>by (have hv1:=hV.cell hc (by simp);go_simp)⟩))
 refine tz 10 19 (.load 102 (.tmp 18)) (.slice (some ⟨g,0,none⟩) n cap) h0 ?_ (y:=(Or.inl ⟨by rfl,fun V hV=>by (have hv1:=hV.cell hc (by simp);go_simp)⟩))
 refine tq 5 14 (.indexAddr 102 (.tmp 12) (.tmp 13)) (.pointer (some ⟨g,i*34,none⟩)) h0 ?_
 refine tq 12 21 (.indexAddr 102 (.tmp 19) (.tmp 20)) (.pointer (some ⟨g,j*34,none⟩)) h0 ?_
 (try simp only[pq])
 refine tz 6 15 (.load 109 (.tmp 14)) (.agg AC.toArray) h0 ?_ (y:=(yieldsIf_load_mid (by rfl) _ _ rfl _ _ rfl AC _ (fun V hV=>zae hrI hV (by simp)) Tryz.underlying109 rfl (uh HIA)))
 refine tz 13 22 (.load 109 (.tmp 21)) (.agg BC.toArray) h0 ?_ (y:=(yieldsIf_load_mid (by rfl) _ _ rfl _ _ rfl BC _ (fun V hV=>zae hrJ hV (by simp)) Tryz.underlying109 rfl (uh HIB)))
 (try simp only[pq])
 refine wpAnyH_ready (rs:=[14,15]) (by kernel_rfl) (by simp) ?_
 refine AllReadyH.cons (o:=⟨some 7,.alloc 109,_,_,_,_⟩) rfl (fun K9 hK9 => ?_) (AllReadyH.cons (o:=⟨some 8,.alloc 109,_,_,_,_⟩) rfl (fun K9 hK9 => ?_) AllReadyH.nil)
 ·go_simp
  obtain ⟨wa1,hwa,hB7,ga⟩:=zaf WD 109 ZC
  rw[← hwa]
  have hs1:=tn h0 ga
  refine hK9.out _ _ hs1 (fun _ => ?_)
  clear hK9 K9 hwa
  (try simp only[pq])
  have hl7:WD.heap.size<wa1.heap.size:=hB7.lt
  clear ga
  refine rd 15 (some 8) (.alloc 109) (fun K9 hK9 => ?_)
  go_simp
  obtain ⟨wa2,hwa,hB8,ga⟩:=zaf wa1 109 ZC
  rw[← hwa]
  have hs2:=tn hs1 ga
  refine hK9.out _ _ hs2 (fun _ => ?_)
  clear hK9 K9 hwa
  (try simp only[pq])
  replace hB7:=hB7.kept ga (by simp)
  have hl8:wa1.heap.size<wa2.heap.size:=hB8.lt
  clear ga
  refine rd 16 none (.store 109 (.tmp 7) (.tmp 15)) (fun K9 hK9 => ?_)
  rw[if_pos (by rfl)]
  refine wp_store_row _ _ _ rfl (WD.heap.size) _ rfl rfl _ _ hB7 (uh HIA2) (uh HZA) (uh HAO) ?_
  obtain ⟨ws3,hws⟩:∃ V,V=wa2.setRow (WD.heap.size) AC.toArray:=⟨_,rfl⟩
  rw[← hws]
  have hs3:w.grownBy ws3 none:=by rw[hws];exact zan hs2 _ (Or.inl (by have:=(h0).size;omega))
  replace hB7:=hB7.row AC
  rw[← hws] at hB7
  replace hB8:=hB8.row_other (WD.heap.size) AC.toArray (by omega)
  rw[← hws] at hB8
  refine hK9.out _ _ hs3 (fun _ => ?_)
  clear hK9 K9 hws
  (try simp only[Act.put])
  refine rd 17 none (.store 109 (.tmp 8) (.tmp 22)) (fun K9 hK9 => ?_)
  rw[if_pos (by rfl)]
  refine wp_store_row _ _ _ rfl (wa1.heap.size) _ rfl rfl _ _ hB8 (uh HIB2) (uh HZB) (uh HBO) ?_
  obtain ⟨ws4,hws⟩:∃ V,V=ws3.setRow (wa1.heap.size) BC.toArray:=⟨_,rfl⟩
  rw[← hws]
  have hs4:w.grownBy ws4 none:=by rw[hws];exact zan hs3 _ (Or.inl (by have:=(h0).size;omega))
  replace hB8:=hB8.row BC
  rw[← hws] at hB8
  replace hB7:=hB7.row_other (wa1.heap.size) BC.toArray (by omega)
  rw[← hws] at hB7
  refine hK9.out _ _ hs4 (fun _ => ?_)
  clear hK9 K9 hws
  (try simp only[Act.put])
  refine wpAnyH_done (by kernel_rfl) ?_ _
  refine NoPanic.normal ?_
  obtain ⟨d7,d8,r7,r8,cl⟩:=uh HFIN ws4 (WD.heap.size) (wa1.heap.size) hs4 hB7 hB8
  have hy9:=uh HY
  clear hB7 hB8 hl7 hl8 hrI hrJ hc
  by_cases ht:tA=tB
  ·rw[if_pos ht] at hy9
   subst ht
   subst hy9
   go_wp2_with (first | (refine wpList_load_mid rfl 33 _ rfl (WD.heap.size) 0 rfl IA _ r7 Tryz.underlying33 rfl (uh HJA) ?_;clear r7) | (refine wpList_load_mid rfl 33 _ rfl (wa1.heap.size) 0 rfl IB _ r8 Tryz.underlying33 rfl (uh HJB) ?_;clear r8) | (go_at_call 30;refine cl.mono ?_;rintro e w9 ⟨rfl,g9⟩;clear cl))
   go_ret
   exact ⟨rfl,tn hs4 g9⟩
  ·rw[if_neg ht] at hy9
   have ht2:¬ ((tA:Int)=(tB:Int)):=by omega
   subst hy9
   clear r7 r8 cl
   go_wp2
   go_ret
   exact ⟨rfl,hs4⟩
 ·go_simp
  obtain ⟨wa1,hwa,hB8,ga⟩:=zaf WD 109 ZC
  rw[← hwa]
  have hs1:=tn h0 ga
  refine hK9.out _ _ hs1 (fun _ => ?_)
  clear hK9 K9 hwa
  (try simp only[pq])
  have hl8:WD.heap.size<wa1.heap.size:=hB8.lt
  clear ga
  refine rd 14 (some 7) (.alloc 109) (fun K9 hK9 => ?_)
  go_simp
  obtain ⟨wa2,hwa,hB7,ga⟩:=zaf wa1 109 ZC
  rw[← hwa]
  have hs2:=tn hs1 ga
  refine hK9.out _ _ hs2 (fun _ => ?_)
  clear hK9 K9 hwa
  (try simp only[pq])
  replace hB8:=hB8.kept ga (by simp)
  have hl7:wa1.heap.size<wa2.heap.size:=hB7.lt
  clear ga
  refine rd 16 none (.store 109 (.tmp 7) (.tmp 15)) (fun K9 hK9 => ?_)
  rw[if_pos (by rfl)]
  refine wp_store_row _ _ _ rfl (wa1.heap.size) _ rfl rfl _ _ hB7 (uh HIA2) (uh HZA) (uh HAO) ?_
  obtain ⟨ws3,hws⟩:∃ V,V=wa2.setRow (wa1.heap.size) AC.toArray:=⟨_,rfl⟩
  rw[← hws]
  have hs3:w.grownBy ws3 none:=by rw[hws];exact zan hs2 _ (Or.inl (by have:=(h0).size;omega))
  replace hB7:=hB7.row AC
  rw[← hws] at hB7
  replace hB8:=hB8.row_other (wa1.heap.size) AC.toArray (by omega)
  rw[← hws] at hB8
  refine hK9.out _ _ hs3 (fun _ => ?_)
  clear hK9 K9 hws
  (try simp only[Act.put])
  refine rd 17 none (.store 109 (.tmp 8) (.tmp 22)) (fun K9 hK9 => ?_)
  rw[if_pos (by rfl)]
  refine wp_store_row _ _ _ rfl (WD.heap.size) _ rfl rfl _ _ hB8 (uh HIB2) (uh HZB) (uh HBO) ?_
  obtain ⟨ws4,hws⟩:∃ V,V=ws3.setRow (WD.heap.size) BC.toArray:=⟨_,rfl⟩
  rw[← hws]
  have hs4:w.grownBy ws4 none:=by rw[hws];exact zan hs3 _ (Or.inl (by have:=(h0).size;omega))
  replace hB8:=hB8.row BC
  rw[← hws] at hB8
  replace hB7:=hB7.row_other (WD.heap.size) BC.toArray (by omega)
  rw[← hws] at hB7
  refine hK9.out _ _ hs4 (fun _ => ?_)
  clear hK9 K9 hws
  (try simp only[Act.put])
  refine wpAnyH_done (by kernel_rfl) ?_ _
  refine NoPanic.normal ?_
  obtain ⟨d7,d8,r7,r8,cl⟩:=uh HFIN ws4 (wa1.heap.size) (WD.heap.size) hs4 hB7 hB8
  have hy9:=uh HY
  clear hB7 hB8 hl7 hl8 hrI hrJ hc
  by_cases ht:tA=tB
  ·rw[if_pos ht] at hy9
   subst ht
   subst hy9
   go_wp2_with (first | (refine wpList_load_mid rfl 33 _ rfl (wa1.heap.size) 0 rfl IA _ r7 Tryz.underlying33 rfl (uh HJA) ?_;clear r7) | (refine wpList_load_mid rfl 33 _ rfl (WD.heap.size) 0 rfl IB _ r8 Tryz.underlying33 rfl (uh HJB) ?_;clear r8) | (go_at_call 30;refine cl.mono ?_;rintro e w9 ⟨rfl,g9⟩;clear cl))
   go_ret
   exact ⟨rfl,tn hs4 g9⟩
  ·rw[if_neg ht] at hy9
   have ht2:¬ ((tA:Int)=(tB:Int)):=by omega
   subst hy9
   clear r7 r8 cl
   go_wp2
   go_ret
   exact ⟨rfl,hs4⟩
theorem zlt {w:World} {base k n g cap:Nat} {t:TypeId} {xs:List Value} (h:w.ownsRow base t k (.slice (some ⟨g,0,none⟩) n cap) n xs):∃ sp,Blk w g t (xs++sp)∧(xs++sp).length=cap*k∧n≤cap∧cap≤maxLen∧base≤g:=by
 rcases h.2 with ⟨h1,_⟩ | ⟨g',cap',cur,hv,hg,hh,h3,h4,h5,h6⟩
 ·cases h1
 ·cases hv
  refine ⟨cur.toList.drop (n*k),?_,?_,h3,h4,hg⟩
  ·rw[← h6,List.take_append_drop]
   unfold Blk
   rw[hh]
  ·rw[← h6,List.take_append_drop]
   simpa using h5
theorem zsl {w:World} {base k n g cap:Nat} {t:TypeId} {xs sp:List Value} (hB:Blk w g t (xs++sp)) (hx:xs.length=n*k) (hl:(xs++sp).length=cap*k) (h1:n≤cap) (h2:cap≤maxLen) (hg:base≤g):w.ownsRow base t k (.slice (some ⟨g,0,none⟩) n cap) n xs :=
 ⟨hx,Or.inr ⟨g,cap,(xs++sp).toArray,rfl,hg,hB,h1,h2,by simpa using hl,by simp[← hx]⟩⟩
theorem zi0 {α:Type} (f:α→List Value) (k:Nat) {w:World} {base g cap:Nat} {t:TypeId} {L:List α} (h:w.ownsRow base t k (.slice (some ⟨g,0,none⟩) L.length cap) L.length (L.flatMap f)) (hf:∀ x∈L,(f x).length=k) (i:Nat) (hi:i<L.length) (x:α) (hx:(f x).length=k) :
  (w.setCells g (i*k) (f x)).ownsRow base t k (.slice (some ⟨g,0,none⟩) L.length cap) L.length ((L.set i x).flatMap f)∧w.grownBy (w.setCells g (i*k) (f x)) (some g):=by
 obtain ⟨sp,hB,hl,h1,h2,hg⟩:=zlt h
 have hsplit:L.flatMap f=(L.take i).flatMap f++(f L[i]++(L.drop (i+1)).flatMap f):=by
  conv=>lhs;rw[← List.take_append_drop i L,List.drop_eq_getElem_cons hi]
  rw[List.flatMap_append,List.flatMap_cons]
 have hset:(L.set i x).flatMap f=(L.take i).flatMap f++(f x++(L.drop (i+1)).flatMap f):=by
  rw[List.set_eq_take_append_cons_drop,if_pos hi,List.flatMap_append,List.flatMap_cons]
 have hA:((L.take i).flatMap f).length=i*k:=by
  rw[zbx f k (L.take i) (fun y hy=>hf y (List.mem_of_mem_take hy)),List.length_take,Nat.min_eq_left (Nat.le_of_lt hi)]
 have hB2:Blk w g t ((L.take i).flatMap f++(f L[i]++((L.drop (i+1)).flatMap f++sp))):=by
  rw[hsplit] at hB
  simpa using hB
 have hS:=Blk.setCells (f x) (f L[i]) hB2 (by rw[hf _ (List.getElem_mem hi),hx])
 rw[hA] at hS
 have hS2:Blk (w.setCells g (i*k) (f x)) g t ((L.set i x).flatMap f++sp):=by
  rw[hset]
  simpa using hS
 have hfl:((L.set i x).flatMap f).length=L.length*k:=by
  rw[zbx f k (L.set i x) (fun y hy=>by
   rcases List.mem_or_eq_of_mem_set hy with hy | rfl
   ·exact hf y hy
   ·exact hx),List.length_set]
 have hl2:((L.set i x).flatMap f++sp).length=cap*k:=by
  have h3:(L.flatMap f).length=L.length*k:=zbx f k L hf
  rw[List.length_append] at hl ⊢
  omega
 exact ⟨zsl hS2 hfl hl2 h1 h2 hg,zbg (Or.inr rfl) _ _ (zaa _ _)⟩
theorem zft {α:Type} (f:α→List Value) (k:Nat) {w:World} {base g cap:Nat} {t:TypeId} {L:List α} (h:w.ownsRow base t k (.slice (some ⟨g,0,none⟩) L.length cap) L.length (L.flatMap f)) (hf:∀ x∈L,(f x).length=k) (i:Nat) (hi:i<L.length):w.there g (i*k) k:=by
 obtain ⟨sp,hB,hl,h1,h2,hg⟩:=zlt h
 intro j hj
 have h3:(L.flatMap f).length=L.length*k:=zbx f k L hf
 have h4:(i+1)*k≤L.length*k:=Nat.mul_le_mul_right k hi
 rw[Nat.succ_mul] at h4
 exact hB.there (i*k) k (by rw[List.length_append];omega) j hj
def zdc (H:List CmR) (i j:Nat) (hi:i<H.length) (hj:j<H.length):List CmR:=(H.set i H[j]).set j H[i]
set_option maxHeartbeats 4000000 in
theorem ze4 (w:World) (base wb:Nat) (sp:Option Addr) (v:Value) (H:List CmR) (h:WaitAt w base wb sp v H) (i j:Nat) (hi:i<H.length) (hj:j<H.length) (hl:H.length≤100000) :
  Calls Tryz.prog 201 #[.pointer (some ⟨wb,0,none⟩),.int .i64 (i:Int),.int .i64 (j:Int)] w fun e w'=>e = .returned (.tuple #[])∧WaitAt w' base wb sp v (zdc H i j hi hj)∧w.grownBy w' v.ownBlock:=by
 obtain ⟨g,cap,rfl,hg,hgl,hcap,hrow⟩:=h.row (by omega)
 have hc:=h.cell.2
 have hrI:=hrow i hi
 have hrJ:=hrow j hj
 have hid:=h.ids _ (List.getElem_mem hi)
 have hjd:=h.ids _ (List.getElem_mem hj)
 have hgw:g≠wb:=fun e=>zai h.own h.blk (by decide) (by rw[← e];rfl)
 have hf:∀ x∈H,(cmC x).length=34:=fun x hx=>zc2 x (h.ids x hx)
 obtain ⟨o1,g1⟩:=zi0 cmC 34 h.own hf i hi H[j] (zc2 _ hjd)
 have hl1:(H.set i H[j]).length=H.length:=List.length_set ..
 have hf1:∀ x∈H.set i H[j],(cmC x).length=34:=fun x hx=>by
  rcases List.mem_or_eq_of_mem_set hx with hx | rfl
  ·exact hf x hx
  ·exact zc2 _ hjd
 obtain ⟨o2,g2⟩:=zi0 (w:=w.setCells g (i*34) (cmC H[j])) (base:=base) (cap:=cap) cmC 34 (L:=H.set i H[j]) (by rw[hl1];exact o1) hf1 j (by rw[hl1];exact hj) H[i] (zc2 _ hid)
 rw[hl1] at o2
 have t1:w.drew.there g (i*34) 34:=zft cmC 34 h.own hf i hi
 have t2:(w.drew.setCells g (i*34) (cmC H[j])).there g (j*34) 34:=World.there_setCells (w:=w.drew) (show w.drew.there g (j*34) 34 from zft cmC 34 h.own hf j hj) _ _ _
 have hdr:∀ (b o:Nat) (l:List Value) (V:World),(V.setCells b o l).drew=V.drew.setCells b o l:=by
  intro b o l
  induction l generalizing o with
  | nil=>intro V;rfl
  | cons x l ih=>intro V;simp only[World.setCells];rw[ih];rfl
 have hfin:WaitAt ((w.drew.setCells g (i*34) (cmC H[j])).setCells g (j*34) (cmC H[i])) base wb sp (.slice (some ⟨g,0,none⟩) H.length cap) (zdc H i j hi hj)∧w.grownBy ((w.drew.setCells g (i*34) (cmC H[j])).setCells g (j*34) (cmC H[i])) (some g):=by
  have hlen:(zdc H i j hi hj).length=H.length:=by simp[zdc]
  rw[← hdr,← hdr]
  have gT:w.grownBy (((w.setCells g (i*34) (cmC H[j])).setCells g (j*34) (cmC H[i])).drew) (some g):=zaj (zad g1 g2 (fun _ e=>Or.inr e))
  refine ⟨⟨h.blk.kept gT (fun e=>hgw (by cases e;rfl)),?_,fun r hr => ?_,h.nb⟩,gT⟩
  ·rw[hlen]
   exact o2.kept (zaj (zaa _ none)) (by simp[Value.ownBlock])
  ·unfold zdc at hr
   rcases List.mem_or_eq_of_mem_set hr with hr | rfl
   ·rcases List.mem_or_eq_of_mem_set hr with hr | rfl
    ·exact h.ids r hr
    ·exact hjd
   ·exact hid
 obtain ⟨AC,hAC⟩:∃ A',A'=cmC H[i]:=⟨_,rfl⟩
 obtain ⟨BC,hBC⟩:∃ A',A'=cmC H[j]:=⟨_,rfl⟩
 rw[← hAC] at hrI hfin
 rw[← hBC] at hrJ hfin t2
 have hAl:AC.length=34:=by rw[hAC];exact zc2 _ hid
 have hBl:BC.length=34:=by rw[hBC];exact zc2 _ hjd
 have hAo:AC.toArray.all (·.oneCell')=true:=by rw[hAC];exact all_oneCell_toArray (zfs _)
 have hBo:BC.toArray.all (·.oneCell')=true:=by rw[hBC];exact all_oneCell_toArray (zfs _)
 have hiA:(Tryz.prog.info? 109).map (·.size)=some AC.length:=by rw[hAl];exact zfd
 have hiB:(Tryz.prog.info? 109).map (·.size)=some BC.length:=by rw[hBl];exact zfd
 have hiA2:(Tryz.prog.info? 109).map (·.size)=some AC.toArray.size:=by simpa using hiA
 have hiB2:(Tryz.prog.info? 109).map (·.size)=some BC.toArray.size:=by simpa using hiB
 have T1:w.drew.there g (i*34) BC.toArray.size:=by rw[show BC.toArray.size=34 by simpa using hBl];exact t1
 have T2:(w.drew.setCells g (i*34) BC).there g (j*34) AC.toArray.size:=by rw[show AC.toArray.size=34 by simpa using hAl];exact t2
 have cS1:∀ V:World,V.cell? ⟨wb,1,none⟩=w.cell? ⟨wb,1,none⟩→∀ o l,(V.setCells g o l).cell? ⟨wb,1,none⟩=w.cell? ⟨wb,1,none⟩:=fun V hV o l=>by
  rw[← hV]
  exact World.cell?_of_block ((zbg (w:=V) (r:=some g) (Or.inr rfl) l o (zaa _ _)).block wb (World.block_lt_of_cell? V ⟨wb,1,none⟩ (hV.trans hc)) (fun e=>hgw (by cases e;rfl)))
 obtain ⟨n,hn⟩:∃ n,n=H.length:=⟨_,rfl⟩
 rw[← hn] at hc hfin ⊢
 have hi' : i<n:=by omega
 have hj' : j<n:=by omega
 obtain ⟨HIA,HIB,HIA2,HIB2,HAO,HBO⟩:=zh6 hiA hiB hiA2 hiB2 hAo hBo
 obtain ⟨HT1,HT2,HF⟩:=zh3 T1 T2 hfin
 have HCS:Hid (∀ V:World,V.cell? ⟨wb,1,none⟩=some (.slice (some ⟨g,0,none⟩) n cap)→∀ o l,(V.setCells g o l).cell? ⟨wb,1,none⟩=some (.slice (some ⟨g,0,none⟩) n cap)):=fun V hV o l=>by
  rw[← hc];exact cS1 V (hV.trans hc.symm) o l
 have h0:w.drew.cell? ⟨wb,1,none⟩=some (.slice (some ⟨g,0,none⟩) n cap):=hc
 have hrI0:w.drew.rangeAt g (i*34) AC:=hrI
 have hrJ0:w.drew.rangeAt g (j*34) BC:=hrJ
 clear h hrow hid hjd hf hf1 o1 o2 g1 g2 hl1 t1 t2 hdr hAC hBC hAl hBl hAo hBo hiA hiB hiA2 hiB2 T1 T2 cS1 hn hg hgl hcap hfin hgw hc hrI hrJ
 go_enter Tryz.func201,Tryz.ntmps201
 refine wp_region_noPanic ?_
 refine wp_region_held_drew (S:=fun V=>V.cell? ⟨wb,1,none⟩=some (.slice (some ⟨g,0,none⟩) n cap)) (by kernel_rfl) h0 (fun _ => ?_)
 refine tq 0 6 (.move (.tmp 0)) (.pointer (some ⟨wb,0,none⟩)) h0 ?_
 refine tq 4 10 (.move (.tmp 1)) (.int .i64 (i:Int)) h0 ?_
 refine tq 5 11 (.move (.tmp 0)) (.pointer (some ⟨wb,0,none⟩)) h0 ?_
 refine tq 9 15 (.move (.tmp 2)) (.int .i64 (j:Int)) h0 ?_
 (try simp only[pq])
 refine tq 10 16 (.move (.tmp 0)) (.pointer (some ⟨wb,0,none⟩)) h0 ?_
 refine tq 14 20 (.move (.tmp 2)) (.int .i64 (j:Int)) h0 ?_
 refine tq 17 23 (.move (.tmp 0)) (.pointer (some ⟨wb,0,none⟩)) h0 ?_
 refine tq 21 27 (.move (.tmp 1)) (.int .i64 (i:Int)) h0 ?_
 (try simp only[pq])
 refine tq 1 7 (.nilCheck (.tmp 6)) (.pointer (some ⟨wb,0,none⟩)) h0 ?_
 refine tq 6 12 (.nilCheck (.tmp 11)) (.pointer (some ⟨wb,0,none⟩)) h0 ?_
 refine tq 11 17 (.nilCheck (.tmp 16)) (.pointer (some ⟨wb,0,none⟩)) h0 ?_
 refine tq 18 24 (.nilCheck (.tmp 23)) (.pointer (some ⟨wb,0,none⟩)) h0 ?_
 (try simp only[pq])
 refine tq 2 8 (.fieldAddr 104 (.tmp 7) 1) (.pointer (some ⟨wb,1,none⟩)) h0 ?_
 refine tq 7 13 (.fieldAddr 104 (.tmp 12) 1) (.pointer (some ⟨wb,1,none⟩)) h0 ?_
 refine tq 12 18 (.fieldAddr 104 (.tmp 17) 1) (.pointer (some ⟨wb,1,none⟩)) h0 ?_
 refine tq 19 25 (.fieldAddr 104 (.tmp 24) 1) (.pointer (some ⟨wb,1,none⟩)) h0 ?_
 (try simp only[pq])
 refine tq 3 9 (.load 102 (.tmp 8)) (.slice (some ⟨g,0,none⟩) n cap) h0 ?_
 refine tq 8 14 (.load 102 (.tmp 13)) (.slice (some ⟨g,0,none⟩) n cap) h0 ?_
 refine tq 13 19 (.load 102 (.tmp 18)) (.slice (some ⟨g,0,none⟩) n cap) h0 ?_
 refine tq 20 26 (.load 102 (.tmp 25)) (.slice (some ⟨g,0,none⟩) n cap) h0 ?_
 (try simp only[pq])
 refine tq 15 21 (.indexAddr 102 (.tmp 19) (.tmp 20)) (.pointer (some ⟨g,j*34,none⟩)) h0 ?_
 refine tq 22 28 (.indexAddr 102 (.tmp 26) (.tmp 27)) (.pointer (some ⟨g,i*34,none⟩)) h0 ?_
 (try simp only[pq])
 refine wpAnyH_ready (rs:=[16,23]) (by kernel_rfl) (by simp) ?_
 refine AllReadyH.cons (o:=⟨some 22,.load 109 (.tmp 21),_,_,_,_⟩) rfl (fun K9 hK9 => ?_) (AllReadyH.cons (o:=⟨some 29,.load 109 (.tmp 28),_,_,_,_⟩) rfl (fun K9 hK9 => ?_) AllReadyH.nil)
 ·rw[if_pos (by rfl)]
  refine wp_load_mid _ _ rfl g (j*34) rfl BC _ hrJ0 Tryz.underlying109 rfl (uh HIB) ?_
  refine hK9.out _ _ h0 (fun _ => ?_)
  clear hK9 K9
  (try simp only[pq])
  refine rd 23 (some 29) (.load 109 (.tmp 28)) (fun K9 hK9 => ?_)
  rw[if_pos (by rfl)]
  refine wp_load_mid _ _ rfl g (i*34) rfl AC _ hrI0 Tryz.underlying109 rfl (uh HIA) ?_
  refine hK9.out _ _ h0 (fun _ => ?_)
  clear hK9 K9
  refine tq 24 30 (.indexAddr 102 (.tmp 9) (.tmp 10)) (.pointer (some ⟨g,i*34,none⟩)) h0 ?_
  (try simp only[pq])
  refine rd 25 none (.store 109 (.tmp 30) (.tmp 22)) (fun K9 hK9 => ?_)
  rw[if_pos (by rfl)]
  refine wp_store_mid _ _ _ rfl g (i*34) BC.toArray rfl rfl (uh HT1) (uh HIB2) (uh HBO) ?_
  have h1:=uh HCS _ h0 (i*34) BC
  refine hK9.out _ _ h1 (fun _ => ?_)
  clear hK9 K9
  (try simp only[Act.put])
  refine tq 26 31 (.indexAddr 102 (.tmp 14) (.tmp 15)) (.pointer (some ⟨g,j*34,none⟩)) h1 ?_
  (try simp only[pq])
  refine rd 27 none (.store 109 (.tmp 31) (.tmp 29)) (fun K9 hK9 => ?_)
  rw[if_pos (by rfl)]
  refine wp_store_mid _ _ _ rfl g (j*34) AC.toArray rfl rfl (uh HT2) (uh HIA2) (uh HAO) ?_
  have h2:=uh HCS _ h1 (j*34) AC
  refine hK9.out _ _ h2 (fun _ => ?_)
  clear hK9 K9
  (try simp only[Act.put])
  refine wpAnyH_done (by kernel_rfl) ?_ _
  refine NoPanic.normal ?_
  clear hrI0 hrJ0
  go_wp2
  go_end0
  exact ⟨rfl,uh HF⟩
 ·rw[if_pos (by rfl)]
  refine wp_load_mid _ _ rfl g (i*34) rfl AC _ hrI0 Tryz.underlying109 rfl (uh HIA) ?_
  refine hK9.out _ _ h0 (fun _ => ?_)
  clear hK9 K9
  (try simp only[pq])
  refine rd 16 (some 22) (.load 109 (.tmp 21)) (fun K9 hK9 => ?_)
  rw[if_pos (by rfl)]
  refine wp_load_mid _ _ rfl g (j*34) rfl BC _ hrJ0 Tryz.underlying109 rfl (uh HIB) ?_
  refine hK9.out _ _ h0 (fun _ => ?_)
  clear hK9 K9
  refine tq 24 30 (.indexAddr 102 (.tmp 9) (.tmp 10)) (.pointer (some ⟨g,i*34,none⟩)) h0 ?_
  (try simp only[pq])
  refine rd 25 none (.store 109 (.tmp 30) (.tmp 22)) (fun K9 hK9 => ?_)
  rw[if_pos (by rfl)]
  refine wp_store_mid _ _ _ rfl g (i*34) BC.toArray rfl rfl (uh HT1) (uh HIB2) (uh HBO) ?_
  have h1:=uh HCS _ h0 (i*34) BC
  refine hK9.out _ _ h1 (fun _ => ?_)
  clear hK9 K9
  (try simp only[Act.put])
  refine tq 26 31 (.indexAddr 102 (.tmp 14) (.tmp 15)) (.pointer (some ⟨g,j*34,none⟩)) h1 ?_
  (try simp only[pq])
  refine rd 27 none (.store 109 (.tmp 31) (.tmp 29)) (fun K9 hK9 => ?_)
  rw[if_pos (by rfl)]
  refine wp_store_mid _ _ _ rfl g (j*34) AC.toArray rfl rfl (uh HT2) (uh HIA2) (uh HAO) ?_
  have h2:=uh HCS _ h1 (j*34) AC
  refine hK9.out _ _ h2 (fun _ => ?_)
  clear hK9 K9
  (try simp only[Act.put])
  refine wpAnyH_done (by kernel_rfl) ?_ _
  refine NoPanic.normal ?_
  clear hrI0 hrJ0
  go_wp2
  go_end0
  exact ⟨rfl,uh HF⟩
end Go.Proofs.YthhnfloohbdaiaaGreatDoor

/- Lemmas. -/
namespace Go.Proofs.YthhnfloohbdaiaaGreatDoor
open Go.RowKit
open Go.ChangeMaps (setBlock)
set_option maxRecDepth 100000
structure OverAt (w:World) (m r:Nat) (K:List (List UInt8 × Value)) (done:List (List UInt8)):Prop where
 is:∃ A clock seen,w.heap[m]? = some (.map A clock)∧w.heap[r]? = some (.mapIter (some m) clock seen clock)∧A.toList.map (fun e=>(e.key,e.val))=K.map (fun p=>(keyV p.1,p.2))∧(∀ e∈A.toList,e.born<clock)∧(A.toList.map (·.born)).Nodup∧(∀ e∈A.toList,∀ x,e.key=keyV x→(seen.contains e.born=true↔x∈done))
 once:(K.map (·.1)).Nodup
 wide:∀ p∈K,p.1.length=32
 nodup:done.Nodup
 inn:∀ x∈done,x∈K.map (·.1)
theorem OverAt.map {w:World} {m r:Nat} {K:List (List UInt8 × Value)} {done:List (List UInt8)} (h:OverAt w m r K done):MapAt w m K:=by
 obtain ⟨A,c,s,h1,h2,h3,h4,h5,h6⟩:=h.is
 exact ⟨⟨A,c,h1,h3,h4,h5⟩,h.once,h.wide⟩
theorem OverAt.lt {w:World} {m r:Nat} {K:List (List UInt8 × Value)} {done:List (List UInt8)} (h:OverAt w m r K done):r<w.heap.size:=by
 obtain ⟨A,c,s,h1,h2,h3⟩:=h.is
 exact (Array.getElem?_eq_some_iff.1 h2).1
theorem OverAt.kept {w a:World} {m r:Nat} {K:List (List UInt8 × Value)} {done:List (List UInt8)} {q:Option Nat} (h:OverAt w m r K done) (g:w.grownBy a q) (h1:some m≠q) (h2:some r≠q):OverAt a m r K done:=by
 have hm:=h.map.lt
 have hr:=h.lt
 obtain ⟨A,c,s,k1,k2,k3⟩:=h.is
 exact ⟨⟨A,c,s,by rw[g.block m hm h1];exact k1,by rw[g.block r hr h2];exact k2,k3⟩,h.once,h.wide,h.nodup,h.inn⟩
theorem OverAt.none {w a:World} {m r:Nat} {K:List (List UInt8 × Value)} {done:List (List UInt8)} (h:OverAt w m r K done) (g:w.grownBy a Option.none):OverAt a m r K done:=h.kept g (by simp) (by simp)
theorem OverAt.own {w:World} {m r base k n:Nat} {K:List (List UInt8 × Value)} {done:List (List UInt8)} {t:TypeId} {v:Value} {xs:List Value} (h:OverAt w m r K done) (ho:w.ownsRow base t k v n xs):some r≠v.ownBlock:=by
 obtain ⟨_,_,_,_,h,_⟩:=h.is
 rcases ho.2 with ⟨rfl,_⟩ | ⟨g,cap,cur,rfl,_,hh,_⟩
 ·intro e;cases e
 ·intro e
  have:r=g:=by simpa[Value.ownBlock] using e
  subst this
  rw[hh] at h
  cases h
theorem MapAt.over {w:World} {m:Nat} {K:List (List UInt8 × Value)} (h:MapAt w m K) (t e:TypeId) (ht:Tryz.prog.underlying t=some (.map 33 e)) :
  ∃ W,(Instr.range t (.map (some m))).run Tryz.prog w = .ok (.pointer (some ⟨w.heap.size,0,Option.none⟩)) W∧OverAt W m w.heap.size K []∧w.grownBy W Option.none:=by
 obtain ⟨A,c,h1,h2,h3,h4⟩:=h.is
 have hlt:=h.lt
 refine ⟨_,run_range_map w t _ e m A c ht h1,⟨⟨A,c,#[],?_,heap_alloc_new w _,h2,h3,h4,fun e _ x _=>by simp⟩,h.once,h.wide,by simp,by simp⟩,zag (zaa _ _) _⟩
 rw[heap_alloc_old w _ hlt]
 exact h1
theorem OverAt.next {w:World} {m r:Nat} {K:List (List UInt8 × Value)} {done:List (List UInt8)} (h:OverAt w m r K done) (ty:TypeId) :
  ((∀ x∈K.map (·.1),x∈done)∧(Instr.next (.pointer (some ⟨r,0,Option.none⟩)) false ty).run Tryz.prog w = .ok (.tuple #[.bool false]) w) ∨
   ∃ x v w2,(x,v)∈K∧x∉done∧(Instr.next (.pointer (some ⟨r,0,Option.none⟩)) false ty).run Tryz.prog w = .ok (.tuple #[.bool true,keyV x,v]) w2∧OverAt w2 m r K (done++[x])∧(Instr.entry (.pointer (some ⟨r,0,Option.none⟩))).run Tryz.prog w2 = .ok (.tuple #[keyV x,v]) w2∧w.grownBy w2 (some r)∧w2.heap.size=w.heap.size:=by
 have hrl:=h.lt
 obtain ⟨A,c,s,h1,h2,h3,h4,h5,h6⟩:=h.is
 have hmem:∀ e∈A.toList,∃ x v,(x,v)∈K∧e.key=keyV x∧e.val=v:=fun e he=>by
  have:(e.key,e.val)∈A.toList.map (fun e=>(e.key,e.val)):=List.mem_map.2 ⟨e,he,rfl⟩
  rw[h3] at this
  obtain ⟨p,hp,hpe⟩:=List.mem_map.1 this
  simp only[Prod.mk.injEq] at hpe
  exact ⟨p.1,p.2,hp,hpe.1.symm,hpe.2.symm⟩
 rcases run_next_at (P:=Tryz.prog) w ty r m c c s A c h2 h1 h4 (Nat.le_refl _) with ⟨hl,hr⟩ | ⟨e,he,w1,hw1,hr⟩
 ·refine Or.inl ⟨fun x hx => ?_,hr⟩
  obtain ⟨p,hp,rfl⟩:=List.mem_map.1 hx
  have:(keyV p.1,p.2)∈K.map (fun p=>(keyV p.1,p.2)):=List.mem_map.2 ⟨p,hp,rfl⟩
  rw[← h3] at this
  obtain ⟨e,he,hek⟩:=List.mem_map.1 this
  simp only[Prod.mk.injEq] at hek
  refine (h6 e he p.1 hek.1).1 ?_
  cases hs:s.contains e.born with
  | true=>rfl
  | false =>
   exfalso
   have hin:e∈(leftOf A s).toList:=by
    unfold leftOf
    have:e∈A:=by simpa using he
    simp[this]
    simpa using hs
   have:(leftOf A s).toList.length=0:=by simpa using hl
   rw[List.length_eq_zero_iff] at this
   rw[this] at hin
   simp at hin
 ·have heA:e∈A.toList∧s.contains e.born=false:=by
   unfold leftOf at he
   have he2:e∈A∧e.born∉s:=by simpa using he
   exact ⟨by simpa using he2.1,by simpa using he2.2⟩
  obtain ⟨x,v,hxv,hek,hev⟩:=hmem e heA.1
  have hxd:x∉done:=fun hx=>by
   have:=(h6 e heA.1 x hek).2 hx
   rw[heA.2] at this
   cases this
  have hnm:m≠r:=by
   rintro rfl
   rw[h1] at h2
   cases h2
  have hb:∀ o:Obj,(setBlock w1 r o).heap[r]? = some o∧(setBlock w1 r o).heap[m]? = w.heap[m]? ∧ w.grownBy (setBlock w1 r o) (some r)∧(setBlock w1 r o).heap.size=w.heap.size:=fun o=>by
   have hh:w1.heap=w.heap:=by rcases hw1 with rfl | rfl <;> rfl
   refine ⟨?_,?_,⟨?_,?_,?_,?_,fun k hk hne => ?_⟩,?_⟩
   ·simp[setBlock,hh,hrl]
   ·simp[setBlock,hh,Ne.symm hnm]
   ·rcases hw1 with rfl | rfl <;> rfl
   ·rcases hw1 with rfl | rfl <;> rfl
   ·rcases hw1 with rfl | rfl <;> rfl
   ·simp[setBlock,hh]
   ·have:r≠k:=fun e=>hne (by rw[e])
    simp[setBlock,hh,this]
   ·simp[setBlock,hh]
  obtain ⟨q1,q2,q3,q4⟩:=hb (.mapIter (some m) c (s.push e.born) c)
  refine Or.inr ⟨x,v,_,hxv,hxd,by rw[hek,hev] at hr;exact hr,⟨⟨A,c,s.push e.born,by rw[q2];exact h1,q1,h3,h4,h5,fun e' he' x' hk' => ?_⟩,h.once,h.wide,?_,?_⟩,?_,q3,q4⟩
  ·rw[Array.contains_push,Bool.or_eq_true,h6 e' he' x' hk',List.mem_append,List.mem_singleton]
   constructor
   ·rintro (h7 | h7)
    ·exact Or.inl h7
    ·right
     have h8:e'.born=e.born:=by simpa using h7
     have h9:=zem h5 he' heA.1 h8
     rw[h9,hek] at hk'
     exact (zoa hk').symm
   ·rintro (h7 | rfl)
    ·exact Or.inl h7
    ·right
     have:e'=e:=by
      have hk2:(A.toList.map (·.key)).Nodup:=by
       have e1:A.toList.map (·.key)=(K.map (·.1)).map keyV:=by
        have:=congrArg (List.map Prod.fst) h3
        rw[List.map_map,List.map_map] at this
        rw[List.map_map]
        exact this
       rw[e1]
       exact List.Pairwise.map _ (fun a b hne he=>hne (zoa he)) h.once
      exact zem hk2 he' heA.1 (by rw[hk',hek])
     rw[this]
     simp
  ·exact List.nodup_append.2 ⟨h.nodup,by simp,fun a ha b hb=>by
    rw[List.mem_singleton.1 hb]
    rintro rfl
    exact hxd ha⟩
  ·intro y hy
   rcases List.mem_append.1 hy with hy | hy
   ·exact h.inn y hy
   ·rw[List.mem_singleton.1 hy]
    exact List.mem_map.2 ⟨_,hxv,rfl⟩
  ·have:=run_entry_at (P:=Tryz.prog) (setBlock w1 r (.mapIter (some m) c (s.push e.born) c)) r m c s A c e q1 (by rw[q2];exact h1) heA.1 h5
   rw[hek,hev] at this
   exact this
end Go.Proofs.YthhnfloohbdaiaaGreatDoor
