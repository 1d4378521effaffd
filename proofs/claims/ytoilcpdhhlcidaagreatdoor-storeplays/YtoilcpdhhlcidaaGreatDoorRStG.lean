/- Lemmas. -/
import Derived.Lib.Strings
import Derived.Laws.AppendOwnNone
import Derived.Lib.OthersKept
import Derived.Deep.AppendLies
import Derived.Deep.DeepCutAuto
import Derived.Test.YtoilcpdhhlcidaaGreatDoorRStB
namespace Go.Proofs.YtoilcpdhhlcidaaGreatDoor
open Go.RowKit
theorem zrt (l:List UInt8) (a b:Nat):(str l).extract a b=str ((l.drop a).take (b - a)):=by
 apply ByteArray.ext
 apply Array.toList_inj.1
 rw[Lib.extract_data]
 rfl
theorem zfi (l:List UInt8) (hi:Nat) (h2:hi≤l.length) (W:World):(Instr.slice 9 (.string (str l)) none (some (.int .i64 (hi:Int))) none).run Tryz.prog W = .ok (.string (str (l.take hi))) W:=by
 rw[run_slice_string_h W 9 _ Tryz.underlying9 .i64 (hi:Int) (by omega) (by rw[zaq];omega),Int.toNat_natCast,zrt,List.drop_zero,Nat.sub_zero]
theorem zld:(Tryz.prog.info? 9).map (fun i=>(i.zero,i.size,i.bytes))=some (some (.string ⟨#[]⟩),1,16):=by kernel_rfl
def stv (x:List UInt8):Value := .string (str x)
theorem zot (L:List (List UInt8)):∀ u∈L.map stv,u.oneCell'=true:=by
 intro u hu
 obtain ⟨_,_,rfl⟩:=List.mem_map.1 hu
 rfl
def Stg (w:World) (base:Nat) (v:Value) (L:List (List UInt8)):Prop:=w.ownsRow base 9 1 v L.length (L.map stv)
theorem Stg.nil (w:World) (base:Nat):Stg w base (.slice none 0 0) []:=World.ownsRow_nil w base _ 1
theorem Stg.kept {w a:World} {base:Nat} {v:Value} {L:List (List UInt8)} (h:Stg w base v L) (g:w.grownBy a none):Stg a base v L :=
 World.ownsRow.kept h g (by cases v.ownBlock <;> simp)
structure Stl (w:World) (base:Nat) (ao:Option Addr) (c:Nat) (L:List (List UInt8)):Prop where
 zip:ao=none→L.length=0
 new:∀ ad,ao=some ad→base≤ad.block∧ad.block<w.heap.size
 cell:∀ ad,ao=some ad→ad.off=0∧ad.spot=none∧∀ i (h:i<L.length),w.cell? ⟨ad.block,i,none⟩=some (.string (str L[i]))
theorem Stg.open {w:World} {base:Nat} {v:Value} {L:List (List UInt8)} (h:Stg w base v L):∃ ao c,v = .slice ao L.length c∧Stl w base ao c L:=by
 rcases h.2 with ⟨rfl,h2⟩ | ⟨g,cap,cur,rfl,hg,hh,h3,h4,h5,h6⟩
 ·rw[h2]
  exact ⟨none,0,rfl,fun _=>h2,(fun _ e=>by cases e),(fun _ e=>by cases e)⟩
 ·refine ⟨some ⟨g,0,none⟩,cap,rfl,(fun e=>by cases e),(fun ad e => ?_),(fun ad e => ?_)⟩
  ·cases e
   exact ⟨hg,(Array.getElem?_eq_some_iff.1 hh).1⟩
  ·cases e
   refine ⟨rfl,rfl,fun i hi => ?_⟩
   have h7:(cur.toList.take (L.length*1))[i]? = (L.map stv)[i]? := by rw[h6]
   rw[List.getElem?_take_of_lt (by omega)] at h7
   simp[World.cell?,hh,hi,stv] at h7 ⊢
   exact h7
theorem Stl.kept {w a:World} {base:Nat} {ao:Option Addr} {c:Nat} {L:List (List UInt8)} (h:Stl w base ao c L) (g:w.grownBy a none):Stl a base ao c L :=
 ⟨h.zip,fun ad e=>⟨(h.new ad e).1,Nat.lt_of_lt_of_le (h.new ad e).2 g.size⟩,fun ad e=>⟨(h.cell ad e).1,(h.cell ad e).2.1,fun i hi=>g.cell ((h.cell ad e).2.2 i hi) (by simp)⟩⟩
theorem Stl.lower {w:World} {base b2:Nat} {ao:Option Addr} {c:Nat} {L:List (List UInt8)} (h:Stl w base ao c L) (hb:b2≤base):Stl w b2 ao c L :=
 ⟨h.zip,fun ad e=>⟨Nat.le_trans hb (h.new ad e).1,(h.new ad e).2⟩,h.cell⟩
theorem Stl.at {w:World} {base:Nat} {ao:Option Addr} {c:Nat} {L:List (List UInt8)} (h:Stl w base ao c L) (i:Nat) (hi:i<L.length):∃ b,ao=some ⟨b,0,none⟩∧w.cell? ⟨b,i,none⟩=some (.string (str L[i])):=by
 cases ao with
 | none=>have:=h.zip rfl;omega
 | some ad =>
   obtain ⟨h1,h2,h3⟩:=h.cell ad rfl
   obtain ⟨b,o,s⟩:=ad
   simp only at h1 h2
   subst h1 h2
   exact ⟨b,rfl,h3 i hi⟩
theorem ze7 {w:World} {ops:Array Oper} {rest:List Oper} {o:Oper} {a:Act} {Q:Exit→Act→World→Prop} (hgd:o.guard=none) (s x:Operand)
  (ho:o.op = .call { callee := .builtin .append,args := #[s,x],argTypes := #[30,30] })
  (base:Nat) (v:Value) (L:List (List UInt8)) (y:List UInt8) (b:Nat) (hs:a.eval s=v) (hown:Stg w base v L)
  (hx:a.eval x = .slice (some ⟨b,0,none⟩) 1 1) (hb:w.cell? ⟨b,0,none⟩=some (stv y)) (hn:L.length≤1000000) (hbase:base≤w.heap.size)
  (h:∀ v' w',Stg w' base v' (L++[y])→w.grownBy w' v.ownBlock→wpList Tryz.prog ops Q rest (a.put o.dst v') w'):wpList Tryz.prog ops Q (o::rest) a w:=by
 obtain ⟨i0,hi,hz0,hz1,hz2⟩:=info_parts zld
 exact wpList_append_own w hgd s x 30 ho base 9 i0 (.string ⟨#[]⟩) 1 16 Tryz.underlying30 hi hz0 hz1 hz2 rfl (by decide) v L.length (L.map stv) hs hown ⟨b,0,none⟩ 1 1 [stv y] hx (by simp)
  (fun j u hj=>by
   match j,hj with
   | 0,hj=>simp at hj;subst hj;simpa[Addr.add] using hb)
  (fun u hu=>by simp at hu;subst hu;rfl) (by unfold maxLen;omega) (by omega) hbase
  (fun v' w' q1 q2 _=>h v' w' (by unfold Stg;simpa using q1) q2)
def kC (v:List UInt8):Chg:=⟨[107],v,false⟩
structure TuI (rs:RSt) (i:Nat):Prop where
 half:rs.half=8
 two:2≤rs.used
 fits:rs.used≤8
 V:rs.V=[]∨∃ v,rs.V=[([107],v)]
 moves:rs.moves≤i
 none:rs.moves=0→2+2*i≤rs.used
theorem TuI.begin:TuI ⟨[],8,2,0⟩ 0:=⟨rfl,by simp,by simp,Or.inl rfl,by simp,by simp⟩
theorem TuI.small {rs:RSt} {i:Nat} (h:TuI rs i):rs.V.length≤1:=by
 rcases h.V with e | ⟨v,e⟩ <;> rw[e] <;> simp
theorem TuI.moved {rs:RSt} {i:Nat} (h:TuI rs i) (hi:8≤i):0<rs.moves:=by
 have:=h.none
 have:=h.fits
 omega
theorem zqg (V:List (List UInt8 × List UInt8)) (k v:List UInt8):(putK V k v).length≤V.length+1:=by
 induction V with
 | nil=>simp[putK]
 | cons y V ih =>
   obtain ⟨a,x⟩:=y
   rw[putK]
   split
   ·simp
   ·split
    ·simp
    ·simp only[List.length_cons];omega
theorem zer:∀ (l:List Chg) (V:List (List UInt8 × List UInt8)),(zal V l).length≤V.length+l.length
 | [],_=>Nat.le_refl _
 | c::l,V=>by
   have h1:=zer l (zbr V c)
   have h2:(zbr V c).length≤V.length+1:=by
    unfold zbr
    split
    ·exact Nat.le_succ_of_le (List.length_filter_le _ _)
    ·exact zqg _ _ _
   show (zal (zbr V c) l).length≤_
   rw[List.length_cons]
   omega
theorem zru (rs:RSt) (l:List Chg):(cmS rs l).1.V.length≤rs.V.length+l.length∧(cmS rs l).1.moves≤rs.moves+1∧(cmS rs l).1.half=rs.half:=by
 have h:=zer l rs.V
 unfold cmS
 split
 ·exact ⟨by simp,by simp,rfl⟩
 ·split
  ·exact ⟨by simp,by simp,rfl⟩
  ·split
   ·exact ⟨h,Nat.le_succ _,rfl⟩
   ·split
    ·exact ⟨by simp,by simp,rfl⟩
    ·exact ⟨h,Nat.le_refl _,rfl⟩
def zax (V:List (List UInt8 × List UInt8)):List (List UInt8):=V.map (·.2)
theorem zcg (V:List (List UInt8 × List UInt8)):kyC V=(zao V).map stv:=by unfold kyC zao;rw[List.map_map];rfl
theorem zcv (V:List (List UInt8 × List UInt8)):vlC V=(zax V).map stv:=by unfold vlC zax;rw[List.map_map];rfl
theorem zbx (V:List (List UInt8 × List UInt8)) (k v:List UInt8):zao (V++[(k,v)])=zao V++[k]:=by unfold zao;rw[List.map_append];rfl
theorem zby (V:List (List UInt8 × List UInt8)) (k v:List UInt8):zax (V++[(k,v)])=zax V++[v]:=by unfold zax;rw[List.map_append];rfl
structure OutW (w:World) (b0 Q:Nat) (KS VS:List (List UInt8)) (h u m:Int) (vk vv:Value):Prop where
 bq:b0≤Q
 blk:Blk w Q 32 [vk,vv,.int .i64 h,.int .i64 u,.int .i64 m]
 keys:Stg w b0 vk KS
 vals:Stg w b0 vv VS
 ap:∀ x,vk.ownBlock=some x→vv.ownBlock≠some x
theorem OutW.nn {w a:World} {b0 Q:Nat} {KS VS:List (List UInt8)} {h u m:Int} {vk vv:Value} (o:OutW w b0 Q KS VS h u m vk vv) (g:w.grownBy a none):OutW a b0 Q KS VS h u m vk vv :=
 ⟨o.bq,o.blk.kept g (by simp),o.keys.kept g,o.vals.kept g,o.ap⟩
theorem zjn {w a:World} {b k n:Nat} {t:TypeId} {v v' : Value} {xs:List Value} (h:w.ownsRow b t k v n xs) (g:w.grownBy a v'.ownBlock) (ha:∀ x,v'.ownBlock=some x→v.ownBlock≠some x):a.ownsRow b t k v n xs :=
 World.ownsRow.kept h g (by
  cases hb:v'.ownBlock with
  | none=>cases hv:v.ownBlock with
    | none=>exact Or.inl rfl
    | some y=>exact Or.inr (by simp)
  | some y=>exact Or.inr (ha y hb))
theorem OutW.key {U w w3:World} {Q:Nat} {KS VS:List (List UInt8)} {h u m:Int} {vk vv:Value} (o:OutW w U.heap.size Q KS VS h u m vk vv) (hu:U.grownBy w none) {x:List UInt8} {g c:Nat} {v:Value} (hv:v = .slice (some ⟨g,0,none⟩) (KS.length+1) c)
  (o3:w3.ownsRow U.heap.size 9 1 v (KS.length+1) (KS.map stv++[stv x])) (g3:w.grownBy w3 vk.ownBlock) (hat:vk.ownBlock=some g∨g=w.heap.size) :
  U.grownBy w3 none∧Blk w3 Q 32 [vk,vv,.int .i64 h,.int .i64 u,.int .i64 m]∧OutW (w3.setCell ⟨Q,0,none⟩ v) U.heap.size Q (KS++[x]) VS h u m v vv∧U.grownBy (w3.setCell ⟨Q,0,none⟩ v) none:=by
 have hq3:=o.blk.kept g3 (zap o.keys o.blk (by decide))
 have hv3:=zjn o.vals g3 o.ap
 have gs:=zbs w3 Q 0 v
 have hu3:U.grownBy w3 none:=zae hu g3 (fun x e=>Or.inl ((World.ownsRow.lt o.keys) x e).1)
 have B9:=hq3.set 0 v
 rw[List.set_cons_zero] at B9
 refine ⟨hu3,hq3,⟨o.bq,B9,?_,?_,?_⟩,zae hu3 gs (fun x e=>by cases e;exact Or.inl o.bq)⟩
 ·have K9:=World.ownsRow.kept o3 gs (Or.inr fun e=>zap o3 hq3 (by decide) e.symm)
  unfold Stg
  rw[List.length_append,List.map_append]
  exact K9
 ·exact World.ownsRow.kept hv3 gs (Or.inr fun e=>zap hv3 hq3 (by decide) e.symm)
 ·intro y hy e
  rw[hv] at hy
  have hgy:g=y:=by simpa[Value.ownBlock] using hy
  subst hgy
  rcases hat with h1 | h1
  ·exact o.ap _ h1 e
  ·have:=World.ownsRow.lt o.vals _ e
   omega
theorem OutW.val {U w w3:World} {Q:Nat} {KS VS:List (List UInt8)} {h u m:Int} {vk vv:Value} (o:OutW w U.heap.size Q KS VS h u m vk vv) (hu:U.grownBy w none) {x:List UInt8} {g c:Nat} {v:Value} (hv:v = .slice (some ⟨g,0,none⟩) (VS.length+1) c)
  (o3:w3.ownsRow U.heap.size 9 1 v (VS.length+1) (VS.map stv++[stv x])) (g3:w.grownBy w3 vv.ownBlock) (hat:vv.ownBlock=some g∨g=w.heap.size) :
  U.grownBy w3 none∧Blk w3 Q 32 [vk,vv,.int .i64 h,.int .i64 u,.int .i64 m]∧OutW (w3.setCell ⟨Q,1,none⟩ v) U.heap.size Q KS (VS++[x]) h u m vk v∧U.grownBy (w3.setCell ⟨Q,1,none⟩ v) none:=by
 have hq3:=o.blk.kept g3 (zap o.vals o.blk (by decide))
 have hv3:=zjn o.keys g3 (fun y e e2=>o.ap y e2 e)
 have gs:=zbs w3 Q 1 v
 have hu3:U.grownBy w3 none:=zae hu g3 (fun x e=>Or.inl ((World.ownsRow.lt o.vals) x e).1)
 have B9:=hq3.set 1 v
 rw[List.set_cons_succ,List.set_cons_zero] at B9
 refine ⟨hu3,hq3,⟨o.bq,B9,?_,?_,?_⟩,zae hu3 gs (fun x e=>by cases e;exact Or.inl o.bq)⟩
 ·exact World.ownsRow.kept hv3 gs (Or.inr fun e=>zap hv3 hq3 (by decide) e.symm)
 ·have K9:=World.ownsRow.kept o3 gs (Or.inr fun e=>zap o3 hq3 (by decide) e.symm)
  unfold Stg
  rw[List.length_append,List.map_append]
  exact K9
 ·intro y hy e
  rw[hv] at e
  have hgy:g=y:=by simpa[Value.ownBlock] using e
  subst hgy
  rcases hat with h1 | h1
  ·exact o.ap _ hy h1
  ·have:=World.ownsRow.lt o.keys _ hy
   omega
theorem zag {w:World} {ops:Array Oper} {o:Oper} {a:Act} {K:Act→World→Prop} {Q:Exit→Act→World→Prop} {E:Prop} (hw:Region.wanted o (yielded ops a.tmps)=true) (s x:Operand)
  (ho:o.op = .call { callee := .builtin .append,args := #[s,x],argTypes := #[30,30] })
  (base:Nat) (v:Value) (L:List (List UInt8)) (hs:a.eval s=v) (hown:Stg w base v L) (p:Nat) (y:List UInt8) (hB:Blk w p 9 [stv y])
  (hx:a.eval x = .slice (some ⟨p,0,none⟩) 1 1) (hn:L.length≤1000000) (hbase:base≤w.heap.size)
  (h:∀ g cap w',w'.ownsRow base 9 1 (.slice (some ⟨g,0,none⟩) (L.length+1) cap) (L.length+1) (L.map stv++[stv y])→w.grownBy w' v.ownBlock→(v.ownBlock=some g∨g=w.heap.size)→g<w'.heap.size→K (a.put o.dst (.slice (some ⟨g,0,none⟩) (L.length+1) cap)) w') :
  if Region.wanted o (yielded ops a.tmps)=true then Oper.wp Tryz.prog o a w K Q else E:=by
 rw[if_pos hw]
 obtain ⟨i0,hi,hz0,hz1,hz2⟩:=info_parts zld
 exact wp_append_lies w s x 30 ho base 9 i0 _ 1 16 Tryz.underlying30 hi hz0 hz1 hz2 rfl (by decide) v L.length (L.map stv) hs hown ⟨p,0,none⟩ 1 1 [stv y] hx rfl (fun j u hu=>World.news_of_block hB j u (by simpa using hu))
  (fun u hu=>by simp at hu;subst hu;rfl) (by decide) (by unfold maxLen;omega) (by omega) hbase w.heap.size rfl h
theorem zbb (s:ByteArray) (V:World):(Instr.buildSlice 30 1 #[(0,.string s)]).run Tryz.prog V = .ok (.slice (some ⟨V.heap.size,0,none⟩) 1 1) (V.alloc (.cells #[.string s] 9)):=by kernel_rfl
theorem zdv:∃ Z:Array Value,Z.size=5∧(∀ v∈Z.toList,∀ t,v ≠ .string t)∧∀ w:World,(zeroValue 32).run Tryz.prog w = .ok (.agg Z) w :=
 ⟨#[.slice none 0 0,.slice none 0 0,.int .i64 0,.int .i64 0,.int .i64 0],rfl,(fun v hv t e=>by
  simp only[List.mem_cons,List.not_mem_nil,or_false] at hv
  rcases hv with rfl | rfl | rfl | rfl | rfl <;> cases e),fun w=>by kernel_rfl⟩
theorem Cel.off {w a:World} {ao:Option Addr} {c:Nat} {L:List (List UInt8)} {b:Nat} {t:TypeId} {cs:List Value} (h:Cel w ao c (L.map stv)) (hb:Blk w b t cs) (hc:∀ v∈cs,∀ s,v ≠ .string s) (g:w.grownBy a (some b)):Cel a ao c (L.map stv):=by
 refine ⟨⟨h.1.zip,h.1.fits,h.1.most,h.1.spot,fun ad e i hi j v hv => ?_⟩,h.2⟩
 have h1:=h.1.row ad e i hi j v hv
 refine g.cell h1 (fun e2 => ?_)
 injection e2 with e2
 simp only at e2
 have hj:j=0:=by
  have:=(List.getElem?_eq_some_iff.1 hv).1
  simp[cl1] at this
  exact this
 subst hj
 have hi2:i<L.length:=by simpa using hi
 have hvs:v=stv L[i]:=by simpa[cl1] using hv.symm
 have h2:=hb.cell (ad.off+i*1+0)
 rw[show (⟨ad.block,ad.off+i*1+0,none⟩:Addr)=⟨b,ad.off+i*1+0,none⟩ by rw[e2]] at h1
 rw[h1] at h2
 exact hc v (List.mem_of_getElem? h2.symm) _ hvs
def Fre (w w' : World) (a a' : Option Addr):Prop:=∀ ad,a'=some ad→a=some ad∨(w.heap.size≤ad.block∧ad.block<w'.heap.size)
theorem Fre.refl (w w' : World) (a:Option Addr):Fre w w' a a:=fun _ e=>Or.inl e
theorem Fre.grow {w w' w2:World} {a b:Option Addr} (h:Fre w w' a b) (g:w'.heap.size≤w2.heap.size):Fre w w2 a b:=fun ad e=>(h ad e).imp id fun q=>⟨q.1,Nat.lt_of_lt_of_le q.2 g⟩
theorem Fre.low {w u w' : World} {a b:Option Addr} (h:Fre u w' a b) (g:w.heap.size≤u.heap.size):Fre w w' a b:=fun ad e=>(h ad e).imp id fun q=>⟨Nat.le_trans g q.1,q.2⟩
def MdP (w w' : World) (e:Ending) (ko vo:Option Addr) (s:RSt) (l:List Chg):Prop :=
 ∃ ko' kc' vo' vc',e = .returned (.agg (rsC ko' kc' vo' vc' { s with V:=zal s.V l }).toArray)∧RsW w' ko' kc' vo' vc' { s with V:=zal s.V l }∧Fre w w' ko ko'∧Fre w w' vo vo'∧w.grownBy w' none
structure MadeC:Prop where
 made:∀ (w:World) (ko:Option Addr) (kc:Nat) (vo:Option Addr) (vc:Nat) (s:RSt),RsW w ko kc vo vc s→RisK s.V→s.V.length≤100000→∀ (co:Option Addr) (cc:Nat) (l:List Chg),Rws w 3 crC co cc l→l.length≤100000 →
  Calls Tryz.prog 33 #[.agg (rsC ko kc vo vc s).toArray,.slice co l.length cc] w fun e w'=>MdP w w' e ko vo s l
def MdI (w wr:World) (Z:List Value) (ko vo:Option Addr) (s:RSt) (V:List (List UInt8 × List UInt8)):Prop :=
 ∃ ko' kc' vo' vc',Blk wr w.heap.size 32 (rsC ko' kc' vo' vc' { s with V:=V })∧RsW wr ko' kc' vo' vc' { s with V:=V }∧Fre w wr ko ko'∧Fre w wr vo vo'∧Blk wr (w.heap.size+1) 32 Z∧w.grownBy wr none
theorem zbz (ko:Option Addr) (kc:Nat) (vo:Option Addr) (vc:Nat) (s:RSt):(rsC ko kc vo vc s).toArray.all (·.oneCell')=true:=by simp[rsC,Value.oneCell']
theorem zd5 (ko:Option Addr) (kc:Nat) (vo:Option Addr) (vc:Nat) (s:RSt):∀ v∈rsC ko kc vo vc s,∀ t,v ≠ .string t:=by
 intro v hv t e
 simp only[rsC,List.mem_cons,List.not_mem_nil,or_false] at hv
 rcases hv with rfl | rfl | rfl | rfl | rfl <;> cases e
theorem zse (c:Chg) {V P:List (List UInt8 × List UInt8)} {dn:Bool} (h:RisK V) (hf:V.foldl (zbd c) ([],c.gone)=(P,dn)):zln c (P,dn)=zbr V c:=by rw[← hf];exact zq0 c h
theorem zrv {c:Chg} {V P:List (List UInt8 × List UInt8)} {dn:Bool} {q:Nat} (hq:q<V.length) (h:(V.take q).foldl (zbd c) ([],c.gone)=(P,dn)):(V.take (q+1)).foldl (zbd c) ([],c.gone)=zbd c (P,dn) V[q]:=by
 rw[List.take_succ_eq_append_getElem hq,List.foldl_append,h]
 rfl
theorem zrw {c:Chg} {P:List (List UInt8 × List UInt8)} {y:List UInt8 × List UInt8} (h:zbv c.key y.1=true):zbd c (P,false) y=((P++[(c.key,c.value)])++[y],true):=by
 have hne:¬ y.1=c.key:=fun e=>by rw[e,zda] at h;cases h
 unfold zbd
 simp[h,hne]
theorem zst {c:Chg} {P:List (List UInt8 × List UInt8)} {dn:Bool} {y:List UInt8 × List UInt8} (h:y.1=c.key):zbd c (P,dn) y=(P,dn):=by
 unfold zbd
 simp[h,zda]
theorem zsu {c:Chg} {P:List (List UInt8 × List UInt8)} {dn:Bool} {y:List UInt8 × List UInt8} (h:¬ y.1=c.key) (h2:dn=true∨zbv c.key y.1=false):zbd c (P,dn) y=(P++[y],dn):=by
 unfold zbd
 rcases h2 with rfl | h2
 ·simp[h]
 ·simp[h,h2]
theorem MdI.next {w wr wx:World} {Z:List Value} {ko vo:Option Addr} {s:RSt} {V' : List (List UInt8 × List UInt8)} {CS:List Value} {Q:Nat} {vk vv:Value} (hi:w.grownBy wr none) (hB:Blk wx w.heap.size 32 CS) (hCS:∀ v∈CS,∀ t,v ≠ .string t) (hZ:Blk wx (w.heap.size+1) 32 Z)
  (o:OutW wx wr.heap.size Q (zao V') (zax V') (s.half:Int) (s.used:Int) (s.moves:Int) vk vv) (hu:wr.grownBy wx none) :
  ∃ a b c d,[vk,vv,.int .i64 (s.half:Int),.int .i64 (s.used:Int),.int .i64 (s.moves:Int)]=rsC a b c d { s with V:=V' }∧MdI w (wx.setRow w.heap.size (rsC a b c d { s with V:=V' }).toArray) Z ko vo s V':=by
 obtain ⟨ka,kc,e1,k1,k2⟩:=Cel.own (show wx.ownsRow wr.heap.size 9 1 vk ((zao V').map stv).length ((zao V').map stv) by rw[List.length_map];exact o.keys) (zot _)
 obtain ⟨va,vc,e2,v1,v2⟩:=Cel.own (show wx.ownsRow wr.heap.size 9 1 vv ((zax V').map stv).length ((zax V').map stv) by rw[List.length_map];exact o.vals) (zot _)
 have l1:((zao V').map stv).length=V'.length:=by unfold zao;simp
 have l2:((zax V').map stv).length=V'.length:=by unfold zax;simp
 rw[l1] at e1
 rw[l2] at e2
 have hsz:=hi.size
 have gs:wx.grownBy (wx.setRow w.heap.size (rsC ka kc va vc { s with V:=V' }).toArray) (some w.heap.size):=zaj (zac _ _) _ (Or.inr rfl)
 have hR:=hB.row (rsC ka kc va vc { s with V:=V' })
 refine ⟨ka,kc,va,vc,by rw[e1,e2];rfl,ka,kc,va,vc,hR,⟨?_,?_⟩,fun ad e=>Or.inr (by have h7:=k2 ad e;have h8:=(World.ownsRow.lt o.keys) ad.block (by rw[e1,e];rfl);have h9:=gs.size;omega),fun ad e=>Or.inr (by have h7:=v2 ad e;have h8:=(World.ownsRow.lt o.vals) ad.block (by rw[e2,e];rfl);have h9:=gs.size;omega),hZ.kept gs (by simp),zae (tn hi hu) gs (fun x e=>by cases e;exact Or.inl (Nat.le_refl _))⟩
 ·show Cel _ ka kc (kyC V')
  rw[zcg]
  exact k1.off hB hCS gs
 ·show Cel _ va vc (vlC V')
  rw[zcv]
  exact v1.off hB hCS gs
theorem zj7 {P:Program} {ops:Array Oper} {rest:List Oper} {o:Oper} {a:Act} {w:World} {Q:Exit→Act→World→Prop} (hg:o.guard=none) (t:TypeId) (parts:Array (Nat × Operand)) (ho:o.op = .build t parts) (cells:Array Value)
  (hf:P.built t (parts.map fun (i,x)=>(i,a.eval x)).toList=some cells)
  (h:wpList P ops Q rest (a.put o.dst (.agg cells)) w):wpList P ops Q (o::rest) a w :=
 wpList_build hg t parts ho (by rw[hf];rfl) (by rw[hf];exact h)
set_option maxRecDepth 100000 in
theorem zqh (w:World) (n:Nat) (hn:n≤1000000) :
  Calls Tryz.prog 11 #[.int .i64 (n:Int)] w fun e w'=>e = .returned (.agg (rsC none 0 none 0 ⟨[],n / 2,2,0⟩).toArray)∧w.grownBy w' none:=by
 obtain ⟨Z,hZ5,hZs,hzv⟩:=zdv
 obtain ⟨W1,hW1,hB1,g1⟩:=zah w 32 Z.toList
 obtain ⟨nh,hh⟩:∃ k,k=n / 2:=⟨_,rfl⟩
 have hq:Int.tdiv (n:Int) 2=(nh:Int):=by rw[Int.tdiv_eq_ediv_of_nonneg (by omega)];omega
 have hqw:IntKind.i64.wrap (nh:Int)=(nh:Int):=by rw[IntKind.wrap_i64];omega
 obtain ⟨CS,hCS⟩:∃ C,C=rsC none 0 none 0 ⟨[],n / 2,2,0⟩:=⟨_,rfl⟩
 have hbl:Tryz.prog.built 32 [(2,.int .i64 (nh:Int)),(3,.int .i64 2)]=some CS.toArray:=by
  rw[hCS,← hh]
  exact Eq.trans (b:=some #[.slice none 0 0,.slice none 0 0,.int .i64 (nh:Int),.int .i64 2,.int .i64 0]) (by kernel_rfl) rfl
 have HIE:=hide (show (Tryz.prog.info? 32).map (·.size)=some CS.length by rw[hCS];exact zas)
 have HIE2:=hide (show (Tryz.prog.info? 32).map (·.size)=some CS.toArray.size by rw[hCS];exact zas)
 have HZE:=hide (show Z.toList.toArray.size=CS.toArray.size by rw[hCS,Array.toArray_toList,hZ5];rfl)
 have HEO:=hide (show CS.toArray.all (·.oneCell')=true by rw[hCS];exact zbz _ _ _ _ _)
 have HW1:=hide (show W1=w.alloc (.cells Z 32) by rw[hW1,Array.toArray_toList])
 obtain ⟨HB1,HG⟩:=zh2 hB1 g1
 rw[← hCS]
 clear hW1 hB1 g1 hCS hh hZ5 hZs hn
 go_enter Tryz.func11,Tryz.ntmps11
 go_wp2_with (first
  | (rw[← uh HW1])
  | (refine zj7 rfl 32 _ rfl CS.toArray ?hb ?_;(case hb=>exact Eq.trans (b:=Tryz.prog.built 32 [(2,.int .i64 (nh:Int)),(3,.int .i64 2)]) (by kernel_rfl) hbl))
  | (have hB9:=uh HB1;refine wpList_store_row rfl 32 _ _ rfl w.heap.size CS.toArray rfl rfl _ _ hB9 (by simpa using uh HIE) (uh HZE) (uh HEO) ?_;clear hB9))
 refine bodyPost_ret (results_cell_row rfl _ _ _ _ _ _ _ rfl ((uh HB1).row CS) Tryz.underlying32 rfl (uh HIE2)) rfl ?_
 exact ⟨rfl,zaj (uh HG) _ (Or.inl (Nat.le_refl _))⟩
theorem zes {l:List Chg} (h:∀ c∈l,c.Ok) (hl:l.length≤1000000):(recB l).length≤1099511627776:=by
 have key:∀ l:List Chg,(∀ c∈l,c.Ok)→(l.flatMap chB).length≤l.length*65641:=by
  intro l
  induction l with
  | nil=>intro _;simp
  | cons c l ih =>
    intro hc
    have h1:=hc c (by simp)
    have h2:=Chg.norm_val h1
    have h3:=h1.key2
    have h4:=ih (fun x hx=>hc x (by simp[hx]))
    have h5:(chB c).length≤65641:=by
     unfold chB sizS
     simp only[List.length_cons,List.length_append,zaw]
     omega
    rw[List.flatMap_cons,List.length_append,List.length_cons]
    omega
 have h1:=key l h
 unfold recB
 rw[List.length_append,zaw]
 omega
theorem zou {V:List (List UInt8 × List UInt8)} (h:∀ y∈V,1≤y.1.length∧y.1.length≤96∧y.2.length≤65536):∀ c∈allC V,c.Ok:=fun c hc=>by
 obtain ⟨y,hy,rfl⟩:=List.mem_map.1 hc
 have:=h y hy
 exact ⟨this.1,this.2.1,this.2.2⟩
def CmP (w w' : World) (e:Ending) (ko vo:Option Addr) (s2:RSt) (z:Int):Prop :=
 ∃ ko' kc' vo' vc',e = .returned (.tuple #[.agg (rsC ko' kc' vo' vc' s2).toArray,.int .i64 z])∧RsW w' ko' kc' vo' vc' s2∧Fre w w' ko ko'∧Fre w w' vo vo'∧w.grownBy w' none
theorem CmP.ret {w wr:World} {ko vo ka va:Option Addr} {kc vc:Nat} {s2:RSt} {z:Int} {B:List Value} (hB:Blk wr (w.heap.size+1) 32 B) (hBs:∀ v∈B,∀ t,v ≠ .string t) (hR:RsW wr ka kc va vc s2) (h1:Fre w wr ko ka) (h2:Fre w wr vo va) (hg:w.grownBy wr none) :
  CmP w (wr.setRow (w.heap.size+1) (rsC ka kc va vc s2).toArray) (.returned (.tuple #[.agg (rsC ka kc va vc s2).toArray,.int .i64 z])) ko vo s2 z:=by
 have gs:wr.grownBy (wr.setRow (w.heap.size+1) (rsC ka kc va vc s2).toArray) (some (w.heap.size+1)):=zaj (zac _ _) _ (Or.inr rfl)
 have hk:=hR.keys
 have hv:=hR.vals
 rw[zcg] at hk
 rw[zcv] at hv
 have hk9:=hk.off hB hBs gs
 have hv9:=hv.off hB hBs gs
 exact ⟨ka,kc,va,vc,rfl,⟨by rw[zcg];exact hk9,by rw[zcv];exact hv9⟩,h1.grow gs.size,h2.grow gs.size,zaj hg _ (Or.inl (by omega))⟩
end Go.Proofs.YtoilcpdhhlcidaaGreatDoor
