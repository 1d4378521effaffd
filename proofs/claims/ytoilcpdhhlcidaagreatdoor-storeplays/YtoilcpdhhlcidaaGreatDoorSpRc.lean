/- Lemmas. -/
import Derived.Test.YtoilcpdhhlcidaaGreatDoorSpM
import Derived.Test.YtoilcpdhhlcidaaGreatDoorSpEq
import Derived.Test.YtoilcpdhhlcidaaGreatDoorSpRm
namespace Go.Proofs.YtoilcpdhhlcidaaGreatDoor
open Go.RowKit
def chOf (y:Nat × List UInt8 × List UInt8):Chg:=⟨y.2.1,y.2.2,decide (0<y.1)⟩
def zb9 (b:List UInt8):List Chg:=(zb0 (numS b 0 2).1 (numS b 0 2).2.1 (numS b 0 2).2.2).1.map chOf
theorem zn2 (c:Chg):chOf (znz c)=c.norm:=by
 obtain ⟨k,v,g⟩:=c
 cases g <;> rfl
theorem zn3 {l:List Chg} (h:MayC l):zb9 (recB l)=l.map Chg.norm:=by
 obtain ⟨h1,h2⟩:=zr7 h
 unfold zb9
 rw[h1]
 simp only
 rw[h2]
 simp only[List.map_map]
 exact List.map_congr_left fun c _=>zn2 c
theorem zg7:∀ (n:Nat) (l:List UInt8) (e:Int),zb0 (n+1) l e=((zb0 n l e).1++[(rdCh (zb0 n l e).2.1 (zb0 n l e).2.2).1],(rdCh (zb0 n l e).2.1 (zb0 n l e).2.2).2.1,(rdCh (zb0 n l e).2.1 (zb0 n l e).2.2).2.2)
 | 0,l,e=>rfl
 | n+1,l,e=>by
   rw[zb0,zg7 n,zb0]
   rfl
theorem zjb:∀ (n:Nat) (l:List UInt8) (e:Int),(zb0 n l e).1.length=n
 | 0,_,_=>rfl
 | n+1,l,e=>by rw[zb0];simp[zjb n]
theorem zgg (l:List UInt8) (e n:Int):(numS l e n).2.1.length≤l.length:=by
 unfold numS
 repeat' split
 all_goals simp
theorem zd4 (l:List UInt8) (e:Int):(zba l e).2.1.length≤l.length∧(zba l e).1.length≤l.length:=by
 unfold zba
 repeat' split
 all_goals simp
 all_goals omega
theorem zn4 (l:List UInt8) (e:Int):(rdCh l e).2.1.length≤l.length:=by
 unfold rdCh
 have h1:=zgg l e 1
 have h2:=(zd4 (numS l e 1).2.1 (numS l e 1).2.2).1
 have h3:=(zd4 (zba (numS l e 1).2.1 (numS l e 1).2.2).2.1 (zba (numS l e 1).2.1 (numS l e 1).2.2).2.2).1
 simp only
 omega
theorem zg8:∀ (n:Nat) (l:List UInt8) (e:Int),(zb0 n l e).2.1.length≤l.length
 | 0,_,_=>Nat.le_refl _
 | n+1,l,e=>by
   have h1:=zn4 l e
   have h2:=zg8 n (rdCh l e).2.1 (rdCh l e).2.2
   rw[zb0]
   simp only
   omega
theorem zjc:(Tryz.prog.info? 55).map (fun i=>(i.zero,i.size,i.bytes))=some (some (.agg #[.string ⟨#[]⟩,.slice none 0 0,.bool false]),3,48):=by kernel_rfl
theorem zn5 (a:ByteArray) (bo:Option Addr) (n c:Nat) (g:Bool) (V:World):(Instr.buildSlice 34 1 #[(0,.agg #[.string a,.slice bo n c,.bool g])]).run Tryz.prog V = .ok (.slice (some ⟨V.heap.size,0,none⟩) 1 1) (V.alloc (.cells #[.string a,.slice bo n c,.bool g] 55)):=by kernel_rfl
theorem zg9 (a:ByteArray) (bo:Option Addr) (n c:Nat) (g:Bool):Tryz.prog.built 55 [(0,.string a),(1,.slice bo n c),(2,.bool g)]=some #[.string a,.slice bo n c,.bool g]:=by kernel_rfl
theorem zk7 (x:ChI):∀ u∈ciC x,u.oneCell'=true:=zf8 _ _ _ _ _
theorem zdn {w:World} {ops:Array Oper} {o:Oper} {a:Act} {K:Act→World→Prop} {Q:Exit→Act→World→Prop} {E:Prop} (hw:Region.wanted o (yielded ops a.tmps)=true) (s x:Operand)
  (ho:o.op = .call { callee := .builtin .append,args := #[s,x],argTypes := #[34,34] })
  (base:Nat) (v:Value) (L M:List ChI) (hs:a.eval s=v) (hown:w.ownsRow base 55 3 v L.length (L.flatMap ciC)) (xo:Option Addr) (m c:Nat) (hx:a.eval x = .slice xo m c) (hm:m=M.length) (hM:Rws w 3 ciC xo c M)
  (hn:L.length+M.length≤2000000) (hbase:base≤w.heap.size)
  (h:∀ v' w',w'.ownsRow base 55 3 v' (L++M).length ((L++M).flatMap ciC)→w.grownBy w' v.ownBlock→K (a.put o.dst v') w'):if Region.wanted o (yielded ops a.tmps)=true then Oper.wp Tryz.prog o a w K Q else E:=by
 rw[if_pos hw]
 obtain ⟨i0,hi,hz0,hz1,hz2⟩:=info_parts zjc
 exact zb8 s x 34 55 ho i0 _ 3 48 Tryz.underlying34 hi hz0 hz1 hz2 rfl (by decide) ciC zk7 base v L M (fun _ _=>rfl) hs hown xo m c hx hm hM (by omega) (by omega) hbase h
theorem zjy {w:World} {p:Nat} {x:ChI} (h:Blk w p 55 (ciC x)):Rws w 3 ciC (some ⟨p,0,none⟩) 1 [x] :=
 ⟨(fun e=>by cases e),Nat.le_refl _,by unfold maxLen;decide,(fun ad e=>by cases e;rfl),fun ad e i hi=>by
   cases e
   have hi0:i=0:=by simpa using hi
   subst hi0
   simpa using zan h⟩
structure RcI (w:World) (rb:Nat) (v:Value) (L:List ChI) (l:List UInt8) (e:Int) (W:World):Prop where
 rd:Rd W rb l e
 row:W.ownsRow w.heap.size 55 3 v L.length (L.flatMap ciC)
 val:∀ x∈L,Bts W x.bo x.bc x.val∧∀ ad,x.bo=some ad→rb<ad.block∧Typ W ad.block
 gb:w.grownBy W none
theorem Typ.gk {w a:World} {b:Nat} {r:Option Nat} (h:Typ w b) (g:w.grownBy a r) (hr:some b≠r):Typ a b:=by
 obtain ⟨cur,m,h2⟩:=h
 exact ⟨cur,m,by rw[g.block b (Array.getElem?_eq_some_iff.1 h2).1 hr];exact h2⟩
theorem RcI.rdr {w W W' : World} {rb:Nat} {v:Value} {L:List ChI} {l l' : List UInt8} {e e' : Int} (h:RcI w rb v L l e W) (hb:w.heap.size≤rb) (g:W.grownBy W' (some rb)) (hr:Rd W' rb l' e'):RcI w rb v L l' e' W':=by
 refine ⟨hr,h.row.kept g ?_,fun x hx => ?_,zae h.gb g (fun y e=>by cases e;exact Or.inl hb)⟩
 ·obtain ⟨ao,c,h1,_⟩:=h.rd
  have:=zap h.row (show Blk W rb 159 _ from h1) (by decide)
  cases hvo:v.ownBlock with
  | none=>exact Or.inl rfl
  | some y=>exact Or.inr (fun e2=>this (by rw[hvo,← e2]))
 ·obtain ⟨q1,q2⟩:=h.val x hx
  exact ⟨q1.kept g (fun y e=>by cases e;intro ad e2;have:=(q2 ad e2).1;omega),fun ad e2=>⟨(q2 ad e2).1,(q2 ad e2).2.gk g (fun e3=>by have:=(q2 ad e2).1;injection e3 with e3;omega)⟩⟩
theorem RcI.nn {w W W' : World} {rb:Nat} {v:Value} {L:List ChI} {l:List UInt8} {e:Int} (h:RcI w rb v L l e W) (g:W.grownBy W' none):RcI w rb v L l e W' :=
 ⟨h.rd.kept g (Or.inl rfl),h.row.kept g (by cases v.ownBlock <;> simp),fun x hx=>⟨(h.val x hx).1.kept g (fun _ e=>by cases e),fun ad e2=>⟨((h.val x hx).2 ad e2).1,((h.val x hx).2 ad e2).2.gk g (by simp)⟩⟩,tn h.gb g⟩
theorem RcI.app {w W W' : World} {rb:Nat} {v v' : Value} {L:List ChI} {l:List UInt8} {e:Int} {x:ChI} (h:RcI w rb v L l e W) (hx:Bts W x.bo x.bc x.val∧∀ ad,x.bo=some ad→rb<ad.block∧Typ W ad.block) (ho:W'.ownsRow w.heap.size 55 3 v' (L++[x]).length ((L++[x]).flatMap ciC)) (g:W.grownBy W' v.ownBlock):RcI w rb v' (L++[x]) l e W':=by
 have hnt:∀ y,v.ownBlock=some y→¬ Typ W y:=fun y hy=>zqy h.row hy (by decide)
 refine ⟨h.rd.keptTyp g (fun y hy=>⟨fun e2 => ?_,hnt y hy⟩),ho,fun z hz => ?_,zae h.gb g (fun y hy=>Or.inl (h.row.lt y hy).1)⟩
 ·obtain ⟨ao,c,h1,_⟩:=h.rd
  exact zap h.row (show Blk W rb 159 _ from h1) (by decide) (by rw[hy,e2])
 ·have hz2:Bts W z.bo z.bc z.val∧∀ ad,z.bo=some ad→rb<ad.block∧Typ W ad.block:=by
   rcases List.mem_append.1 hz with hz | hz
   ·exact h.val z hz
   ·rw[List.mem_singleton.1 hz];exact hx
  exact ⟨hz2.1.kept g (fun y hy=>by intro ad e2 e3;exact hnt y hy (e3 ▸ (hz2.2 ad e2).2)),fun ad e2=>⟨(hz2.2 ad e2).1,(hz2.2 ad e2).2.gk g (fun e3=>hnt _ e3.symm (hz2.2 ad e2).2)⟩⟩
set_option maxRecDepth 100000 in
set_option maxHeartbeats 4000000 in
theorem zl5 (w:World) (ao:Option Addr) (c:Nat) (b:List UInt8) (hb:Bts w ao c b) (hl:b.length≤1000000) :
  Calls Tryz.prog 72 #[.slice ao b.length c] w fun e w'=>∃ (L:List ChI) (lo:Option Addr) (lc:Nat),e = .returned (.tuple #[.slice lo L.length lc,.bool (mayB (zb9 b) && decide (recB (zb9 b)=b))])∧CsI w' lo lc L∧L.map ChI.chg=zb9 b ∧
   (∀ ad,lo=some ad→w.heap.size≤ad.block)∧(∀ x∈L,∀ ad,x.bo=some ad→w.heap.size≤ad.block)∧w.grownBy w' none:=by
 have cn:=znh w ao c b hb (by omega)
 obtain ⟨nb0,hnb0⟩:∃ n,n=b.length:=⟨_,rfl⟩
 rw[← hnb0] at cn ⊢
 have HL:=hide (show b.length≤1000000 from hl)
 obtain ⟨HBB,HNB⟩:=zh2 hb hnb0
 clear hb hl hnb0
 go_enter Tryz.func72,Tryz.ntmps72
 go_wp2_with (go_at_call 89;fail)
 refine cn.mono ?_
 rintro e w1 ⟨rb,rfl,hrb,hrd,g1⟩
 have cc:=zf7 w1 rb b 0 2 hrd
 obtain ⟨N,hN⟩:∃ N,N=(numS b 0 2).1:=⟨_,rfl⟩
 obtain ⟨l1,hl1⟩:∃ N,N=(numS b 0 2).2.1:=⟨_,rfl⟩
 obtain ⟨e1,he1⟩:∃ N,N=(numS b 0 2).2.2:=⟨_,rfl⟩
 rw[← hN,← hl1,← he1] at cc
 have hNb:N<65536:=by rw[hN];exact zhy b 0 2 (by decide)
 have hl1b:l1.length≤1000000:=by rw[hl1];exact Nat.le_trans (zgg _ _ _) (uh HL)
 have hRL:zb9 b=(zb0 N l1 e1).1.map chOf:=by rw[hN,hl1,he1];rfl
 obtain ⟨HRB,HG1,HRL,HL1⟩:=zh4 hrb g1 hRL hl1b
 clear cn hrb hrd g1 hN hl1 he1 hl1b hRL
 go_wp2_with (go_at_call 91;fail)
 refine cc.mono ?_
 rintro e w2 ⟨rfl,hrd2,g2⟩
 have HI0:=hide (show RcI w rb (.slice none 0 0) [] l1 e1 w2 from ⟨hrd2,World.ownsRow_nil _ _ _ _,(fun _ h=>by cases h),zae (uh HG1) g2 (fun y e=>by cases e;exact Or.inl (uh HRB))⟩)
 clear cc hrd2 g2
 go_wp2
 go_loopw [5,11] (fun v i wr=>∃ (j:Nat),i = .int .u64 (j:Int)∧j≤N∧Hid (∃ L:List ChI,RcI w rb v L (zb0 j l1 e1).2.1 (zb0 j l1 e1).2.2 wr∧L.map ChI.chg=(zb0 j l1 e1).1.map chOf)) (fun _ i _=>N - (intOf i).toNat)
 case atStart=>exact ⟨0,rfl,Nat.zero_le _,[],uh HI0,rfl⟩
 case round =>
  clear HI0
  obtain ⟨j,rfl,hj,HI⟩:=hrel
  obtain ⟨L,hI,hLc⟩:=uh HI
  have hLl:L.length=j:=by have:=congrArg List.length hLc;rw[List.length_map,List.length_map,zjb] at this;exact this
  obtain ⟨lj,hlj⟩:∃ l,l=(zb0 j l1 e1).2.1:=⟨_,rfl⟩
  obtain ⟨ej,hej⟩:∃ l,l=(zb0 j l1 e1).2.2:=⟨_,rfl⟩
  have hljb:lj.length≤1000000:=by rw[hlj];exact Nat.le_trans (zg8 _ _ _) (uh HL1)
  rw[← hlj,← hej] at hI
  by_cases hlt:j<N
  ·have hji:(j:Int)<(N:Int):=by omega
   have hjw:IntKind.u64.wrap ((j:Int)+1)=(j:Int)+1:=by rw[IntKind.wrap_u64];omega
   have cf:=zf7 wr rb lj ej 1 hI.rd
   obtain ⟨fl,hfl⟩:∃ N,N=(numS lj ej 1).1:=⟨_,rfl⟩
   obtain ⟨l2,hl2⟩:∃ N,N=(numS lj ej 1).2.1:=⟨_,rfl⟩
   obtain ⟨e2,he2⟩:∃ N,N=(numS lj ej 1).2.2:=⟨_,rfl⟩
   rw[← hfl,← hl2,← he2] at cf
   have hl2b:l2.length≤1000000:=by rw[hl2];exact Nat.le_trans (zgg _ _ _) hljb
   obtain ⟨X1,hX1⟩:∃ N,N=(zba l2 e2).1:=⟨_,rfl⟩
   obtain ⟨l3,hl3⟩:∃ N,N=(zba l2 e2).2.1:=⟨_,rfl⟩
   obtain ⟨e3,he3⟩:∃ N,N=(zba l2 e2).2.2:=⟨_,rfl⟩
   have hl3b:l3.length≤1000000:=by rw[hl3];exact Nat.le_trans (zd4 _ _).1 hl2b
   obtain ⟨X2,hX2⟩:∃ N,N=(zba l3 e3).1:=⟨_,rfl⟩
   obtain ⟨l4,hl4⟩:∃ N,N=(zba l3 e3).2.1:=⟨_,rfl⟩
   obtain ⟨e4,he4⟩:∃ N,N=(zba l3 e3).2.2:=⟨_,rfl⟩
   have hch:rdCh lj ej=((fl,X1,X2),l4,e4):=by unfold rdCh;simp only[← hfl,← hl2,← he2,← hX1,← hl3,← he3,← hX2,← hl4,← he4]
   have hsn:=zg7 j l1 e1
   rw[← hlj,← hej,hch] at hsn
   obtain ⟨HSN,HI2,HLC⟩:=zh3 hsn hI hLc
   obtain ⟨fb,hfb⟩:∃ f,f=decide (0<fl):=⟨_,rfl⟩
   have HFB:=hide (show decide (0<fl)=fb from hfb.symm)
   have HFL:=hide hfb
   obtain ⟨TK,hTK⟩:∃ T,T=str X1:=⟨_,rfl⟩
   obtain ⟨n1,hn1⟩:∃ n,n=X1.length:=⟨_,rfl⟩
   obtain ⟨n2,hn2⟩:∃ n,n=X2.length:=⟨_,rfl⟩
   obtain ⟨HTK,HN1,HN2⟩:=zh3 hTK hn1 hn2
   have HLB:=hide (show L.length+([⟨X1,none,0,X2,fb⟩]:List ChI).length≤2000000 by simp;omega)
   have HCSA:∀ V,Rd V rb l2 e2→Calls Tryz.prog 92 #[.pointer (some ⟨rb,0,none⟩)] V fun e w'=>∃ v,e = .returned v∧NewB V w' v X1∧Rd w' rb l3 e3∧V.grownBy w' (some rb):=fun V hV=>by
    have:=zk1 V rb l2 e2 (by omega) hV
    rw[← hX1,← hl3,← he3] at this
    exact this
   have HCS2:=hide (show ∀ V,Rd V rb l3 e3→Calls Tryz.prog 92 #[.pointer (some ⟨rb,0,none⟩)] V fun e w'=>∃ v,e = .returned v∧NewB V w' v X2∧Rd w' rb l4 e4∧V.grownBy w' (some rb) from fun V hV=>by
    have:=zk1 V rb l3 e3 (by omega) hV
    rw[← hX2,← hl4,← he4] at this
    exact this)
   obtain ⟨HCSH,HLL⟩:=zh2 HCSA hLl
   clear hI hLc hLl hlj hej hljb hfl hl2 he2 hl2b hX1 hl3 he3 hl3b hX2 hl4 he4 hch hsn hfb hTK hn1 hn2 HCSA hlt HI
   go_upto_region 6 with (go_at_call 91;refine cf.mono ?_;rintro e w5 ⟨rfl,hrd5,g5⟩;have HI5:=hide ((uh HI2).rdr (uh HRB) g5 hrd5);clear cf hrd5 g5)
   have HCS1:=hide (uh HCSH w5.drew ((uh HI5).rd.kept (zaa (zac _ _)) (Or.inl rfl)))
   have HOFF:=hide (show ∀ a:Option Addr,(∀ ad,a=some ad→w5.drew.heap.size≤ad.block)→Off a rb from fun a h ad e2 e3=>by have h9:=h ad e2;have h8:=(uh HI5).rd.lt;have:w5.drew.heap.size=w5.heap.size:=rfl;omega)
   have HFIN:=hide (show ∀ (w6 w7 W8:World) (a6 a7:Option Addr) (c6 c7:Nat),(∀ ad,a6=some ad→w5.drew.heap.size≤ad.block∧Typ w6 ad.block)→w5.drew.grownBy w6 (some rb)→Bts w7 a6 c6 X1→Bts w7 a7 c7 X2→(∀ ad,a7=some ad→w6.heap.size≤ad.block∧Typ w7 ad.block)→Rd w7 rb l4 e4→w6.grownBy w7 (some rb)→Blk W8 w7.heap.size 55 [.string TK,.slice a7 n2 c7,.bool fb]→w7.grownBy W8 none →
     W8.ownsRow w.heap.size 55 3 u5 L.length (L.flatMap ciC)∧Rws W8 3 ciC (some ⟨w7.heap.size,0,none⟩) 1 [⟨X1,a7,c7,X2,fb⟩]∧w.heap.size≤W8.heap.size ∧
     ∀ v9 w9,w9.ownsRow w.heap.size 55 3 v9 (L++[(⟨X1,a7,c7,X2,fb⟩:ChI)]).length ((L++[(⟨X1,a7,c7,X2,fb⟩:ChI)]).flatMap ciC)→W8.grownBy w9 u5.ownBlock→∃ L' : List ChI,RcI w rb v9 L' (zb0 (j+1) l1 e1).2.1 (zb0 (j+1) l1 e1).2.2 w9∧L'.map ChI.chg=(zb0 (j+1) l1 e1).1.map chOf by
    intro w6 w7 W8 a6 a7 c6 c7 q6 g6 _ b7 q7 r7 g7 hB8 g8
    have hI5:=(uh HI5).nn (zaa (zac w5 none))
    have gg:w5.drew.grownBy w7 (some rb):=zae g6 g7 (fun y e=>Or.inr e)
    have hI7:=hI5.rdr (uh HRB) gg r7
    have hI8:=hI7.nn g8
    have hx8:Bts W8 a7 c7 X2∧∀ ad,a7=some ad→rb<ad.block∧Typ W8 ad.block :=
     ⟨b7.kept g8 (fun _ e=>by cases e),fun ad e2=>⟨by have:=(q7 ad e2).1;have h9:=(uh HI5).rd.lt;have h8:=g6.size;have h7:w5.drew.heap.size=w5.heap.size:=rfl;omega,(q7 ad e2).2.gk g8 (by simp)⟩⟩
    have eci:ciC ⟨X1,a7,c7,X2,fb⟩=[.string TK,.slice a7 n2 c7,.bool fb]:=by rw[uh HTK,uh HN2];rfl
    refine ⟨hI8.row,zjy (by rw[eci];exact hB8),hI8.gb.size,fun v9 w9 ho9 g9=>⟨L++[(⟨X1,a7,c7,X2,fb⟩:ChI)],?_,?_⟩⟩
    ·rw[uh HSN]
     exact hI8.app hx8 ho9 g9
    ·rw[uh HSN,List.map_append,List.map_append,uh HLC]
     simp only[List.map_cons,List.map_nil,chOf,ChI.chg,uh HFL])
   clear HI5 HCSH HI2
   refine wp_region_noPanic ?_
   refine wp_region_held_drew (S:=fun _=>True) (by kernel_rfl) trivial (fun _ => ?_)
   refine tq 0 15 (.move (.tmp 5)) ((u5)) trivial ?_
   refine tq 1 16 (.move (.tmp 4)) ((.pointer (some ⟨rb,0,none⟩))) trivial ?_
   refine tq 4 19 (.move (.tmp 4)) ((.pointer (some ⟨rb,0,none⟩))) trivial ?_
   refine tq 6 21 (.move (.tmp 6)) ((.int .u64 (fl:Int))) trivial ?_
   (try simp only[pq])
   refine tz 7 22 (.binOp .gtr 45 (.tmp 21) (.const (.int .u64 0)) 45) ((.bool fb)) trivial ?_ (y:=(Or.inl ⟨by rfl,fun V hV=>by (have hv0:=uh HFB;go_simp)⟩))
   (try simp only[pq])
   refine rdq 2 (some 17) (.call { callee := .value (.func 92),args := #[(.tmp 16)],argTypes := #[142] }) (fun K9 hK9 => ?_)
   go_simp
   go_at_call 92
   refine (uh HCS1).mono ?_
   rintro e w6 ⟨v6,rfl,⟨a6,c6,rfl,hb6,hq6⟩,hrd6,g6⟩
   obtain ⟨HB6,HQ6,HRD6,HG6⟩:=zh4 hb6 hq6 hrd6 g6
   have HC6:=hide (zb7 hb6)
   have HO6:=hide (uh HOFF a6 (fun ad e=>(hq6 ad e).1))
   clear hb6 hq6 hrd6 g6
   rw[← uh HN1]
   go_wp2_with fail
   refine hK9.out _ _ trivial (fun _ => ?_)
   clear hK9 K9
   (try simp only[pq])
   refine wpAnyH_ready (rs:=[3,5]) (by kernel_rfl) (by simp) ?_
   refine AllReadyH.cons (o:=⟨some 18,.convert 53 9 (.tmp 17),_,_,_,_⟩) rfl (fun K9 hK9 => ?_) (AllReadyH.cons (o:=⟨some 20,.call { callee := .value (.func 92),args := #[(.tmp 19)],argTypes := #[142] },_,_,_,_⟩) rfl (fun K9 hK9 => ?_) AllReadyH.nil)
   ·have HCV:=hide (show (convert 53 9 (.slice a6 n1 c6)).run Tryz.prog w6 = .ok (.string TK) w6 by rw[uh HN1,uh HTK];exact uh HC6)
    refine zek (by rfl) 53 9 _ rfl (.slice a6 n1 c6) (.string TK) rfl (uh HCV) ?_
    refine hK9.out _ _ trivial (fun _ => ?_)
    clear hK9 K9
    (try simp only[pq])
    refine rdq 5 (some 20) (.call { callee := .value (.func 92),args := #[(.tmp 19)],argTypes := #[142] }) (fun K9 hK9 => ?_)
    go_simp
    go_at_call 92
    refine (uh HCS2 w6 (uh HRD6)).mono ?_
    rintro e w7 ⟨v7,rfl,⟨a7,c7,rfl,hb7,hq7⟩,hrd7,g7⟩
    obtain ⟨HB7,HQ7,HRD7,HG7⟩:=zh4 hb7 hq7 hrd7 g7
    have HB67:=hide ((uh HB6).kept g7 (fun y e=>by cases e;exact uh HO6))
    clear hb7 hq7 hrd7 g7
    rw[← uh HN2]
    go_wp2_with fail
    refine hK9.out _ _ trivial (fun _ => ?_)
    clear hK9 K9
    refine tz 8 23 (.build 55 #[(0,(.tmp 18)),(1,(.tmp 20)),(2,(.tmp 22))]) ((.agg #[.string TK,.slice a7 n2 c7,.bool fb])) trivial ?_ (y:=(zb4 (by rfl) _ _ rfl _ (Eq.trans (b:=Tryz.prog.built 55 [(0,.string TK),(1,.slice a7 n2 c7),(2,.bool fb)]) (by kernel_rfl) (zg9 _ _ _ _ _))))
    (try simp only[pq])
    refine rdq 9 (some 24) (.buildSlice 34 1 #[(0,(.tmp 23))]) (fun K9 hK9 => ?_)
    obtain ⟨W8,hW8,hB8,g8⟩:=zah w7 55 [.string TK,.slice a7 n2 c7,.bool fb]
    refine zb3 (by rfl) 34 _ rfl (.agg #[.string TK,.slice a7 n2 c7,.bool fb]) _ rfl (zn5 _ _ _ _ _ _) ?_
    rw[← show W8=w7.alloc (.cells #[.string TK,.slice a7 n2 c7,.bool fb] 55) from hW8]
    obtain ⟨HB8,HG8⟩:=zh2 hB8 g8
    clear hB8 g8 hW8
    refine hK9.out _ _ trivial (fun _ => ?_)
    clear hK9 K9
    (try simp only[pq])
    obtain ⟨HO8,HX8,HF8⟩:=uh HFIN w6 w7 W8 a6 a7 c6 c7 (uh HQ6) (uh HG6) (uh HB67) (uh HB7) (uh HQ7) (uh HRD7) (uh HG7) (uh HB8) (uh HG8)
    refine rdq 10 (some 25) (.call { callee := .builtin .append,args := #[(.tmp 15),(.tmp 24)],argTypes := #[34,34] }) (fun K9 hK9 => ?_)
    refine zdn (by rfl) _ _ rfl w.heap.size u5 L [⟨X1,a7,c7,X2,fb⟩] rfl HO8 (some ⟨w7.heap.size,0,none⟩) 1 1 rfl rfl HX8 (uh HLB) HF8.1 ?_
    intro v9 w9 ho9 g9
    have HI9:=hide (HF8.2 v9 w9 ho9 g9)
    clear ho9 g9 HO8 HX8 HF8
    refine hK9.out _ _ trivial (fun _ => ?_)
    clear hK9 K9
    refine tq 11 5 (.assign (.tmp 25)) ((v9)) trivial ?_
    (try simp only[pq])
    refine wpAnyH_done (by kernel_rfl) ?_ _
    refine NoPanic.normal ?_
    go_wp2
    go_roundw
    case rel=>exact ⟨j+1,by go_num,by omega,uh HI9⟩
    case measure=>simp[intOf];omega
   ·go_simp
    go_at_call 92
    refine (uh HCS2 w6 (uh HRD6)).mono ?_
    rintro e w7 ⟨v7,rfl,⟨a7,c7,rfl,hb7,hq7⟩,hrd7,g7⟩
    obtain ⟨HB7,HQ7,HRD7,HG7⟩:=zh4 hb7 hq7 hrd7 g7
    have HB67:=hide ((uh HB6).kept g7 (fun y e=>by cases e;exact uh HO6))
    clear hb7 hq7 hrd7 g7
    rw[← uh HN2]
    go_wp2_with fail
    refine hK9.out _ _ trivial (fun _ => ?_)
    clear hK9 K9
    (try simp only[pq])
    refine rdq 3 (some 18) (.convert 53 9 (.tmp 17)) (fun K9 hK9 => ?_)
    have HCV:=hide (show (convert 53 9 (.slice a6 n1 c6)).run Tryz.prog w7 = .ok (.string TK) w7 by rw[uh HN1,uh HTK];exact zb7 (uh HB67))
    refine zek (by rfl) 53 9 _ rfl (.slice a6 n1 c6) (.string TK) rfl (uh HCV) ?_
    refine hK9.out _ _ trivial (fun _ => ?_)
    clear hK9 K9
    refine tz 8 23 (.build 55 #[(0,(.tmp 18)),(1,(.tmp 20)),(2,(.tmp 22))]) ((.agg #[.string TK,.slice a7 n2 c7,.bool fb])) trivial ?_ (y:=(zb4 (by rfl) _ _ rfl _ (Eq.trans (b:=Tryz.prog.built 55 [(0,.string TK),(1,.slice a7 n2 c7),(2,.bool fb)]) (by kernel_rfl) (zg9 _ _ _ _ _))))
    (try simp only[pq])
    refine rdq 9 (some 24) (.buildSlice 34 1 #[(0,(.tmp 23))]) (fun K9 hK9 => ?_)
    obtain ⟨W8,hW8,hB8,g8⟩:=zah w7 55 [.string TK,.slice a7 n2 c7,.bool fb]
    refine zb3 (by rfl) 34 _ rfl (.agg #[.string TK,.slice a7 n2 c7,.bool fb]) _ rfl (zn5 _ _ _ _ _ _) ?_
    rw[← show W8=w7.alloc (.cells #[.string TK,.slice a7 n2 c7,.bool fb] 55) from hW8]
    obtain ⟨HB8,HG8⟩:=zh2 hB8 g8
    clear hB8 g8 hW8
    refine hK9.out _ _ trivial (fun _ => ?_)
    clear hK9 K9
    (try simp only[pq])
    obtain ⟨HO8,HX8,HF8⟩:=uh HFIN w6 w7 W8 a6 a7 c6 c7 (uh HQ6) (uh HG6) (uh HB67) (uh HB7) (uh HQ7) (uh HRD7) (uh HG7) (uh HB8) (uh HG8)
    refine rdq 10 (some 25) (.call { callee := .builtin .append,args := #[(.tmp 15),(.tmp 24)],argTypes := #[34,34] }) (fun K9 hK9 => ?_)
    refine zdn (by rfl) _ _ rfl w.heap.size u5 L [⟨X1,a7,c7,X2,fb⟩] rfl HO8 (some ⟨w7.heap.size,0,none⟩) 1 1 rfl rfl HX8 (uh HLB) HF8.1 ?_
    intro v9 w9 ho9 g9
    have HI9:=hide (HF8.2 v9 w9 ho9 g9)
    clear ho9 g9 HO8 HX8 HF8
    refine hK9.out _ _ trivial (fun _ => ?_)
    clear hK9 K9
    refine tq 11 5 (.assign (.tmp 25)) ((v9)) trivial ?_
    (try simp only[pq])
    refine wpAnyH_done (by kernel_rfl) ?_ _
    refine NoPanic.normal ?_
    go_wp2
    go_roundw
    case rel=>exact ⟨j+1,by go_num,by omega,uh HI9⟩
    case measure=>simp[intOf];omega
  ·have hjN:j=N:=by omega
   have hji:¬ (j:Int)<(N:Int):=by omega
   subst hjN
   have hLR:L.map ChI.chg=zb9 b:=by rw[uh HRL];exact hLc
   obtain ⟨lo,lc,hv,hrw,hlo⟩:=Rws.own ciC hI.row (fun _ _=>rfl)
   subst hv
   have hcs:CsI wr lo lc L:=⟨hrw,fun x hx=>(hI.val x hx).1⟩
   have cm:=zf9 wr lo lc L hcs (by omega)
   obtain ⟨y,hy⟩:∃ y,y=mayB (L.map ChI.chg):=⟨_,rfl⟩
   rw[← hy] at cm
   obtain ⟨nl,hnl⟩:∃ n,n=L.length:=⟨_,rfl⟩
   rw[← hnl] at cm ⊢
   have hval:∀ x∈L,∀ ad,x.bo=some ad→w.heap.size≤ad.block:=fun x hx ad e=>by have:=((hI.val x hx).2 ad e).1;have:=uh HRB;have:=(uh HG1).size;omega
   have HCS:=hide hcs
   have HGW:=hide hI.gb
   obtain ⟨HLO,HVA,HNL,HY,HLR⟩:=zh5 hlo hval hnl hy hLR
   clear HI hI hLc hLl hlj hej hljb hlt hrw hlo hcs hy hnl hval hLR
   cases y
   ·go_wp2_with (go_at_call 37;refine cm.mono ?_;rintro e w3 ⟨rfl,g3⟩;have HG3:=hide g3;clear cm g3)
    go_ret2
    refine ⟨L,lo,lc,?_,(uh HCS).kept (uh HG3),uh HLR,uh HLO,uh HVA,tn (uh HGW) (uh HG3)⟩
    rw[← uh HLR,← uh HY,← uh HNL]
    rfl
   ·have hmay:=(za5 _).1 (uh HY).symm
    have HMAY:=hide hmay
    clear hmay
    go_wp2_with fail
    refine cm.mono ?_
    rintro e w3 ⟨rfl,g3⟩
    have cl:=zk3 w3 lo lc L ((uh HCS).kept g3) (uh HMAY)
    rw[← uh HNL] at cl
    have HG3:=hide (tn (uh HGW) g3)
    have HCS3:=hide ((uh HCS).kept g3)
    clear cm g3
    go_wp2_with fail
    refine cl.mono ?_
    rintro e w4 ⟨bo,bc,rfl,hb4,_,g4⟩
    have hbb:=((uh HBB).kept (tn (uh HG3) g4) (fun _ e=>by cases e))
    have ce:=zg6 w4 bo ao bc c _ b hb4 hbb
    rw[← uh HNB] at ce
    obtain ⟨z,hz⟩:∃ z,z=decide (recB (L.map ChI.chg)=b):=⟨_,rfl⟩
    obtain ⟨q,hq⟩:∃ q,q=(recB (L.map ChI.chg)).length:=⟨_,rfl⟩
    rw[← hz,← hq] at ce
    rw[← hq]
    obtain ⟨HZ,HG4⟩:=zh2 hz g4
    clear cl hb4 g4 hbb hz hq
    go_wp2_with (go_at_call 75;refine ce.mono ?_;rintro e w5 ⟨rfl,e5⟩;subst w5;clear ce)
    go_ret2
    refine ⟨L,lo,lc,?_,(uh HCS3).kept (uh HG4),uh HLR,uh HLO,uh HVA,tn (uh HG3) (uh HG4)⟩
    rw[← uh HLR,← uh HY,← uh HNL,← uh HZ]
    simp
end Go.Proofs.YtoilcpdhhlcidaaGreatDoor
