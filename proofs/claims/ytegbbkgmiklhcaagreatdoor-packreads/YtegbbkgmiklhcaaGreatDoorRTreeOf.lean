/- Lemmas. -/
import Derived.Test.YtegbbkgmiklhcaaGreatDoorRTell
import Derived.Test.YtegbbkgmiklhcaaGreatDoorORdP
namespace Go.Proofs.YtegbbkgmiklhcaaGreatDoor
open Go.RowKit
theorem zvm (w:World) (xs:List UInt8) (hx:xs.length=32):(Op.equalIn 9999 47 (.agg (xs.map bv).toArray) (.agg (xs.map bv).toArray)).run Tryz.prog w = .ok true w:=by
 have h:(Op.equalIn 9999 47 (.agg (xs.map bv).toArray) (.agg (xs.map bv).toArray)).run Tryz.prog w = .ok (xs == xs) w:=run_equalIn_bytes w 9997 47 5 32 Tryz.underlying47 Tryz.underlying5 za3 xs xs hx hx
 rw[h];simp
theorem znj:(Tryz.prog.info? 135).map (fun i=>(i.zero,i.size,i.bytes))=some (some (.agg (reC ⟨[],false,[]⟩).toArray),3,40):=by kernel_rfl
theorem zff {w:World} {ops:Array Oper} {rest:List Oper} {o:Oper} {a:Act} {Q:Exit→Act→World→Prop} (hgd:o.guard=none) (s x:Operand)
  (ho:o.op = .call { callee := .builtin .append,args := #[s,x],argTypes := #[96,96] })
  (base:Nat) (v:Value) (n:Nat) (xs:List Value) (hs:a.eval s=v) (hown:w.ownsRow base 135 3 v n xs) (p:Nat) (EC:List Value) (hB:Blk w p 135 EC) (hEl:EC.length=3) (hE1:∀ u∈EC,u.oneCell'=true)
  (hx:a.eval x = .slice (some ⟨p,0,none⟩) 1 1) (hn:n≤100000) (hbase:base≤w.heap.size)
  (h:∀ v' w',w'.ownsRow base 135 3 v' (n+1) (xs++EC)→w.grownBy w' v.ownBlock→wpList Tryz.prog ops Q rest (a.put o.dst v') w'):wpList Tryz.prog ops Q (o::rest) a w:=by
 obtain ⟨i0,hi,hz0,hz1,hz2⟩:=info_parts znj
 exact wpList_append_own w hgd s x 96 ho base 135 i0 _ 3 40 Tryz.underlying96 hi hz0 hz1 hz2 rfl (by decide) v n xs hs hown ⟨p,0,none⟩ 1 1 EC hx (by rw[hEl]) (fun j u hu=>World.news_of_block hB j u (by simpa using hu)) hE1 (by unfold maxLen;omega) (by omega) hbase (fun v' w' q1 q2 _=>h v' w' q1 q2)
theorem zgm {w a:World} {base n:Nat} {v:Value} {xs:List Value} (h:w.ownsRow base 135 3 v n xs) {r:Option Nat} (g:w.grownBy a r) (hr:∀ x,r=some x→x<base):a.ownsRow base 135 3 v n xs :=
 h.kept g (by
  by_cases e:v.ownBlock=none
  ·exact Or.inl e
  ·refine Or.inr fun e2 => ?_
   cases hv:v.ownBlock with
   | none=>exact e hv
   | some b =>
    have h1:=(h.lt b hv).1
    have h2:=hr b (by rw[← e2,hv])
    omega)
theorem ztt (s t:ByteArray) (b:Bool) (V:World):(Instr.buildSlice 96 1 #[(0,.agg #[.string s,.bool b,.string t])]).run Tryz.prog V = .ok (.slice (some ⟨V.heap.size,0,none⟩) 1 1) (V.alloc (.cells #[.string s,.bool b,.string t] 135)):=by kernel_rfl
def rtT (k:Int) (d:List UInt8):Int × List EntL:=if k=2 then (if za4 (zbo d)=(0,d) then (0,zbo d) else (11,[])) else (2,[])
theorem zry (s:List UInt8 × Int) (j:Nat):(runR s j).1.length=j:=by
 induction j with
 | zero=>rfl
 | succ j ih=>rw[runR,zgz];simp[ih]
theorem zjq (s:List UInt8 × Int) (j:Nat):(runR s j).2.1.length≤s.1.length:=by
 induction j with
 | zero=>exact Nat.le_refl _
 | succ j ih =>
  rw[runR,zgz]
  exact Nat.le_trans (zca _ _ _) (Nat.le_trans (za5 _ _) (Nat.le_trans (za9 _ _ _) ih))
theorem znk (s:List UInt8 × Int) (j:Nat):∀ e∈(runR s j).1,e.name.length≤s.1.length∧e.id.length≤32:=by
 induction j with
 | zero=>intro e he;simp[runR] at he
 | succ j ih =>
  intro e he
  have h0:=zjq s j
  rw[runR,zgz] at he
  simp only[List.mem_append,List.mem_singleton] at he
  rcases he with he | rfl
  ·exact ih e he
  ·exact ⟨Nat.le_trans (zbz _ _) (Nat.le_trans (za9 _ _ _) h0),zfq _ _ 32⟩
theorem znl {s:List UInt8 × Int} {j:Nat} {es:List EntL} {l' : List UInt8} {e' : Int} (h:runR s j=(es,l',e')) {v1:Nat} {l1:List UInt8} {e1:Int} (h1:numS l' e' 1=(v1,l1,e1)) {x l2:List UInt8} {e2:Int} (h2:zal l1 e1=(x,l2,e2)) {y l3:List UInt8} {e3:Int} (h3:rawS l2 e2 32=(y,l3,e3)) :
  runR s (j+1)=(es++[⟨x,decide (v1=1),y⟩],l3,e3):=by
 rw[runR,h,zgz]
 simp only[h1,h2,h3]
set_option maxRecDepth 100000 in
set_option maxHeartbeats 8000000 in
theorem zkz (w:World) (k:Int) (d:List UInt8) (hd:d.length≤100000):Calls Tryz.prog 48 #[.agg #[.int .i64 k,.string (str d)]] w fun e w'=>∃ v y,e = .returned (.tuple #[v,.int .i64 y])∧y=(rtT k d).1∧w'.ownsRow w.heap.size 135 3 v (rtT k d).2.length ((rtT k d).2.flatMap reC)∧w.grownBy w' none:=by
 obtain ⟨SD,hSD⟩:∃ S,S=str d:=⟨_,rfl⟩
 obtain ⟨RT,hRT⟩:∃ r,r=rtT k d:=⟨_,rfl⟩
 rw[← hRT,← hSD]
 by_cases hk:k=2
 ·subst hk
  have hrt:RT=(if za4 (zbo d)=(0,d) then (0,zbo d) else (11,[])):=by rw[hRT];simp[rtT]
  obtain ⟨⟨n,l0,e0⟩,h1⟩:∃ a,numS d 0 2=a:=⟨_,rfl⟩
  have hsame:=fun j => @zra d j
  have hll:=za9 d 0 2
  have hn6:=zlq d 0
  rw[h1] at hsame hll hn6
  simp only at hsame hll hn6
  have c1:∀ V,Calls Tryz.prog 31 #[.agg #[.string SD,.int .i64 0],.int .i64 2] V fun r w'=>r = .returned (.tuple #[.agg #[.string (str l0),.int .i64 e0],.int .u64 (n:Int)])∧V.grownBy w' none:=fun V=>by
   have:=zc2 V d 0 2 (by omega)
   rw[h1,← hSD] at this
   exact this
  obtain ⟨T0,hT0⟩:∃ T,T=str l0:=⟨_,rfl⟩
  rw[← hT0] at c1
  obtain ⟨HT0,HRT,HSA,HSD⟩:=zh4 hT0 hrt hsame hSD
  have hl0:l0.length≤100000:=by omega
  clear hRT hrt hsame hSD h1 hll hT0 hd
  obtain ⟨E1,hE1,oE,gE⟩:∃ W,W=w.alloc (.cells #[.int .i64 2,.string SD] 44)∧Blk W w.heap.size 44 [.int .i64 2,.string SD]∧w.grownBy W none:=zag w _ _
  have HE1:=hide hE1
  clear hE1
  go_enter Tryz.func48,Tryz.ntmps48
  go_wp2_with fail
  rw[← uh HE1]
  refine (c1 _).mono ?_
  rintro e w2 ⟨rfl,g2⟩
  have hs2:w.heap.size<w2.heap.size:=(oE.kept g2 (by simp)).lt
  obtain ⟨W3,hW3,p3,g3⟩:∃ W,W=w2.alloc (.cells #[.string T0,.int .i64 e0] 75)∧Blk W w2.heap.size 75 [.string T0,.int .i64 e0]∧w2.grownBy W none:=zag w2 _ _
  have HO3:=hide ((oE.kept g2 (by simp)).kept g3 (by simp))
  have HG3:=hide (tn (tn gE g2) g3)
  have HW3:=hide hW3
  have HP3:Hid (Blk W3 w2.heap.size 75 [.string (str l0),.int .i64 e0]):=by rw[← uh HT0];exact p3
  have hs3:w.heap.size≤W3.heap.size:=(uh HG3).size
  clear c1 oE gE g2 g3 hW3 p3
  go_wp2_with (rw[← uh HW3])
  go_loopw [6,7] (fun v i wr=>∃ (j:Nat) (es:List EntL) (l' : List UInt8) (e' : Int),i = .int .u64 (j:Int)∧j≤n∧Hid (runR (l0,e0) j=(es,l',e'))∧Hid (∀ i,i<j→(runR (l0,e0) i).2.2=0)∧wr.ownsRow W3.heap.size 135 3 v es.length (es.flatMap reC)∧Hid (Blk wr w2.heap.size 75 [.string (str l'),.int .i64 e'])∧Hid (Blk wr w.heap.size 44 [.int .i64 2,.string SD])∧w.grownBy wr none∧W3.heap.size≤wr.heap.size) (fun _ i _=>n - (intOf i).toNat)
  case atStart=>exact ⟨0,[],l0,e0,rfl,Nat.zero_le _,rfl,(fun i hi=>by omega),World.ownsRow_nil _ _ _ _,HP3,HO3,uh HG3,Nat.le_refl _⟩
  case round =>
   obtain ⟨j,es,l',e',rfl,hj,HE,HALL,ho,HPR,HOB,hg,hsz⟩:=hrel
   have hlf:l'.length≤100000:=by have:=zjq (l0,e0) j;rw[uh HE] at this;exact Nat.le_trans this hl0
   have hel:es.length=j:=by have:=zry (l0,e0) j;rw[uh HE] at this;exact this
   have p0:=(uh HPR).cell 0
   have p1:=(uh HPR).cell 1
   simp only[List.getElem?_cons_zero,List.getElem?_cons_succ] at p0 p1
   by_cases hgo:j<n∧e'=0
   ·obtain ⟨hlt,he0⟩:=hgo
    subst he0
    have hsl1:=za9 l' 0 1
    obtain ⟨⟨v1,l1,e1⟩,h1⟩:∃ a,numS l' 0 1=a:=⟨_,rfl⟩
    rw[h1] at hsl1
    have hsl2:=za5 l1 e1
    obtain ⟨⟨x,l2,e2⟩,h2⟩:∃ a,zal l1 e1=a:=⟨_,rfl⟩
    rw[h2] at hsl2
    obtain ⟨⟨y,l3,e3⟩,h3⟩:∃ a,rawS l2 e2 32=a:=⟨_,rfl⟩
    simp only at hsl1 hsl2
    have hrd:=znl (uh HE) h1 h2 h3
    have c1:∀ V,Calls Tryz.prog 31 #[.agg #[.string (str l'),.int .i64 0],.int .i64 1] V fun r w'=>r = .returned (.tuple #[.agg #[.string (str l1),.int .i64 e1],.int .u64 (v1:Int)])∧V.grownBy w' none:=fun V=>by
     have:=zc2 V l' 0 1 (by omega)
     rw[h1] at this
     exact this
    have c2:∀ V,Calls Tryz.prog 32 #[.agg #[.string (str l1),.int .i64 e1]] V fun r w'=>r = .returned (.tuple #[.agg #[.string (str l2),.int .i64 e2],.string (str x)])∧V.grownBy w' none:=fun V=>by
     have:=zfw V l1 e1 (by omega)
     rw[h2] at this
     exact this
    have c3:∀ V,Calls Tryz.prog 57 #[.agg #[.string (str l2),.int .i64 e2],.int .i64 32] V fun r w'=>r = .returned (.tuple #[.agg #[.string (str l3),.int .i64 e3],.string (str y)])∧V.grownBy w' none:=fun V=>by
     have:=zfb V l2 e2 32 (by omega)
     rw[h3] at this
     exact this
    obtain ⟨D,hD⟩:∃ D,D=decide (v1=1):=⟨_,rfl⟩
    have hD2:((v1:Int) == 1)=D:=by rw[hD];by_cases q:v1=1 <;> simp[q] <;> omega
    rw[← hD] at hrd
    obtain ⟨TL,hTL⟩:∃ T,T=str l':=⟨_,rfl⟩
    obtain ⟨T1,hT1⟩:∃ T,T=str l1:=⟨_,rfl⟩
    obtain ⟨T2,hT2⟩:∃ T,T=str l2:=⟨_,rfl⟩
    obtain ⟨T3,hT3⟩:∃ T,T=str l3:=⟨_,rfl⟩
    obtain ⟨TX,hTX⟩:∃ T,T=str x:=⟨_,rfl⟩
    obtain ⟨TY,hTY⟩:∃ T,T=str y:=⟨_,rfl⟩
    have hrec:reC ⟨x,D,y⟩=[.string TX,.bool D,.string TY]:=by rw[hTX,hTY];rfl
    have hfl:(es++[(⟨x,D,y⟩:EntL)]).flatMap reC=es.flatMap reC++[.string TX,.bool D,.string TY]:=by rw[← hrec];simp
    rw[← hTL] at c1 p0
    rw[← hT1] at c1 c2
    rw[← hT2] at c2 c3
    rw[← hT3] at c3
    rw[← hTX] at c2
    rw[← hTY] at c3
    have hall2:∀ i,i<j+1→(runR (l0,e0) i).2.2=0:=by
     intro i hi
     by_cases h:i<j
     ·exact uh HALL i h
     ·have:i=j:=by omega
      rw[this,uh HE]
    obtain ⟨HRD,HFL,HAL,HT3⟩:=zh4 hrd hfl hall2 hT3
    have hj9:es.length≤100000:=by omega
    clear hrd hfl hall2 hD hTL hT1 hT2 hT3 hTX hTY hrec h1 h2 h3 hsl1 hsl2 HALL HE hel hlf
    go_wp2_with fail
    refine (c1 _).mono ?_
    rintro e w4 ⟨rfl,g4⟩
    clear c1
    go_wp2_with fail
    refine (c2 _).mono ?_
    rintro e w5 ⟨rfl,g5⟩
    clear c2
    go_wp2_with fail
    refine (c3 _).mono ?_
    rintro e w6 ⟨rfl,g6⟩
    have gA:=tn (zad (tn (zad g4 _) g5) _) g6
    obtain ⟨W7,hW7,b7,g7⟩:∃ W,W=w6.alloc (.cells #[.string T3,.int .i64 e3] 75)∧Blk W w6.heap.size 75 [.string T3,.int .i64 e3]∧w6.grownBy W none:=zag w6 _ _
    have gB:=tn gA g7
    have p7:=(uh HPR).kept gB (by simp)
    have o7:=(uh HOB).kept gB (by simp)
    have r7:=zgm ho gB (fun x e=>by cases e)
    have G7:=tn hg gB
    have hs7:=Nat.le_trans hsz gB.size
    have a0:=p7.cell 0
    have a1:=p7.cell 1
    have za0:=p7.fz 0
    have za1:=p7.fz 1
    have b0:=b7.cell 0
    have b1:=b7.cell 1
    simp only[List.getElem?_cons_zero,List.getElem?_cons_succ] at a0 a1 b0 b1
    obtain ⟨W8,hW8⟩:∃ W,W=(W7.setCell ⟨w2.heap.size,0,none⟩ (.string T3)).setCell ⟨w2.heap.size,1,none⟩ (.int .i64 e3):=⟨_,rfl⟩
    have p8:Blk W8 w2.heap.size 75 [.string T3,.int .i64 e3]:=by rw[hW8];exact (p7.set 0 _).set 1 _
    have o8:Blk W8 w.heap.size 44 [.int .i64 2,.string SD]:=by rw[hW8];exact (o7.other _ _ (by simp;omega)).other _ _ (by simp;omega)
    have r8:W8.ownsRow W3.heap.size 135 3 u6 es.length (es.flatMap reC):=by rw[hW8];exact zai (zai r7 p7 (by decide) 0 _) (p7.set 0 _) (by decide) 1 _
    have G8:w.grownBy W8 none:=by rw[hW8];exact zab (zab G7 _ _ (Or.inl (by simp;omega))) _ _ (Or.inl (by simp;omega))
    have hs8:W3.heap.size≤W8.heap.size:=by rw[hW8];simpa[World.setCell] using hs7
    have hbs:=ztt TX TY D W8
    obtain ⟨W9,hW9,b9,g9⟩:∃ W,W=W8.alloc (.cells #[.string TX,.bool D,.string TY] 135)∧Blk W W8.heap.size 135 [.string TX,.bool D,.string TY]∧W8.grownBy W none:=zag W8 _ _
    have HR9:=hide (zgm r8 g9 (fun x e=>by cases e))
    have HP9:=hide (p8.kept g9 (by simp))
    have HO9:=hide (o8.kept g9 (by simp))
    have HG9:=hide (tn G8 g9)
    have HS9:=hide (Nat.le_trans hs8 g9.size)
    obtain ⟨HW7,HW8,HW9,HB9,HBS⟩:=zh5 hW7 hW8 hW9 b9 hbs
    clear c3 gA gB g4 g5 g6 g7 g9 hW7 hW8 hW9 b7 b9 p7 o7 r7 G7 hs7 p8 o8 r8 G8 hs8 hbs ho hg hsz HPR HOB p0 p1
    go_wp2_with (first
     | (refine zaw rfl 96 _ rfl (.agg #[.string TX,.bool D,.string TY]) _ rfl (uh HBS) ?_;rw[← uh HW9])
     | (refine zff rfl _ _ rfl W3.heap.size _ _ _ rfl (uh HR9) _ _ (uh HB9) rfl (by intro u hu;simp only[List.mem_cons,List.not_mem_nil,or_false] at hu;rcases hu with rfl | rfl | rfl <;> rfl) rfl hj9 (uh HS9) ?_;intro va wa hoa ga;have HOA:=hide hoa;have HGA:=hide (zae (uh HG9) ga (fun x e=>Or.inl (Nat.le_trans hs3 ((uh HR9).lt x e).1)));have HPA:=hide ((uh HP9).kept ga (zao (uh HR9) (uh HP9) (by decide)));have HOB2:=hide ((uh HO9).kept ga (zao (uh HR9) (uh HO9) (by decide)));have HSA2:=hide (Nat.le_trans (uh HS9) ga.size);clear hoa ga)
     | (rw[← uh HW8])
     | (rw[← uh HW7]))
    go_roundw
    case rel =>
     refine ⟨j+1,_,l3,e3,by go_num,by omega,HRD,HAL,?_,?_,HOB2,uh HGA,uh HSA2⟩
     ·rw[List.length_append,uh HFL]
      exact uh HOA
     ·rw[← uh HT3]
      exact HPA
    case measure=>simp[intOf];omega
   ·have hstop:zoy (fun i=>(runR (l0,e0) i).2.2) n j:=by
     refine ⟨hj,uh HALL,?_⟩
     by_cases h:j=n
     ·exact Or.inl h
     ·right
      show (runR (l0,e0) j).2.2≠0
      rw[uh HE]
      intro h2
      exact hgo ⟨by omega,h2⟩
    obtain ⟨hs1,hs2b⟩:=uh HSA j hstop
    rw[uh HE] at hs1 hs2b
    simp only at hs1 hs2b
    obtain ⟨eo,ec,hv,hRe⟩:=Rens.own ho
    subst hv
    have hsmall:=znk (l0,e0) j
    rw[uh HE] at hsmall
    have ct:=zkx wr eo ec es hRe (fun e he=>Nat.le_trans (hsmall e he).1 hl0) (fun e he=>Nat.le_trans (hsmall e he).2 (by omega)) (by omega)
    obtain ⟨r,hr⟩:∃ r,r=za4 es:=⟨_,rfl⟩
    obtain ⟨Dn,hDn⟩:∃ D,D=zb4 l' e':=⟨_,rfl⟩
    have c5:∀ V,Calls Tryz.prog 33 #[.agg #[.string (str l'),.int .i64 e']] V fun r w'=>r = .returned (.int .i64 Dn)∧V.grownBy w' none:=fun V=>by rw[hDn];exact zfc V l' e' (by omega)
    rw[← hr,← hDn] at hs1
    rw[← hr] at ct
    have hbad:¬ (Dn=0∧r=(0,d))→RT=(11,[]):=fun h=>by rw[uh HRT,if_neg (fun h2=>h (hs1.2 h2))]
    have hgood:Dn=0∧r=(0,d)→RT=(0,es):=fun h=>by
     have h2:=hs1.1 h
     rw[uh HRT,if_pos h2,hs2b h2]
    obtain ⟨TL,hTL⟩:∃ T,T=str l':=⟨_,rfl⟩
    rw[← hTL] at c5 p0
    obtain ⟨m,hm⟩:∃ m,m=es.length:=⟨_,rfl⟩
    rw[← hm] at ct
    rw[← hm]
    obtain ⟨HM,HO,HBAD,HGOOD⟩:=zh4 hm ho hbad hgood
    have hcond:¬ j<n∨(j<n∧e'≠0):=by
     by_cases h:j<n
     ·exact Or.inr ⟨h,fun h2=>hgo ⟨h,h2⟩⟩
     ·exact Or.inl h
    have HTL:=hide hTL
    clear hgo hstop hs1 hs2b hRe hsmall hr hDn hbad hgood hTL hm ho HALL HE hel hlf
    rcases hcond with hA | ⟨hA,hB⟩
    ·skip
     go_wp2_with fail
     refine ct.mono ?_
     rintro e w4 ⟨rfl,g4⟩
     obtain ⟨K,hK⟩:∃ K:Int,K=(if r.1=0 then 2 else 0):=⟨_,rfl⟩
     obtain ⟨x,hx⟩:∃ x:Int,x=r.1:=⟨_,rfl⟩
     obtain ⟨SS,hSS⟩:∃ S,S=str r.2:=⟨_,rfl⟩
     rw[← hK,← hx,← hSS]
     obtain ⟨HK,HX,HSS⟩:=zh3 hK hx hSS
     clear hK hx hSS
     obtain ⟨W5,hW5,j5,g5⟩:∃ W,W=w4.alloc (.cells #[.int .i64 K,.string SS] 44)∧Blk W w4.heap.size 44 [.int .i64 K,.string SS]∧w4.grownBy W none:=zag w4 _ _
     have gg:=tn g4 g5
     have p5:=(uh HPR).kept gg (by simp)
     have q0:=p5.cell 0
     have q1:=p5.cell 1
     simp only[List.getElem?_cons_zero,List.getElem?_cons_succ] at q0 q1
     rw[← uh HTL] at q0
     obtain ⟨HW5,HJ5,HG5⟩:=zh3 hW5 j5 gg
     clear ct hW5 j5 gg g4 g5 p5 p0 p1
     go_wp2_with (rw[← uh HW5])
     refine (c5 _).mono ?_
     rintro e w6 ⟨rfl,g6⟩
     have gf:=tn (uh HG5) g6
     have o6:=(uh HOB).kept gf (by simp)
     have j6:=(uh HJ5).kept g6 (by simp)
     have HGF:=hide (tn hg gf)
     have HOF:=hide (zbs (zgm (uh HO) gf (fun x e=>by cases e)) hs3)
     have o0:=o6.cell 0
     have o1:=o6.cell 1
     have j0:=j6.cell 0
     have j1:=j6.cell 1
     simp only[List.getElem?_cons_zero,List.getElem?_cons_succ] at o0 o1 j0 j1
     have hneq:(binOp .neq 44 (.agg #[.int .i64 K,.string SS]) (.agg #[.int .i64 2,.string SD])).run Tryz.prog w6 = .ok (.bool (!(K == 2 && r.2 == d))) w6:=by
      have:=zfe w6 K 2 r.2 d
      rwa [← uh HSS,← uh HSD] at this
     clear c5 q0 q1 o6 j6 HJ5 HW5 gf
     by_cases hD0:Dn=0
     ·subst hD0
      by_cases hx0:x=0
      ·have hK4:K=2:=by rw[uh HK,if_pos (by rw[← uh HX];exact hx0)]
       subst hK4
       have hr0:r.1=0:=by rw[← uh HX];exact hx0
       by_cases hrd:r.2=d
       ·have hres:=uh HGOOD ⟨rfl,by rw[← hrd,← hr0]⟩
        have HRS:=hide hres
        rw[show (!((2:Int) == 2 && r.2 == d))=false by simp[hrd]] at hneq
        clear hres hrd hr0 HBAD HGOOD
        subst hx0
        go_wp2_with (refine zbr (by rfl) _ _ _ _ rfl _ _ _ rfl rfl zbk hneq ?_)
        refine bodyPost_ret (v := .tuple #[.slice eo m ec,.int .i64 0]) (by simp[results,Tryz.results48,go_sem]) rfl ?_
        refine ⟨_,0,rfl,by rw[uh HRS],?_,uh HGF⟩
        rw[uh HRS,uh HM]
        exact uh HOF
       ·have hres:=uh HBAD (fun h=>hrd (by rw[h.2]))
        have HRS:=hide hres
        rw[show (!((2:Int) == 2 && r.2 == d))=true by simp[hrd]] at hneq
        clear hres hrd hr0 HBAD HGOOD
        subst hx0
        go_wp2_with (refine zbr (by rfl) _ _ _ _ rfl _ _ _ rfl rfl zbk hneq ?_)
        refine bodyPost_ret (v := .tuple #[.slice none 0 0,.int .i64 11]) (by simp[results,Tryz.results48,go_sem]) rfl ?_
        exact ⟨_,11,rfl,by rw[uh HRS],by rw[uh HRS];exact World.ownsRow_nil _ _ _ _,uh HGF⟩
      ·have hx1:(x == 0)=false:=by simpa using hx0
       have hres:=uh HBAD (fun h=>hx0 (by rw[uh HX,h.2]))
       have HRS:=hide hres
       clear hres HBAD HGOOD hneq
       go_wp2
       refine bodyPost_ret (v := .tuple #[.slice none 0 0,.int .i64 11]) (by simp[results,Tryz.results48,go_sem]) rfl ?_
       exact ⟨_,11,rfl,by rw[uh HRS],by rw[uh HRS];exact World.ownsRow_nil _ _ _ _,uh HGF⟩
     ·have hD1:(Dn == 0)=false:=by simpa using hD0
      have hres:=uh HBAD (fun h=>hD0 h.1)
      have HRS:=hide hres
      clear hres HBAD HGOOD hneq
      go_wp2
      refine bodyPost_ret (v := .tuple #[.slice none 0 0,.int .i64 11]) (by simp[results,Tryz.results48,go_sem]) rfl ?_
      exact ⟨_,11,rfl,by rw[uh HRS],by rw[uh HRS];exact World.ownsRow_nil _ _ _ _,uh HGF⟩
    ·have hB2:(e' == 0)=false:=by simpa using hB
     go_wp2_with fail
     refine ct.mono ?_
     rintro e w4 ⟨rfl,g4⟩
     obtain ⟨K,hK⟩:∃ K:Int,K=(if r.1=0 then 2 else 0):=⟨_,rfl⟩
     obtain ⟨x,hx⟩:∃ x:Int,x=r.1:=⟨_,rfl⟩
     obtain ⟨SS,hSS⟩:∃ S,S=str r.2:=⟨_,rfl⟩
     rw[← hK,← hx,← hSS]
     obtain ⟨HK,HX,HSS⟩:=zh3 hK hx hSS
     clear hK hx hSS
     obtain ⟨W5,hW5,j5,g5⟩:∃ W,W=w4.alloc (.cells #[.int .i64 K,.string SS] 44)∧Blk W w4.heap.size 44 [.int .i64 K,.string SS]∧w4.grownBy W none:=zag w4 _ _
     have gg:=tn g4 g5
     have p5:=(uh HPR).kept gg (by simp)
     have q0:=p5.cell 0
     have q1:=p5.cell 1
     simp only[List.getElem?_cons_zero,List.getElem?_cons_succ] at q0 q1
     rw[← uh HTL] at q0
     obtain ⟨HW5,HJ5,HG5⟩:=zh3 hW5 j5 gg
     clear ct hW5 j5 gg g4 g5 p5 p0 p1
     go_wp2_with (rw[← uh HW5])
     refine (c5 _).mono ?_
     rintro e w6 ⟨rfl,g6⟩
     have gf:=tn (uh HG5) g6
     have o6:=(uh HOB).kept gf (by simp)
     have j6:=(uh HJ5).kept g6 (by simp)
     have HGF:=hide (tn hg gf)
     have HOF:=hide (zbs (zgm (uh HO) gf (fun x e=>by cases e)) hs3)
     have o0:=o6.cell 0
     have o1:=o6.cell 1
     have j0:=j6.cell 0
     have j1:=j6.cell 1
     simp only[List.getElem?_cons_zero,List.getElem?_cons_succ] at o0 o1 j0 j1
     have hneq:(binOp .neq 44 (.agg #[.int .i64 K,.string SS]) (.agg #[.int .i64 2,.string SD])).run Tryz.prog w6 = .ok (.bool (!(K == 2 && r.2 == d))) w6:=by
      have:=zfe w6 K 2 r.2 d
      rwa [← uh HSS,← uh HSD] at this
     clear c5 q0 q1 o6 j6 HJ5 HW5 gf
     by_cases hD0:Dn=0
     ·subst hD0
      by_cases hx0:x=0
      ·have hK4:K=2:=by rw[uh HK,if_pos (by rw[← uh HX];exact hx0)]
       subst hK4
       have hr0:r.1=0:=by rw[← uh HX];exact hx0
       by_cases hrd:r.2=d
       ·have hres:=uh HGOOD ⟨rfl,by rw[← hrd,← hr0]⟩
        have HRS:=hide hres
        rw[show (!((2:Int) == 2 && r.2 == d))=false by simp[hrd]] at hneq
        clear hres hrd hr0 HBAD HGOOD
        subst hx0
        go_wp2_with (refine zbr (by rfl) _ _ _ _ rfl _ _ _ rfl rfl zbk hneq ?_)
        refine bodyPost_ret (v := .tuple #[.slice eo m ec,.int .i64 0]) (by simp[results,Tryz.results48,go_sem]) rfl ?_
        refine ⟨_,0,rfl,by rw[uh HRS],?_,uh HGF⟩
        rw[uh HRS,uh HM]
        exact uh HOF
       ·have hres:=uh HBAD (fun h=>hrd (by rw[h.2]))
        have HRS:=hide hres
        rw[show (!((2:Int) == 2 && r.2 == d))=true by simp[hrd]] at hneq
        clear hres hrd hr0 HBAD HGOOD
        subst hx0
        go_wp2_with (refine zbr (by rfl) _ _ _ _ rfl _ _ _ rfl rfl zbk hneq ?_)
        refine bodyPost_ret (v := .tuple #[.slice none 0 0,.int .i64 11]) (by simp[results,Tryz.results48,go_sem]) rfl ?_
        exact ⟨_,11,rfl,by rw[uh HRS],by rw[uh HRS];exact World.ownsRow_nil _ _ _ _,uh HGF⟩
      ·have hx1:(x == 0)=false:=by simpa using hx0
       have hres:=uh HBAD (fun h=>hx0 (by rw[uh HX,h.2]))
       have HRS:=hide hres
       clear hres HBAD HGOOD hneq
       go_wp2
       refine bodyPost_ret (v := .tuple #[.slice none 0 0,.int .i64 11]) (by simp[results,Tryz.results48,go_sem]) rfl ?_
       exact ⟨_,11,rfl,by rw[uh HRS],by rw[uh HRS];exact World.ownsRow_nil _ _ _ _,uh HGF⟩
     ·have hD1:(Dn == 0)=false:=by simpa using hD0
      have hres:=uh HBAD (fun h=>hD0 h.1)
      have HRS:=hide hres
      clear hres HBAD HGOOD hneq
      go_wp2
      refine bodyPost_ret (v := .tuple #[.slice none 0 0,.int .i64 11]) (by simp[results,Tryz.results48,go_sem]) rfl ?_
      exact ⟨_,11,rfl,by rw[uh HRS],by rw[uh HRS];exact World.ownsRow_nil _ _ _ _,uh HGF⟩
 ·have hres:RT=(2,[]):=by rw[hRT];simp[rtT,hk]
  have hk2:(k == 2)=false:=by simpa using hk
  have HR:=hide hres
  clear hRT hres hSD hd
  go_enter Tryz.func48,Tryz.ntmps48
  go_wp2
  refine bodyPost_ret (v := .tuple #[.slice none 0 0,.int .i64 2]) (by simp[results,Tryz.results48,go_sem]) rfl ?_
  exact ⟨_,2,rfl,by rw[uh HR],by rw[uh HR];exact World.ownsRow_nil _ _ _ _,zad (zaa _ _) _⟩
end Go.Proofs.YtegbbkgmiklhcaaGreatDoor
