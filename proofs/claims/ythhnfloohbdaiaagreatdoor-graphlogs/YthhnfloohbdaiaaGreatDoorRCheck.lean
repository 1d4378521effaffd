/- Lemmas. -/
import Derived.Test.YthhnfloohbdaiaaGreatDoorRTell
import Derived.Test.YthhnfloohbdaiaaGreatDoorORdP
import Derived.Test.YthhnfloohbdaiaaGreatDoorRGPlace
namespace Go.Proofs.YthhnfloohbdaiaaGreatDoor
open Go.RowKit
set_option maxRecDepth 100000
theorem zpi:(Tryz.prog.info? 182).map (fun i=>(i.zero,i.size,i.bytes))=some (some (.agg (reC ⟨[],false,[]⟩).toArray),3,40):=by kernel_rfl
theorem zgd {w:World} {ops:Array Oper} {rest:List Oper} {o:Oper} {a:Act} {Q:Exit→Act→World→Prop} (hgd:o.guard=none) (s x:Operand)
  (ho:o.op = .call { callee := .builtin .append,args := #[s,x],argTypes := #[166,166] })
  (base:Nat) (v:Value) (n:Nat) (xs:List Value) (hs:a.eval s=v) (hown:w.ownsRow base 182 3 v n xs) (p:Nat) (EC:List Value) (hB:Blk w p 182 EC) (hEl:EC.length=3) (hE1:∀ u∈EC,u.oneCell'=true)
  (hx:a.eval x = .slice (some ⟨p,0,none⟩) 1 1) (hn:n≤100000) (hbase:base≤w.heap.size)
  (h:∀ v' w',w'.ownsRow base 182 3 v' (n+1) (xs++EC)→w.grownBy w' v.ownBlock→wpList Tryz.prog ops Q rest (a.put o.dst v') w'):wpList Tryz.prog ops Q (o::rest) a w:=by
 obtain ⟨i0,hi,hz0,hz1,hz2⟩:=info_parts zpi
 exact wpList_append_own w hgd s x 166 ho base 182 i0 _ 3 40 Tryz.underlying166 hi hz0 hz1 hz2 rfl (by decide) v n xs hs hown ⟨p,0,none⟩ 1 1 EC hx (by rw[hEl]) (fun j u hu=>World.news_of_block hB j u (by simpa using hu)) hE1 (by unfold maxLen;omega) (by omega) hbase (fun v' w' q1 q2 _=>h v' w' q1 q2)
theorem zhn {w a:World} {base n:Nat} {v:Value} {xs:List Value} (h:w.ownsRow base 182 3 v n xs) {r:Option Nat} (g:w.grownBy a r) (hr:∀ x,r=some x→x<base):a.ownsRow base 182 3 v n xs :=
 h.kept g (by
  by_cases e:v.ownBlock=none
  ·exact Or.inl e
  ·refine Or.inr fun e2 => ?_
   cases hv:v.ownBlock with
   | none=>exact e hv
   | some b =>
    have h1:=(h.lt b hv).1
    have h2:=hr b (by rw[← e2,hv])
    omega)
theorem zxj (s t:ByteArray) (b:Bool) (V:World):(Instr.buildSlice 166 1 #[(0,.agg #[.string s,.bool b,.string t])]).run Tryz.prog V = .ok (.slice (some ⟨V.heap.size,0,none⟩) 1 1) (V.alloc (.cells #[.string s,.bool b,.string t] 182)):=by kernel_rfl
def rtT (k:Int) (d:List UInt8):Int × List EntL:=if k=2 then (if za9 (zbz d)=(0,d) then (0,zbz d) else (11,[])) else (2,[])
theorem zu2 (s:List UInt8 × Int) (j:Nat):(runR s j).1.length=j:=by
 induction j with
 | zero=>rfl
 | succ j ih=>rw[runR,zh7];simp[ih]
theorem zlg (s:List UInt8 × Int) (j:Nat):(runR s j).2.1.length≤s.1.length:=by
 induction j with
 | zero=>exact Nat.le_refl _
 | succ j ih =>
  rw[runR,zh7]
  exact Nat.le_trans (zcu _ _ _) (Nat.le_trans (zbk _ _) (Nat.le_trans (zbr _ _ _) ih))
theorem zpj (s:List UInt8 × Int) (j:Nat):∀ e∈(runR s j).1,e.name.length≤s.1.length∧e.id.length≤32:=by
 induction j with
 | zero=>intro e he;simp[runR] at he
 | succ j ih =>
  intro e he
  have h0:=zlg s j
  rw[runR,zh7] at he
  simp only[List.mem_append,List.mem_singleton] at he
  rcases he with he | rfl
  ·exact ih e he
  ·exact ⟨Nat.le_trans (zcr _ _) (Nat.le_trans (zbr _ _ _) h0),zgs _ _ 32⟩
theorem zpk {s:List UInt8 × Int} {j:Nat} {es:List EntL} {l' : List UInt8} {e' : Int} (h:runR s j=(es,l',e')) {v1:Nat} {l1:List UInt8} {e1:Int} (h1:numS l' e' 1=(v1,l1,e1)) {x l2:List UInt8} {e2:Int} (h2:zap l1 e1=(x,l2,e2)) {y l3:List UInt8} {e3:Int} (h3:rawS l2 e2 32=(y,l3,e3)) :
  runR s (j+1)=(es++[⟨x,decide (v1=1),y⟩],l3,e3):=by
 rw[runR,h,zh7]
 simp only[h1,h2,h3]
set_option maxHeartbeats 8000000 in
theorem zmn (w:World) (k:Int) (d:List UInt8) (hd:d.length≤100000):Calls Tryz.prog 98 #[.agg #[.int .i64 k,.string (str d)]] w fun e w'=>∃ v y,e = .returned (.tuple #[v,.int .i64 y])∧y=(rtT k d).1∧w'.ownsRow w.heap.size 182 3 v (rtT k d).2.length ((rtT k d).2.flatMap reC)∧w.grownBy w' none:=by
 obtain ⟨SD,hSD⟩:∃ S,S=str d:=⟨_,rfl⟩
 obtain ⟨RT,hRT⟩:∃ r,r=rtT k d:=⟨_,rfl⟩
 rw[← hRT,← hSD]
 by_cases hk:k=2
 ·subst hk
  have hrt:RT=(if za9 (zbz d)=(0,d) then (0,zbz d) else (11,[])):=by rw[hRT];simp[rtT]
  obtain ⟨⟨n,l0,e0⟩,h1⟩:∃ a,numS d 0 2=a:=⟨_,rfl⟩
  have hsame:=fun j => @zui d j
  have hll:=zbr d 0 2
  have hn6:=znn d 0
  rw[h1] at hsame hll hn6
  simp only at hsame hll hn6
  have c1:∀ V,Calls Tryz.prog 108 #[.agg #[.string SD,.int .i64 0],.int .i64 2] V fun r w'=>r = .returned (.tuple #[.agg #[.string (str l0),.int .i64 e0],.int .u64 (n:Int)])∧V.grownBy w' none:=fun V=>by
   have:=zei V d 0 2 (by omega)
   rw[h1,← hSD] at this
   exact this
  obtain ⟨T0,hT0⟩:∃ T,T=str l0:=⟨_,rfl⟩
  rw[← hT0] at c1
  obtain ⟨HT0,HRT,HSA,HSD⟩:=zh4 hT0 hrt hsame hSD
  have hl0:l0.length≤100000:=by omega
  clear hRT hrt hsame hSD h1 hll hT0 hd
  obtain ⟨E1,hE1,oE,gE⟩:∃ W,W=w.alloc (.cells #[.int .i64 2,.string SD] 47)∧Blk W w.heap.size 47 [.int .i64 2,.string SD]∧w.grownBy W none:=zag w _ _
  have HE1:=hide hE1
  clear hE1
  go_enter Tryz.func98,Tryz.ntmps98
  go_wp2_with fail
  rw[← uh HE1]
  refine (c1 _).mono ?_
  rintro e w2 ⟨rfl,g2⟩
  have hs2:w.heap.size<w2.heap.size:=(oE.kept g2 (by simp)).lt
  obtain ⟨W3,hW3,p3,g3⟩:∃ W,W=w2.alloc (.cells #[.string T0,.int .i64 e0] 187)∧Blk W w2.heap.size 187 [.string T0,.int .i64 e0]∧w2.grownBy W none:=zag w2 _ _
  have HO3:=hide ((oE.kept g2 (by simp)).kept g3 (by simp))
  have HG3:=hide (tn (tn gE g2) g3)
  have HW3:=hide hW3
  have HP3:Hid (Blk W3 w2.heap.size 187 [.string (str l0),.int .i64 e0]):=by rw[← uh HT0];exact p3
  have hs3:w.heap.size≤W3.heap.size:=(uh HG3).size
  clear c1 oE gE g2 g3 hW3 p3
  go_wp2_with (rw[← uh HW3])
  go_loopw [6,7] (fun v i wr=>∃ (j:Nat) (es:List EntL) (l' : List UInt8) (e' : Int),i = .int .u64 (j:Int)∧j≤n∧Hid (runR (l0,e0) j=(es,l',e'))∧Hid (∀ i,i<j→(runR (l0,e0) i).2.2=0)∧wr.ownsRow W3.heap.size 182 3 v es.length (es.flatMap reC)∧Hid (Blk wr w2.heap.size 187 [.string (str l'),.int .i64 e'])∧Hid (Blk wr w.heap.size 47 [.int .i64 2,.string SD])∧w.grownBy wr none∧W3.heap.size≤wr.heap.size) (fun _ i _=>n - (intOf i).toNat)
  case atStart=>exact ⟨0,[],l0,e0,rfl,Nat.zero_le _,rfl,(fun i hi=>by omega),World.ownsRow_nil _ _ _ _,HP3,HO3,uh HG3,Nat.le_refl _⟩
  case round =>
   obtain ⟨j,es,l',e',rfl,hj,HE,HALL,ho,HPR,HOB,hg,hsz⟩:=hrel
   have hlf:l'.length≤100000:=by have:=zlg (l0,e0) j;rw[uh HE] at this;exact Nat.le_trans this hl0
   have hel:es.length=j:=by have:=zu2 (l0,e0) j;rw[uh HE] at this;exact this
   have p0:=(uh HPR).cell 0
   have p1:=(uh HPR).cell 1
   simp only[List.getElem?_cons_zero,List.getElem?_cons_succ] at p0 p1
   by_cases hgo:j<n∧e'=0
   ·obtain ⟨hlt,he0⟩:=hgo
    subst he0
    have hsl1:=zbr l' 0 1
    obtain ⟨⟨v1,l1,e1⟩,h1⟩:∃ a,numS l' 0 1=a:=⟨_,rfl⟩
    rw[h1] at hsl1
    have hsl2:=zbk l1 e1
    obtain ⟨⟨x,l2,e2⟩,h2⟩:∃ a,zap l1 e1=a:=⟨_,rfl⟩
    rw[h2] at hsl2
    obtain ⟨⟨y,l3,e3⟩,h3⟩:∃ a,rawS l2 e2 32=a:=⟨_,rfl⟩
    simp only at hsl1 hsl2
    have hrd:=zpk (uh HE) h1 h2 h3
    have c1:∀ V,Calls Tryz.prog 108 #[.agg #[.string (str l'),.int .i64 0],.int .i64 1] V fun r w'=>r = .returned (.tuple #[.agg #[.string (str l1),.int .i64 e1],.int .u64 (v1:Int)])∧V.grownBy w' none:=fun V=>by
     have:=zei V l' 0 1 (by omega)
     rw[h1] at this
     exact this
    have c2:∀ V,Calls Tryz.prog 109 #[.agg #[.string (str l1),.int .i64 e1]] V fun r w'=>r = .returned (.tuple #[.agg #[.string (str l2),.int .i64 e2],.string (str x)])∧V.grownBy w' none:=fun V=>by
     have:=zig V l1 e1 (by omega)
     rw[h2] at this
     exact this
    have c3:∀ V,Calls Tryz.prog 107 #[.agg #[.string (str l2),.int .i64 e2],.int .i64 32] V fun r w'=>r = .returned (.tuple #[.agg #[.string (str l3),.int .i64 e3],.string (str y)])∧V.grownBy w' none:=fun V=>by
     have:=zga V l2 e2 32 (by omega)
     rw[h3] at this
     exact this
    obtain ⟨D,hD⟩:∃ D,D=decide (v1=1):=⟨_,rfl⟩
    have hD2:((v1:Int) == 1)=D:=by rw[hD];by_cases q:v1=1 <;> simp[q] <;> omega
    rw[← hD] at hrd
    obtain ⟨TL,hTL⟩:∃ T,T=str l':=⟨_,rfl⟩
    obtain ⟨T1,hT1⟩:∃ T,T=str l1:=⟨_,rfl⟩
    obtain ⟨T2,hT2⟩:∃ T,T=str l2:=⟨_,rfl⟩
    obtain ⟨T3,hT3⟩:∃ T,T=str l3:=⟨_,rfl⟩
    obtain ⟨TX,hTX⟩:∃ T,T=str x:=⟨_,rfl⟩
    obtain ⟨TY,hTY⟩:∃ T,T=str y:=⟨_,rfl⟩
    have hrec:reC ⟨x,D,y⟩=[.string TX,.bool D,.string TY]:=by rw[hTX,hTY];rfl
    have hfl:(es++[(⟨x,D,y⟩:EntL)]).flatMap reC=es.flatMap reC++[.string TX,.bool D,.string TY]:=by rw[← hrec];simp
    rw[← hTL] at c1 p0
    rw[← hT1] at c1 c2
    rw[← hT2] at c2 c3
    rw[← hT3] at c3
    rw[← hTX] at c2
    rw[← hTY] at c3
    have hall2:∀ i,i<j+1→(runR (l0,e0) i).2.2=0:=by
     intro i hi
     by_cases h:i<j
     ·exact uh HALL i h
     ·have:i=j:=by omega
      rw[this,uh HE]
    obtain ⟨HRD,HFL,HAL,HT3⟩:=zh4 hrd hfl hall2 hT3
    have hj9:es.length≤100000:=by omega
    clear hrd hfl hall2 hD hTL hT1 hT2 hT3 hTX hTY hrec h1 h2 h3 hsl1 hsl2 HALL HE hel hlf
    go_wp2_with fail
    refine (c1 _).mono ?_
    rintro e w4 ⟨rfl,g4⟩
    clear c1
    go_wp2_with fail
    refine (c2 _).mono ?_
    rintro e w5 ⟨rfl,g5⟩
    clear c2
    go_wp2_with fail
    refine (c3 _).mono ?_
    rintro e w6 ⟨rfl,g6⟩
    have gA:=tn (zah (tn (zah g4 _) g5) _) g6
    obtain ⟨W7,hW7,b7,g7⟩:∃ W,W=w6.alloc (.cells #[.string T3,.int .i64 e3] 187)∧Blk W w6.heap.size 187 [.string T3,.int .i64 e3]∧w6.grownBy W none:=zag w6 _ _
    have gB:=tn gA g7
    have p7:=(uh HPR).kept gB (by simp)
    have o7:=(uh HOB).kept gB (by simp)
    have r7:=zhn ho gB (fun x e=>by cases e)
    have G7:=tn hg gB
    have hs7:=Nat.le_trans hsz gB.size
    have a0:=p7.cell 0
    have a1:=p7.cell 1
    have za0:=p7.fz 0
    have za1:=p7.fz 1
    have b0:=b7.cell 0
    have b1:=b7.cell 1
    simp only[List.getElem?_cons_zero,List.getElem?_cons_succ] at a0 a1 b0 b1
    obtain ⟨W8,hW8⟩:∃ W,W=(W7.setCell ⟨w2.heap.size,0,none⟩ (.string T3)).setCell ⟨w2.heap.size,1,none⟩ (.int .i64 e3):=⟨_,rfl⟩
    have p8:Blk W8 w2.heap.size 187 [.string T3,.int .i64 e3]:=by rw[hW8];exact (p7.set 0 _).set 1 _
    have o8:Blk W8 w.heap.size 47 [.int .i64 2,.string SD]:=by rw[hW8];exact (o7.other _ _ (by simp;omega)).other _ _ (by simp;omega)
    have r8:W8.ownsRow W3.heap.size 182 3 u6 es.length (es.flatMap reC):=by rw[hW8];exact zan (zan r7 p7 (by decide) 0 _) (p7.set 0 _) (by decide) 1 _
    have G8:w.grownBy W8 none:=by rw[hW8];exact zad (zad G7 _ _ (Or.inl (by simp;omega))) _ _ (Or.inl (by simp;omega))
    have hs8:W3.heap.size≤W8.heap.size:=by rw[hW8];simpa[World.setCell] using hs7
    have hbs:=zxj TX TY D W8
    obtain ⟨W9,hW9,b9,g9⟩:∃ W,W=W8.alloc (.cells #[.string TX,.bool D,.string TY] 182)∧Blk W W8.heap.size 182 [.string TX,.bool D,.string TY]∧W8.grownBy W none:=zag W8 _ _
    have HR9:=hide (zhn r8 g9 (fun x e=>by cases e))
    have HP9:=hide (p8.kept g9 (by simp))
    have HO9:=hide (o8.kept g9 (by simp))
    have HG9:=hide (tn G8 g9)
    have HS9:=hide (Nat.le_trans hs8 g9.size)
    obtain ⟨HW7,HW8,HW9,HB9,HBS⟩:=zh5 hW7 hW8 hW9 b9 hbs
    clear c3 gA gB g4 g5 g6 g7 g9 hW7 hW8 hW9 b7 b9 p7 o7 r7 G7 hs7 p8 o8 r8 G8 hs8 hbs ho hg hsz HPR HOB p0 p1
    go_wp2_with (first
     | (refine zaq rfl 166 _ rfl (.agg #[.string TX,.bool D,.string TY]) _ rfl (uh HBS) ?_;rw[← uh HW9])
     | (refine zgd rfl _ _ rfl W3.heap.size _ _ _ rfl (uh HR9) _ _ (uh HB9) rfl (by intro u hu;simp only[List.mem_cons,List.not_mem_nil,or_false] at hu;rcases hu with rfl | rfl | rfl <;> rfl) rfl hj9 (uh HS9) ?_;intro va wa hoa ga;have HOA:=hide hoa;have HGA:=hide (zae (uh HG9) ga (fun x e=>Or.inl (Nat.le_trans hs3 ((uh HR9).lt x e).1)));have HPA:=hide ((uh HP9).kept ga (zay (uh HR9) (uh HP9) (by decide)));have HOB2:=hide ((uh HO9).kept ga (zay (uh HR9) (uh HO9) (by decide)));have HSA2:=hide (Nat.le_trans (uh HS9) ga.size);clear hoa ga)
     | (rw[← uh HW8])
     | (rw[← uh HW7]))
    go_roundw
    case rel =>
     refine ⟨j+1,_,l3,e3,by go_num,by omega,HRD,HAL,?_,?_,HOB2,uh HGA,uh HSA2⟩
     ·rw[List.length_append,uh HFL]
      exact uh HOA
     ·rw[← uh HT3]
      exact HPA
    case measure=>simp[intOf];omega
   ·have hstop:zra (fun i=>(runR (l0,e0) i).2.2) n j:=by
     refine ⟨hj,uh HALL,?_⟩
     by_cases h:j=n
     ·exact Or.inl h
     ·right
      show (runR (l0,e0) j).2.2≠0
      rw[uh HE]
      intro h2
      exact hgo ⟨by omega,h2⟩
    obtain ⟨hs1,hs2b⟩:=uh HSA j hstop
    rw[uh HE] at hs1 hs2b
    simp only at hs1 hs2b
    obtain ⟨eo,ec,hv,hRe⟩:=Rens.own ho
    subst hv
    have hsmall:=zpj (l0,e0) j
    rw[uh HE] at hsmall
    have ct:=zml wr eo ec es hRe (fun e he=>Nat.le_trans (hsmall e he).1 hl0) (fun e he=>Nat.le_trans (hsmall e he).2 (by omega)) (by omega)
    obtain ⟨r,hr⟩:∃ r,r=za9 es:=⟨_,rfl⟩
    obtain ⟨Dn,hDn⟩:∃ D,D=zd6 l' e':=⟨_,rfl⟩
    have c5:∀ V,Calls Tryz.prog 110 #[.agg #[.string (str l'),.int .i64 e']] V fun r w'=>r = .returned (.int .i64 Dn)∧V.grownBy w' none:=fun V=>by rw[hDn];exact zif V l' e' (by omega)
    rw[← hr,← hDn] at hs1
    rw[← hr] at ct
    have hbad:¬ (Dn=0∧r=(0,d))→RT=(11,[]):=fun h=>by rw[uh HRT,if_neg (fun h2=>h (hs1.2 h2))]
    have hgood:Dn=0∧r=(0,d)→RT=(0,es):=fun h=>by
     have h2:=hs1.1 h
     rw[uh HRT,if_pos h2,hs2b h2]
    obtain ⟨TL,hTL⟩:∃ T,T=str l':=⟨_,rfl⟩
    rw[← hTL] at c5 p0
    obtain ⟨m,hm⟩:∃ m,m=es.length:=⟨_,rfl⟩
    rw[← hm] at ct
    rw[← hm]
    obtain ⟨HM,HO,HBAD,HGOOD⟩:=zh4 hm ho hbad hgood
    have hcond:¬ j<n∨(j<n∧e'≠0):=by
     by_cases h:j<n
     ·exact Or.inr ⟨h,fun h2=>hgo ⟨h,h2⟩⟩
     ·exact Or.inl h
    have HTL:=hide hTL
    clear hgo hstop hs1 hs2b hRe hsmall hr hDn hbad hgood hTL hm ho HALL HE hel hlf
    rcases hcond with hA | ⟨hA,hB⟩
    ·skip
     go_wp2_with fail
     refine ct.mono ?_
     rintro e w4 ⟨rfl,g4⟩
     obtain ⟨K,hK⟩:∃ K:Int,K=(if r.1=0 then 2 else 0):=⟨_,rfl⟩
     obtain ⟨x,hx⟩:∃ x:Int,x=r.1:=⟨_,rfl⟩
     obtain ⟨SS,hSS⟩:∃ S,S=str r.2:=⟨_,rfl⟩
     rw[← hK,← hx,← hSS]
     obtain ⟨HK,HX,HSS⟩:=zh3 hK hx hSS
     clear hK hx hSS
     obtain ⟨W5,hW5,j5,g5⟩:∃ W,W=w4.alloc (.cells #[.int .i64 K,.string SS] 47)∧Blk W w4.heap.size 47 [.int .i64 K,.string SS]∧w4.grownBy W none:=zag w4 _ _
     have gg:=tn g4 g5
     have p5:=(uh HPR).kept gg (by simp)
     have q0:=p5.cell 0
     have q1:=p5.cell 1
     simp only[List.getElem?_cons_zero,List.getElem?_cons_succ] at q0 q1
     rw[← uh HTL] at q0
     obtain ⟨HW5,HJ5,HG5⟩:=zh3 hW5 j5 gg
     clear ct hW5 j5 gg g4 g5 p5 p0 p1
     go_wp2_with (rw[← uh HW5])
     refine (c5 _).mono ?_
     rintro e w6 ⟨rfl,g6⟩
     have gf:=tn (uh HG5) g6
     have o6:=(uh HOB).kept gf (by simp)
     have j6:=(uh HJ5).kept g6 (by simp)
     have HGF:=hide (tn hg gf)
     have HOF:=hide (za7 (zhn (uh HO) gf (fun x e=>by cases e)) hs3)
     have o0:=o6.cell 0
     have o1:=o6.cell 1
     have j0:=j6.cell 0
     have j1:=j6.cell 1
     simp only[List.getElem?_cons_zero,List.getElem?_cons_succ] at o0 o1 j0 j1
     have hneq:(binOp .neq 47 (.agg #[.int .i64 K,.string SS]) (.agg #[.int .i64 2,.string SD])).run Tryz.prog w6 = .ok (.bool (!(K == 2 && r.2 == d))) w6:=by
      have:=zgc w6 K 2 r.2 d
      rwa [← uh HSS,← uh HSD] at this
     clear c5 q0 q1 o6 j6 HJ5 HW5 gf
     by_cases hD0:Dn=0
     ·subst hD0
      by_cases hx0:x=0
      ·have hK4:K=2:=by rw[uh HK,if_pos (by rw[← uh HX];exact hx0)]
       subst hK4
       have hr0:r.1=0:=by rw[← uh HX];exact hx0
       by_cases hrd:r.2=d
       ·have hres:=uh HGOOD ⟨rfl,by rw[← hrd,← hr0]⟩
        have HRS:=hide hres
        rw[show (!((2:Int) == 2 && r.2 == d))=false by simp[hrd]] at hneq
        clear hres hrd hr0 HBAD HGOOD
        subst hx0
        go_wp2_with (refine zcb (by rfl) _ _ _ _ rfl _ _ _ rfl rfl zb9 hneq ?_)
        refine bodyPost_ret (v := .tuple #[.slice eo m ec,.int .i64 0]) (by simp[results,Tryz.results98,go_sem]) rfl ?_
        refine ⟨_,0,rfl,by rw[uh HRS],?_,uh HGF⟩
        rw[uh HRS,uh HM]
        exact uh HOF
       ·have hres:=uh HBAD (fun h=>hrd (by rw[h.2]))
        have HRS:=hide hres
        rw[show (!((2:Int) == 2 && r.2 == d))=true by simp[hrd]] at hneq
        clear hres hrd hr0 HBAD HGOOD
        subst hx0
        go_wp2_with (refine zcb (by rfl) _ _ _ _ rfl _ _ _ rfl rfl zb9 hneq ?_)
        refine bodyPost_ret (v := .tuple #[.slice none 0 0,.int .i64 11]) (by simp[results,Tryz.results98,go_sem]) rfl ?_
        exact ⟨_,11,rfl,by rw[uh HRS],by rw[uh HRS];exact World.ownsRow_nil _ _ _ _,uh HGF⟩
      ·have hx1:(x == 0)=false:=by simpa using hx0
       have hres:=uh HBAD (fun h=>hx0 (by rw[uh HX,h.2]))
       have HRS:=hide hres
       clear hres HBAD HGOOD hneq
       go_wp2
       refine bodyPost_ret (v := .tuple #[.slice none 0 0,.int .i64 11]) (by simp[results,Tryz.results98,go_sem]) rfl ?_
       exact ⟨_,11,rfl,by rw[uh HRS],by rw[uh HRS];exact World.ownsRow_nil _ _ _ _,uh HGF⟩
     ·have hD1:(Dn == 0)=false:=by simpa using hD0
      have hres:=uh HBAD (fun h=>hD0 h.1)
      have HRS:=hide hres
      clear hres HBAD HGOOD hneq
      go_wp2
      refine bodyPost_ret (v := .tuple #[.slice none 0 0,.int .i64 11]) (by simp[results,Tryz.results98,go_sem]) rfl ?_
      exact ⟨_,11,rfl,by rw[uh HRS],by rw[uh HRS];exact World.ownsRow_nil _ _ _ _,uh HGF⟩
    ·have hB2:(e' == 0)=false:=by simpa using hB
     go_wp2_with fail
     refine ct.mono ?_
     rintro e w4 ⟨rfl,g4⟩
     obtain ⟨K,hK⟩:∃ K:Int,K=(if r.1=0 then 2 else 0):=⟨_,rfl⟩
     obtain ⟨x,hx⟩:∃ x:Int,x=r.1:=⟨_,rfl⟩
     obtain ⟨SS,hSS⟩:∃ S,S=str r.2:=⟨_,rfl⟩
     rw[← hK,← hx,← hSS]
     obtain ⟨HK,HX,HSS⟩:=zh3 hK hx hSS
     clear hK hx hSS
     obtain ⟨W5,hW5,j5,g5⟩:∃ W,W=w4.alloc (.cells #[.int .i64 K,.string SS] 47)∧Blk W w4.heap.size 47 [.int .i64 K,.string SS]∧w4.grownBy W none:=zag w4 _ _
     have gg:=tn g4 g5
     have p5:=(uh HPR).kept gg (by simp)
     have q0:=p5.cell 0
     have q1:=p5.cell 1
     simp only[List.getElem?_cons_zero,List.getElem?_cons_succ] at q0 q1
     rw[← uh HTL] at q0
     obtain ⟨HW5,HJ5,HG5⟩:=zh3 hW5 j5 gg
     clear ct hW5 j5 gg g4 g5 p5 p0 p1
     go_wp2_with (rw[← uh HW5])
     refine (c5 _).mono ?_
     rintro e w6 ⟨rfl,g6⟩
     have gf:=tn (uh HG5) g6
     have o6:=(uh HOB).kept gf (by simp)
     have j6:=(uh HJ5).kept g6 (by simp)
     have HGF:=hide (tn hg gf)
     have HOF:=hide (za7 (zhn (uh HO) gf (fun x e=>by cases e)) hs3)
     have o0:=o6.cell 0
     have o1:=o6.cell 1
     have j0:=j6.cell 0
     have j1:=j6.cell 1
     simp only[List.getElem?_cons_zero,List.getElem?_cons_succ] at o0 o1 j0 j1
     have hneq:(binOp .neq 47 (.agg #[.int .i64 K,.string SS]) (.agg #[.int .i64 2,.string SD])).run Tryz.prog w6 = .ok (.bool (!(K == 2 && r.2 == d))) w6:=by
      have:=zgc w6 K 2 r.2 d
      rwa [← uh HSS,← uh HSD] at this
     clear c5 q0 q1 o6 j6 HJ5 HW5 gf
     by_cases hD0:Dn=0
     ·subst hD0
      by_cases hx0:x=0
      ·have hK4:K=2:=by rw[uh HK,if_pos (by rw[← uh HX];exact hx0)]
       subst hK4
       have hr0:r.1=0:=by rw[← uh HX];exact hx0
       by_cases hrd:r.2=d
       ·have hres:=uh HGOOD ⟨rfl,by rw[← hrd,← hr0]⟩
        have HRS:=hide hres
        rw[show (!((2:Int) == 2 && r.2 == d))=false by simp[hrd]] at hneq
        clear hres hrd hr0 HBAD HGOOD
        subst hx0
        go_wp2_with (refine zcb (by rfl) _ _ _ _ rfl _ _ _ rfl rfl zb9 hneq ?_)
        refine bodyPost_ret (v := .tuple #[.slice eo m ec,.int .i64 0]) (by simp[results,Tryz.results98,go_sem]) rfl ?_
        refine ⟨_,0,rfl,by rw[uh HRS],?_,uh HGF⟩
        rw[uh HRS,uh HM]
        exact uh HOF
       ·have hres:=uh HBAD (fun h=>hrd (by rw[h.2]))
        have HRS:=hide hres
        rw[show (!((2:Int) == 2 && r.2 == d))=true by simp[hrd]] at hneq
        clear hres hrd hr0 HBAD HGOOD
        subst hx0
        go_wp2_with (refine zcb (by rfl) _ _ _ _ rfl _ _ _ rfl rfl zb9 hneq ?_)
        refine bodyPost_ret (v := .tuple #[.slice none 0 0,.int .i64 11]) (by simp[results,Tryz.results98,go_sem]) rfl ?_
        exact ⟨_,11,rfl,by rw[uh HRS],by rw[uh HRS];exact World.ownsRow_nil _ _ _ _,uh HGF⟩
      ·have hx1:(x == 0)=false:=by simpa using hx0
       have hres:=uh HBAD (fun h=>hx0 (by rw[uh HX,h.2]))
       have HRS:=hide hres
       clear hres HBAD HGOOD hneq
       go_wp2
       refine bodyPost_ret (v := .tuple #[.slice none 0 0,.int .i64 11]) (by simp[results,Tryz.results98,go_sem]) rfl ?_
       exact ⟨_,11,rfl,by rw[uh HRS],by rw[uh HRS];exact World.ownsRow_nil _ _ _ _,uh HGF⟩
     ·have hD1:(Dn == 0)=false:=by simpa using hD0
      have hres:=uh HBAD (fun h=>hD0 h.1)
      have HRS:=hide hres
      clear hres HBAD HGOOD hneq
      go_wp2
      refine bodyPost_ret (v := .tuple #[.slice none 0 0,.int .i64 11]) (by simp[results,Tryz.results98,go_sem]) rfl ?_
      exact ⟨_,11,rfl,by rw[uh HRS],by rw[uh HRS];exact World.ownsRow_nil _ _ _ _,uh HGF⟩
 ·have hres:RT=(2,[]):=by rw[hRT];simp[rtT,hk]
  have hk2:(k == 2)=false:=by simpa using hk
  have HR:=hide hres
  clear hRT hres hSD hd
  go_enter Tryz.func98,Tryz.ntmps98
  go_wp2
  refine bodyPost_ret (v := .tuple #[.slice none 0 0,.int .i64 2]) (by simp[results,Tryz.results98,go_sem]) rfl ?_
  exact ⟨_,2,rfl,by rw[uh HR],by rw[uh HR];exact World.ownsRow_nil _ _ _ _,zah (zab _ _) _⟩
def rtC (k:Int) (d:List UInt8):Int × ChgL:=if k=3 then (if zcf (zbh d)=(0,d) then (0,zbh d) else (11,⟨[],[],0,[],[]⟩)) else (2,⟨[],[],0,[],[]⟩)
theorem zxk (s:ByteArray) (V:World):(Instr.buildSlice 25 1 #[(0,.string s)]).run Tryz.prog V = .ok (.slice (some ⟨V.heap.size,0,none⟩) 1 1) (V.alloc (.cells #[.string s] 9)):=by kernel_rfl
theorem zcn:(Tryz.prog.info? 151).map (·.size)=some 5:=by kernel_rfl
set_option maxHeartbeats 16000000 in
theorem zge (w:World) (k:Int) (d:List UInt8) (hd:d.length≤100000):Calls Tryz.prog 84 #[.agg #[.int .i64 k,.string (str d)]] w fun e w'=>∃ po pc y,e = .returned (.tuple #[.agg (rcC (rtC k d).2 po pc).toArray,.int .i64 y])∧y=(rtC k d).1∧Stg w' w.heap.size (.slice po (rtC k d).2.pars.length pc) (rtC k d).2.pars∧w.grownBy w' none:=by
 obtain ⟨SD,hSD⟩:∃ S,S=str d:=⟨_,rfl⟩
 obtain ⟨S0,hS0⟩:∃ S:ByteArray,S=⟨#[]⟩:=⟨_,rfl⟩
 obtain ⟨RT,hRT⟩:∃ r,r=rtC k d:=⟨_,rfl⟩
 rw[← hRT,← hSD]
 by_cases hk:k=3
 ·subst hk
  have hrt:RT=(if zcf (zbh d)=(0,d) then (0,zbh d) else (11,⟨[],[],0,[],[]⟩)):=by rw[hRT];simp[rtC]
  obtain ⟨⟨t0,l1,e1⟩,h1⟩:∃ a,rawS d 0 32=a:=⟨_,rfl⟩
  obtain ⟨⟨n,l2,e2⟩,h2⟩:∃ a,numS l1 e1 1=a:=⟨_,rfl⟩
  have hN:rdN d=(n,l2,e2):=by unfold rdN;simp only[h1,h2]
  have hsame:=fun j => @zu1 d j
  rw[hN] at hsame
  simp only at hsame
  have hl0:=zgs d 0 32
  rw[show ((32:Nat):Int)=32 from rfl,h1] at hl0
  have hl1:=zcu d 0 32
  rw[h1] at hl1
  have hl2:=zbr l1 e1 1
  rw[h2] at hl2
  simp only at hl0 hl1 hl2
  have hn256:n<256:=by
   have hnb:nb 1=1:=by decide
   have h3:(numS l1 e1 1).1<256:=by
    unfold numS
    rw[hnb]
    repeat' split
    ·simp
    ·have h4:=zt3 (l1.take 1)
     have h5:256 ^ (l1.take 1).length≤256 ^ 1:=Nat.pow_le_pow_right (by omega) (by simp;omega)
     simp only
     omega
    ·simp
   rwa [h2] at h3
  have hrdc:∀ j qs l' e' tm l4 e4 nm l5 e5 tx l6 e6,runQ (l2,e2) j=(qs,l',e')→numS l' e' 8=(tm,l4,e4)→zap l4 e4=(nm,l5,e5)→zap l5 e5=(tx,l6,e6)→rdC d j=(⟨t0,qs,tm,nm,tx⟩,l6,e6):=by
   intro j qs l' e' tm l4 e4 nm l5 e5 tx l6 e6 q1 q2 q3 q4
   unfold rdC
   simp only[h1,h2,q1,q2,q3,q4]
  have c1:∀ V,Calls Tryz.prog 107 #[.agg #[.string SD,.int .i64 0],.int .i64 32] V fun r w'=>r = .returned (.tuple #[.agg #[.string (str l1),.int .i64 e1],.string (str t0)])∧V.grownBy w' none:=fun V=>by
   have:=zga V d 0 32 (by omega)
   rw[h1,← hSD] at this
   exact this
  have c2:∀ V,Calls Tryz.prog 108 #[.agg #[.string (str l1),.int .i64 e1],.int .i64 1] V fun r w'=>r = .returned (.tuple #[.agg #[.string (str l2),.int .i64 e2],.int .u64 (n:Int)])∧V.grownBy w' none:=fun V=>by
   have:=zei V l1 e1 1 (by omega)
   rw[h2] at this
   exact this
  obtain ⟨T1,hT1⟩:∃ T,T=str l1:=⟨_,rfl⟩
  obtain ⟨T2,hT2⟩:∃ T,T=str l2:=⟨_,rfl⟩
  obtain ⟨TT,hTT⟩:∃ T,T=str t0:=⟨_,rfl⟩
  rw[← hT1,← hTT] at c1
  rw[← hT1,← hT2] at c2
  have hl2a:l2.length≤100000:=by omega
  have ht0l:t0.length≤100000:=by omega
  obtain ⟨HRT,HSA,HRC,HT2,HTT,HSD⟩:=zh6 hrt hsame hrdc hT2 hTT hSD
  obtain ⟨E1,hE1⟩:∃ W,W=((w.alloc (.cells #[.int .i64 3,.string SD] 47)).alloc (.cells #[.string S0,.slice none 0 0,.int .u64 0,.string S0,.string S0] 151)).alloc (.cells #[.string S0,.slice none 0 0,.int .u64 0,.string S0,.string S0] 151):=⟨_,rfl⟩
  have gE:w.grownBy E1 none:=by rw[hE1];exact zah (zah (zah (zab _ _) _) _) _
  have oE:Blk E1 w.heap.size 47 [.int .i64 3,.string SD]:=by rw[hE1];exact ((Blk.new w _ _).alloc _).alloc _
  have rE:Blk E1 (w.heap.size+1) 151 [.string S0,.slice none 0 0,.int .u64 0,.string S0,.string S0]:=by
   rw[hE1]
   have:=(Blk.new (w.alloc (.cells #[.int .i64 3,.string SD] 47)) 151 [.string S0,.slice none 0 0,.int .u64 0,.string S0,.string S0]).alloc (.cells #[.string S0,.slice none 0 0,.int .u64 0,.string S0,.string S0] 151)
   simpa using this
  have mE:Blk E1 (w.heap.size+2) 151 [.string S0,.slice none 0 0,.int .u64 0,.string S0,.string S0]:=by
   rw[hE1]
   have:=Blk.new ((w.alloc (.cells #[.int .i64 3,.string SD] 47)).alloc (.cells #[.string S0,.slice none 0 0,.int .u64 0,.string S0,.string S0] 151)) 151 [.string S0,.slice none 0 0,.int .u64 0,.string S0,.string S0]
   simpa using this
  have HE1:Hid (E1=((w.alloc (.cells #[.int .i64 3,.string SD] 47)).alloc (.cells #[.string ⟨#[]⟩,.slice none 0 0,.int .u64 0,.string ⟨#[]⟩,.string ⟨#[]⟩] 151)).alloc (.cells #[.string ⟨#[]⟩,.slice none 0 0,.int .u64 0,.string ⟨#[]⟩,.string ⟨#[]⟩] 151)):=by rw[← hS0];exact hE1
  obtain ⟨HS0,HGE,HOE,HRE,HME⟩:=zh5 hS0 gE oE rE mE
  clear hRT hrt hsame hrdc hS0 hSD gE oE rE mE hE1 hN h1 h2 hl0 hl1 hl2 hT1 hT2 hTT hd
  go_enter Tryz.func84,Tryz.ntmps84
  go_wp2_with fail
  rw[← uh HE1]
  refine (c1 _).mono ?_
  rintro e w2 ⟨rfl,g2⟩
  have m2:=(uh HME).kept g2 (by simp)
  have hs2:w.heap.size+2<w2.heap.size:=m2.lt
  obtain ⟨W3,hW3,p3,g3⟩:=zag w2 187 [.string T1,.int .i64 e1]
  have gB:=tn g2 g3
  have q0:=p3.cell 0
  have q1:=p3.cell 1
  simp only[List.getElem?_cons_zero,List.getElem?_cons_succ] at q0 q1
  obtain ⟨HW3,HP3,HGB⟩:=zh3 hW3 p3 gB
  clear c1 hW3 p3 g3 m2 g2 gB
  go_wp2_with (rw[← uh HW3])
  refine (c2 _).mono ?_
  rintro e w4 ⟨rfl,g4⟩
  have gC:=tn (uh HGB) g4
  have p4:=(uh HP3).kept g4 (by simp)
  have o4:=(uh HOE).kept gC (by simp)
  have r4:=(uh HRE).kept gC (by simp)
  have m4:=(uh HME).kept gC (by simp)
  have G4:=tn (uh HGE) gC
  have a0:=p4.cell 0
  have a1:=p4.cell 1
  have za0:=p4.fz 0
  have za1:=p4.fz 1
  simp only[List.getElem?_cons_zero,List.getElem?_cons_succ] at a0 a1
  obtain ⟨W5,hW5⟩:∃ W,W=(w4.setCell ⟨w2.heap.size,0,none⟩ (.string T2)).setCell ⟨w2.heap.size,1,none⟩ (.int .i64 e2):=⟨_,rfl⟩
  have p5:Blk W5 w2.heap.size 187 [.string T2,.int .i64 e2]:=by rw[hW5];exact (p4.set 0 _).set 1 _
  have m5:Blk W5 (w.heap.size+2) 151 [.string S0,.slice none 0 0,.int .u64 0,.string S0,.string S0]:=by rw[hW5];exact (m4.other _ _ (by simp;omega)).other _ _ (by simp;omega)
  have b0:=m5.cell 0
  have zb0:=m5.fz 0
  simp only[List.getElem?_cons_zero] at b0
  obtain ⟨W6,hW6⟩:∃ W,W=W5.setCell ⟨w.heap.size+2,0,none⟩ (.string TT):=⟨_,rfl⟩
  have HM6:=hide (show Blk W6 (w.heap.size+2) 151 [.string TT,.slice none 0 0,.int .u64 0,.string S0,.string S0] by rw[hW6];exact m5.set 0 _)
  have HP6:=hide (show Blk W6 w2.heap.size 187 [.string (str l2),.int .i64 e2] by rw[hW6,← uh HT2];exact p5.other _ _ (by simp;omega))
  have HO6:=hide (show Blk W6 w.heap.size 47 [.int .i64 3,.string SD] by rw[hW6,hW5];exact ((o4.other _ _ (by simp;omega)).other _ _ (by simp;omega)).other _ _ (by simp))
  have HR6:=hide (show Blk W6 (w.heap.size+1) 151 [.string S0,.slice none 0 0,.int .u64 0,.string S0,.string S0] by rw[hW6,hW5];exact ((r4.other _ _ (by simp;omega)).other _ _ (by simp;omega)).other _ _ (by simp))
  have HG6:=hide (show w.grownBy W6 none by rw[hW6,hW5];exact zad (zad (zad G4 _ _ (Or.inl (by simp;omega))) _ _ (Or.inl (by simp;omega))) _ _ (Or.inl (by simp)))
  have hs6:w.heap.size≤W6.heap.size:=(uh HG6).size
  obtain ⟨HW5,HW6⟩:=zh2 hW5 hW6
  clear c2 q0 q1 gC p4 o4 r4 m4 G4 hW5 hW6 p5 m5 HW3 HP3 HGB g4
  go_wp2_with (first | (rw[← uh HW6]) | (rw[← uh HW5]))
  clear a0 a1 za0 za1 b0 zb0
  go_loopw [8] (fun i wr=>∃ (j:Nat) (qs:List (List UInt8)) (l' : List UInt8) (e' : Int) (v:Value),i = .int .u64 (j:Int)∧j≤n∧Hid (runQ (l2,e2) j=(qs,l',e'))∧Hid (∀ i,i<j→(runQ (l2,e2) i).2.2=0)∧Stg wr W6.heap.size v qs∧Hid (Blk wr w2.heap.size 187 [.string (str l'),.int .i64 e'])∧Hid (Blk wr (w.heap.size+2) 151 [.string TT,v,.int .u64 0,.string S0,.string S0])∧Hid (Blk wr w.heap.size 47 [.int .i64 3,.string SD])∧Hid (Blk wr (w.heap.size+1) 151 [.string S0,.slice none 0 0,.int .u64 0,.string S0,.string S0])∧w.grownBy wr none∧W6.heap.size≤wr.heap.size) (fun i _=>n - (intOf i).toNat)
  case atStart=>exact ⟨0,[],l2,e2,.slice none 0 0,rfl,Nat.zero_le _,rfl,(fun i hi=>by omega),Stg.nil _ _,HP6,HM6,HO6,HR6,uh HG6,Nat.le_refl _⟩
  case round =>
   obtain ⟨j,qs,l',e',v,rfl,hj,HE,HALL,ho,HPR,HMB,HOB,HRB,hg,hsz⟩:=hrel
   have hlf:l'.length≤100000:=by have:=zrr (l2,e2) j;rw[uh HE] at this;exact Nat.le_trans this hl2a
   have hel:qs.length=j:=by have:=zn1 (l2,e2) j;rw[uh HE] at this;exact this
   have p0:=(uh HPR).cell 0
   have p1:=(uh HPR).cell 1
   simp only[List.getElem?_cons_zero,List.getElem?_cons_succ] at p0 p1
   by_cases hgo:j<n∧e'=0
   ·obtain ⟨hlt,he0⟩:=hgo
    subst he0
    obtain ⟨⟨y,l3,e3⟩,h3⟩:∃ a,rawS l' 0 32=a:=⟨_,rfl⟩
    have hrd:=zpg (uh HE) h3
    have c3:∀ V,Calls Tryz.prog 107 #[.agg #[.string (str l'),.int .i64 0],.int .i64 32] V fun r w'=>r = .returned (.tuple #[.agg #[.string (str l3),.int .i64 e3],.string (str y)])∧V.grownBy w' none:=fun V=>by
     have:=zga V l' 0 32 (by omega)
     rw[h3] at this
     exact this
    obtain ⟨TL,hTL⟩:∃ T,T=str l':=⟨_,rfl⟩
    obtain ⟨T3,hT3⟩:∃ T,T=str l3:=⟨_,rfl⟩
    obtain ⟨TY,hTY⟩:∃ T,T=str y:=⟨_,rfl⟩
    rw[← hTL] at c3 p0
    rw[← hT3,← hTY] at c3
    have hall2:∀ i,i<j+1→(runQ (l2,e2) i).2.2=0:=by
     intro i hi
     by_cases h:i<j
     ·exact uh HALL i h
     ·have:i=j:=by omega
      rw[this,uh HE]
    obtain ⟨HRD,HAL,HT3,HTY⟩:=zh4 hrd hall2 hT3 hTY
    have hj9:qs.length≤1000000:=by omega
    clear hrd hall2 hTL hT3 hTY h3 HALL HE hel hlf
    go_wp2_with fail
    refine (c3 _).mono ?_
    rintro e w6 ⟨rfl,gA⟩
    obtain ⟨W7,hW7,b7,g7⟩:∃ W,W=w6.alloc (.cells #[.string T3,.int .i64 e3] 187)∧Blk W w6.heap.size 187 [.string T3,.int .i64 e3]∧w6.grownBy W none:=zag w6 _ _
    have gB:=tn gA g7
    have p7:=(uh HPR).kept gB (by simp)
    have o7:=(uh HOB).kept gB (by simp)
    have m7:=(uh HMB).kept gB (by simp)
    have r7:=(uh HRB).kept gB (by simp)
    have s7:=ho.kept gB
    have G7:=tn hg gB
    have hs7:=Nat.le_trans hsz gB.size
    have a0:=p7.cell 0
    have a1:=p7.cell 1
    have za0:=p7.fz 0
    have za1:=p7.fz 1
    have b0:=b7.cell 0
    have b1:=b7.cell 1
    simp only[List.getElem?_cons_zero,List.getElem?_cons_succ] at a0 a1 b0 b1
    obtain ⟨W8,hW8⟩:∃ W,W=(W7.setCell ⟨w2.heap.size,0,none⟩ (.string T3)).setCell ⟨w2.heap.size,1,none⟩ (.int .i64 e3):=⟨_,rfl⟩
    have p8:Blk W8 w2.heap.size 187 [.string T3,.int .i64 e3]:=by rw[hW8];exact (p7.set 0 _).set 1 _
    have o8:Blk W8 w.heap.size 47 [.int .i64 3,.string SD]:=by rw[hW8];exact (o7.other _ _ (by simp;omega)).other _ _ (by simp;omega)
    have r8:Blk W8 (w.heap.size+1) 151 [.string S0,.slice none 0 0,.int .u64 0,.string S0,.string S0]:=by rw[hW8];exact (r7.other _ _ (by simp;omega)).other _ _ (by simp;omega)
    have m8:Blk W8 (w.heap.size+2) 151 [.string TT,v,.int .u64 0,.string S0,.string S0]:=by rw[hW8];exact (m7.other _ _ (by simp;omega)).other _ _ (by simp;omega)
    have s8:Stg W8 W6.heap.size v qs:=by rw[hW8];exact zan (zan s7 p7 (by decide) 0 _) (p7.set 0 _) (by decide) 1 _
    have G8:w.grownBy W8 none:=by rw[hW8];exact zad (zad G7 _ _ (Or.inl (by simp;omega))) _ _ (Or.inl (by simp;omega))
    have hs8:W6.heap.size≤W8.heap.size:=by rw[hW8];simpa[World.setCell] using hs7
    have d1:=m8.cell 1
    simp only[List.getElem?_cons_zero,List.getElem?_cons_succ] at d1
    have hbs:=zxk TY W8
    obtain ⟨W9,hW9,b9,g9⟩:∃ W,W=W8.alloc (.cells #[.string TY] 9)∧Blk W W8.heap.size 9 [.string TY]∧W8.grownBy W none:=zag W8 _ _
    have hcE:W9.cell? ⟨W8.heap.size,0,none⟩=some (stv y):=by rw[b9.cell 0,uh HTY];rfl
    have HS9:=hide (s8.kept g9)
    have HP9:=hide (p8.kept g9 (by simp))
    have HO9:=hide (o8.kept g9 (by simp))
    have HM9:=hide (m8.kept g9 (by simp))
    have HR9:=hide (r8.kept g9 (by simp))
    have HG9:=hide (tn G8 g9)
    have HZ9:=hide (Nat.le_trans hs8 g9.size)
    obtain ⟨HW7,HW8,HW9,HCE,HBS⟩:=zh5 hW7 hW8 hW9 hcE hbs
    clear c3 gA gB g7 g9 hW7 hW8 hW9 b7 b9 p7 o7 m7 r7 s7 G7 hs7 p8 o8 r8 m8 s8 G8 hs8 hbs hcE ho hg hsz HPR HOB HMB HRB p0 p1
    go_wp2_with (first
     | (refine zaq rfl 25 _ rfl (.string TY) _ rfl (uh HBS) ?_;rw[← uh HW9])
     | (refine zb4 rfl _ _ rfl W6.heap.size _ _ y _ rfl (uh HS9) rfl (uh HCE) hj9 (uh HZ9) ?_;intro va wa hoa ga;obtain ⟨qa,ka,ea,_⟩:=hoa.open;subst ea;have GA:=zae (uh HG9) ga (fun x e=>Or.inl (Nat.le_trans hs6 ((uh HS9).lt x e).1));have HPA:=hide ((uh HP9).kept ga (zay (uh HS9) (uh HP9) (by decide)));have HOA:=hide ((uh HO9).kept ga (zay (uh HS9) (uh HO9) (by decide)));have mA:=(uh HM9).kept ga (zay (uh HS9) (uh HM9) (by decide));have HRA:=hide ((uh HR9).kept ga (zay (uh HS9) (uh HR9) (by decide)));have HZA:=hide (Nat.le_trans (uh HZ9) ga.size);have HOAA:=hide hoa;have HGA:=hide GA;have HMA:=hide mA;have f1:=mA.cell 1;have zf1:=mA.fz 1;simp only[List.getElem?_cons_zero,List.getElem?_cons_succ] at f1;clear hoa ga GA mA)
     | (rw[← uh HW8])
     | (rw[← uh HW7]))
    go_roundw
    case rel =>
     have hOA2:=uh HOAA
     rw[show (qs++[y]).length=qs.length+1 by simp] at hOA2
     refine ⟨j+1,qs++[y],l3,e3,.slice qa (qs.length+1) ka,by go_num,by omega,HRD,HAL,zan hOA2 (uh HMA) (by decide) 1 _,?_,?_,?_,?_,zad (uh HGA) _ _ (Or.inl (by simp;omega)),by simpa[World.setCell] using uh HZA⟩
     ·rw[← uh HT3]
      exact hide ((uh HPA).other _ _ (by simp;omega))
     ·exact hide ((uh HMA).set 1 (.slice qa (qs.length+1) ka))
     ·exact hide ((uh HOA).other _ _ (by simp;omega))
     ·exact hide ((uh HRA).other _ _ (by simp))
    case measure=>simp[intOf];omega
   ·have hstop:zra (fun i=>(runQ (l2,e2) i).2.2) n j:=by
     refine ⟨hj,uh HALL,?_⟩
     by_cases h:j=n
     ·exact Or.inl h
     ·right
      show (runQ (l2,e2) j).2.2≠0
      rw[uh HE]
      intro h2
      exact hgo ⟨by omega,h2⟩
    obtain ⟨hs1,hs2b⟩:=uh HSA j hstop
    obtain ⟨⟨tm,l4,e4⟩,h4⟩:∃ a,numS l' e' 8=a:=⟨_,rfl⟩
    obtain ⟨⟨nm,l5,e5⟩,h5⟩:∃ a,zap l4 e4=a:=⟨_,rfl⟩
    obtain ⟨⟨tx,l6,e6⟩,h6⟩:∃ a,zap l5 e5=a:=⟨_,rfl⟩
    rw[uh HRC j qs l' e' tm l4 e4 nm l5 e5 tx l6 e6 (uh HE) h4 h5 h6] at hs1 hs2b
    simp only at hs1 hs2b
    have htm:=zn0 l' e'
    have hn4:=zbr l' e' 8
    rw[h4] at htm hn4
    have hn5:=zbk l4 e4
    have hm5:=zcr l4 e4
    rw[h5] at hn5 hm5
    have hn6:=zbk l5 e5
    have hm6:=zcr l5 e5
    rw[h6] at hn6 hm6
    simp only at htm hn4 hn5 hm5 hn6 hm6
    have hsmall:=zpf (l2,e2) j
    rw[uh HE] at hsmall
    obtain ⟨po,pc,hv,_⟩:=ho.open
    subst hv
    obtain ⟨m,hm⟩:∃ m,m=qs.length:=⟨_,rfl⟩
    obtain ⟨r,hr⟩:∃ r,r=zcf ⟨t0,qs,tm,nm,tx⟩:=⟨_,rfl⟩
    obtain ⟨Dn,hDn⟩:∃ D,D=zd6 l6 e6:=⟨_,rfl⟩
    rw[← hr,← hDn] at hs1
    have c8:∀ V,Calls Tryz.prog 108 #[.agg #[.string (str l'),.int .i64 e'],.int .i64 8] V fun r w'=>r = .returned (.tuple #[.agg #[.string (str l4),.int .i64 e4],.int .u64 (tm:Int)])∧V.grownBy w' none:=fun V=>by
     have:=zei V l' e' 8 (by omega)
     rw[h4] at this
     exact this
    have c9:∀ V,Calls Tryz.prog 109 #[.agg #[.string (str l4),.int .i64 e4]] V fun r w'=>r = .returned (.tuple #[.agg #[.string (str l5),.int .i64 e5],.string (str nm)])∧V.grownBy w' none:=fun V=>by
     have:=zig V l4 e4 (by omega)
     rw[h5] at this
     exact this
    have c10:∀ V,Calls Tryz.prog 109 #[.agg #[.string (str l5),.int .i64 e5]] V fun r w'=>r = .returned (.tuple #[.agg #[.string (str l6),.int .i64 e6],.string (str tx)])∧V.grownBy w' none:=fun V=>by
     have:=zig V l5 e5 (by omega)
     rw[h6] at this
     exact this
    have c11:∀ V,Calls Tryz.prog 110 #[.agg #[.string (str l6),.int .i64 e6]] V fun r w'=>r = .returned (.int .i64 Dn)∧V.grownBy w' none:=fun V=>by rw[hDn];exact zif V l6 e6 (by omega)
    have ht0:t0.length≤100000:=ht0l
    have c12:∀ V,Stg V W6.heap.size (.slice po m pc) qs→Calls Tryz.prog 111 #[.agg #[.string TT,.slice po m pc,.int .u64 (tm:Int),.string (str nm),.string (str tx)]] V fun e w'=>zlf V w' 3 r e:=fun V hS=>by
     obtain ⟨a9,b9,e9,h9⟩:=hS.open
     injection e9 with e9a e9b e9c
     subst e9a e9c
     have:=zpd V ⟨t0,qs,tm,nm,tx⟩ po pc _ h9 ht0 (fun x hx=>Nat.le_trans (hsmall x hx) (by omega)) (by simp only;omega) htm (by simp only;omega) (by simp only;omega)
     rw[← hr] at this
     rw[uh HTT,hm]
     exact this
    have hbad:¬ (Dn=0∧r=(0,d))→RT=(11,⟨[],[],0,[],[]⟩):=fun h=>by rw[uh HRT,if_neg (fun h2=>h (hs1.2 h2))]
    have hgood:Dn=0∧r=(0,d)→RT=(0,⟨t0,qs,tm,nm,tx⟩):=fun h=>by
     have h2:=hs1.1 h
     rw[uh HRT,if_pos h2,hs2b h2]
    obtain ⟨TL,hTL⟩:∃ T,T=str l':=⟨_,rfl⟩
    obtain ⟨T4,hT4⟩:∃ T,T=str l4:=⟨_,rfl⟩
    obtain ⟨T5,hT5⟩:∃ T,T=str l5:=⟨_,rfl⟩
    obtain ⟨T6,hT6⟩:∃ T,T=str l6:=⟨_,rfl⟩
    obtain ⟨TN,hTN⟩:∃ T,T=str nm:=⟨_,rfl⟩
    obtain ⟨TX,hTX⟩:∃ T,T=str tx:=⟨_,rfl⟩
    rw[← hTL] at c8 p0
    rw[← hT4] at c8 c9
    rw[← hT5] at c9 c10
    rw[← hT6] at c10 c11
    rw[← hTN] at c9 c12
    rw[← hTX] at c10 c12
    have hrcc:rcC ⟨t0,qs,tm,nm,tx⟩ po pc=[.string TT,.slice po m pc,.int .u64 (tm:Int),.string TN,.string TX]:=by rw[uh HTT,hTN,hTX,hm];rfl
    have HRCC:=hide hrcc
    have HPw:Hid (Blk wr w2.heap.size 187 [.string TL,.int .i64 e']):=by rw[hTL];exact HPR
    have HMw:Hid (Blk wr (w.heap.size+2) 151 [.string TT,.slice po m pc,.int .u64 0,.string S0,.string S0]):=by rw[hm];exact HMB
    have HSw:Hid (Stg wr W6.heap.size (.slice po m pc) qs):=by rw[hm];exact ho
    have HOw:=HOB
    have HRw:=HRB
    obtain ⟨HGw,HM,HBAD,HGOOD,HC12⟩:=zh5 hg hm hbad hgood c12
    have hcond:¬ j<n∨(j<n∧e'≠0):=by
     by_cases h:j<n
     ·exact Or.inr ⟨h,fun h2=>hgo ⟨h,h2⟩⟩
     ·exact Or.inl h
    clear hgo hstop hs1 hs2b hsmall hr hDn hbad hgood hTL hT4 hT5 hT6 hTN hTX hm hrcc ho hg HALL HE hel hlf h4 h5 h6 htm hn4 hn5 hm5 hn6 hm6 c12 HPR HMB HOB HRB ht0
    rcases hcond with hA | ⟨hA,hB⟩
    ·skip
     go_wp2_with fail
     refine (c8 _).mono ?_
     rintro e w13 ⟨rfl,g13⟩
     clear c8 p0 p1
     have o13:=(uh HOw).kept g13 (by simp)
     have r13:=(uh HRw).kept g13 (by simp)
     have m13:=(uh HMw).kept g13 (by simp)
     have p13:=(uh HPw).kept g13 (by simp)
     have s13:=(uh HSw).kept g13
     have G13:=tn (uh HGw) g13
     have a0:=p13.cell 0
     have a1:=p13.cell 1
     have za0:=p13.fz 0
     have za1:=p13.fz 1
     simp only[List.getElem?_cons_zero,List.getElem?_cons_succ] at a0 a1
     obtain ⟨W14,hW14⟩:∃ W,W=(w13.setCell ⟨w2.heap.size,0,none⟩ (.string T4)).setCell ⟨w2.heap.size,1,none⟩ (.int .i64 e4):=⟨_,rfl⟩
     have p14:Blk W14 w2.heap.size 187 [.string T4,.int .i64 e4]:=by rw[hW14];exact (p13.set 0 _).set 1 _
     have m14:Blk W14 (w.heap.size+2) 151 [.string TT,.slice po m pc,.int .u64 0,.string S0,.string S0]:=by rw[hW14];exact (m13.other _ _ (by simp;omega)).other _ _ (by simp;omega)
     have s14:Stg W14 W6.heap.size (.slice po m pc) qs:=by rw[hW14];exact zan (zan s13 p13 (by decide) 0 _) (p13.set 0 _) (by decide) 1 _
     have b1:=m14.cell 2
     have zb1:=m14.fz 2
     simp only[List.getElem?_cons_zero,List.getElem?_cons_succ] at b1
     obtain ⟨W15,hW15⟩:∃ W,W=W14.setCell ⟨w.heap.size+2,2,none⟩ (.int .u64 (tm:Int)):=⟨_,rfl⟩
     have HM15:=hide (show Blk W15 (w.heap.size+2) 151 [.string TT,.slice po m pc,.int .u64 (tm:Int),.string S0,.string S0] by rw[hW15];exact m14.set 2 _)
     have p15:Blk W15 w2.heap.size 187 [.string T4,.int .i64 e4]:=by rw[hW15];exact p14.other _ _ (by simp;omega)
     have HO15:=hide (show Blk W15 w.heap.size 47 [.int .i64 3,.string SD] by rw[hW15,hW14];exact ((o13.other _ _ (by simp;omega)).other _ _ (by simp;omega)).other _ _ (by simp))
     have HR15:=hide (show Blk W15 (w.heap.size+1) 151 [.string S0,.slice none 0 0,.int .u64 0,.string S0,.string S0] by rw[hW15,hW14];exact ((r13.other _ _ (by simp;omega)).other _ _ (by simp;omega)).other _ _ (by simp))
     have HS15:=hide (show Stg W15 W6.heap.size (.slice po m pc) qs by rw[hW15];exact zan s14 m14 (by decide) 2 _)
     have HG15:=hide (show w.grownBy W15 none by rw[hW15,hW14];exact zad (zad (zad G13 _ _ (Or.inl (by simp;omega))) _ _ (Or.inl (by simp;omega))) _ _ (Or.inl (by simp)))
     have q0:=p15.cell 0
     have q1:=p15.cell 1
     simp only[List.getElem?_cons_zero,List.getElem?_cons_succ] at q0 q1
     obtain ⟨HP15,HW14,HW15⟩:=zh3 p15 hW14 hW15
     clear hW14 hW15 p15 o13 r13 m13 p13 s13 G13 p14 m14 s14 g13
     go_wp2_with (first | (rw[← uh HW15]) | (rw[← uh HW14]))
     refine (c9 _).mono ?_
     rintro e w16 ⟨rfl,g16⟩
     clear c9 q0 q1 a0 a1 za0 za1 b1 zb1 HW14 HW15
     have o16:=(uh HO15).kept g16 (by simp)
     have r16:=(uh HR15).kept g16 (by simp)
     have m16:=(uh HM15).kept g16 (by simp)
     have p16:=(uh HP15).kept g16 (by simp)
     have s16:=(uh HS15).kept g16
     have G16:=tn (uh HG15) g16
     have a0:=p16.cell 0
     have a1:=p16.cell 1
     have za0:=p16.fz 0
     have za1:=p16.fz 1
     simp only[List.getElem?_cons_zero,List.getElem?_cons_succ] at a0 a1
     obtain ⟨W17,hW17⟩:∃ W,W=(w16.setCell ⟨w2.heap.size,0,none⟩ (.string T5)).setCell ⟨w2.heap.size,1,none⟩ (.int .i64 e5):=⟨_,rfl⟩
     have p17:Blk W17 w2.heap.size 187 [.string T5,.int .i64 e5]:=by rw[hW17];exact (p16.set 0 _).set 1 _
     have m17:Blk W17 (w.heap.size+2) 151 [.string TT,.slice po m pc,.int .u64 (tm:Int),.string S0,.string S0]:=by rw[hW17];exact (m16.other _ _ (by simp;omega)).other _ _ (by simp;omega)
     have s17:Stg W17 W6.heap.size (.slice po m pc) qs:=by rw[hW17];exact zan (zan s16 p16 (by decide) 0 _) (p16.set 0 _) (by decide) 1 _
     have b1:=m17.cell 3
     have zb1:=m17.fz 3
     simp only[List.getElem?_cons_zero,List.getElem?_cons_succ] at b1
     obtain ⟨W18,hW18⟩:∃ W,W=W17.setCell ⟨w.heap.size+2,3,none⟩ (.string TN):=⟨_,rfl⟩
     have HM18:=hide (show Blk W18 (w.heap.size+2) 151 [.string TT,.slice po m pc,.int .u64 (tm:Int),.string TN,.string S0] by rw[hW18];exact m17.set 3 _)
     have p18:Blk W18 w2.heap.size 187 [.string T5,.int .i64 e5]:=by rw[hW18];exact p17.other _ _ (by simp;omega)
     have HO18:=hide (show Blk W18 w.heap.size 47 [.int .i64 3,.string SD] by rw[hW18,hW17];exact ((o16.other _ _ (by simp;omega)).other _ _ (by simp;omega)).other _ _ (by simp))
     have HR18:=hide (show Blk W18 (w.heap.size+1) 151 [.string S0,.slice none 0 0,.int .u64 0,.string S0,.string S0] by rw[hW18,hW17];exact ((r16.other _ _ (by simp;omega)).other _ _ (by simp;omega)).other _ _ (by simp))
     have HS18:=hide (show Stg W18 W6.heap.size (.slice po m pc) qs by rw[hW18];exact zan s17 m17 (by decide) 3 _)
     have HG18:=hide (show w.grownBy W18 none by rw[hW18,hW17];exact zad (zad (zad G16 _ _ (Or.inl (by simp;omega))) _ _ (Or.inl (by simp;omega))) _ _ (Or.inl (by simp)))
     have q0:=p18.cell 0
     have q1:=p18.cell 1
     simp only[List.getElem?_cons_zero,List.getElem?_cons_succ] at q0 q1
     obtain ⟨HP18,HW17,HW18⟩:=zh3 p18 hW17 hW18
     clear hW17 hW18 p18 o16 r16 m16 p16 s16 G16 p17 m17 s17 g16
     go_wp2_with (first | (rw[← uh HW18]) | (rw[← uh HW17]))
     refine (c10 _).mono ?_
     rintro e w19 ⟨rfl,g19⟩
     clear c10 q0 q1 a0 a1 za0 za1 b1 zb1 HW17 HW18
     have o19:=(uh HO18).kept g19 (by simp)
     have r19:=(uh HR18).kept g19 (by simp)
     have m19:=(uh HM18).kept g19 (by simp)
     have p19:=(uh HP18).kept g19 (by simp)
     have s19:=(uh HS18).kept g19
     have G19:=tn (uh HG18) g19
     have a0:=p19.cell 0
     have a1:=p19.cell 1
     have za0:=p19.fz 0
     have za1:=p19.fz 1
     simp only[List.getElem?_cons_zero,List.getElem?_cons_succ] at a0 a1
     obtain ⟨W20,hW20⟩:∃ W,W=(w19.setCell ⟨w2.heap.size,0,none⟩ (.string T6)).setCell ⟨w2.heap.size,1,none⟩ (.int .i64 e6):=⟨_,rfl⟩
     have p20:Blk W20 w2.heap.size 187 [.string T6,.int .i64 e6]:=by rw[hW20];exact (p19.set 0 _).set 1 _
     have m20:Blk W20 (w.heap.size+2) 151 [.string TT,.slice po m pc,.int .u64 (tm:Int),.string TN,.string S0]:=by rw[hW20];exact (m19.other _ _ (by simp;omega)).other _ _ (by simp;omega)
     have s20:Stg W20 W6.heap.size (.slice po m pc) qs:=by rw[hW20];exact zan (zan s19 p19 (by decide) 0 _) (p19.set 0 _) (by decide) 1 _
     have b1:=m20.cell 4
     have zb1:=m20.fz 4
     simp only[List.getElem?_cons_zero,List.getElem?_cons_succ] at b1
     obtain ⟨W21,hW21⟩:∃ W,W=W20.setCell ⟨w.heap.size+2,4,none⟩ (.string TX):=⟨_,rfl⟩
     have HM21:=hide (show Blk W21 (w.heap.size+2) 151 [.string TT,.slice po m pc,.int .u64 (tm:Int),.string TN,.string TX] by rw[hW21];exact m20.set 4 _)
     have p21:Blk W21 w2.heap.size 187 [.string T6,.int .i64 e6]:=by rw[hW21];exact p20.other _ _ (by simp;omega)
     have HO21:=hide (show Blk W21 w.heap.size 47 [.int .i64 3,.string SD] by rw[hW21,hW20];exact ((o19.other _ _ (by simp;omega)).other _ _ (by simp;omega)).other _ _ (by simp))
     have HR21:=hide (show Blk W21 (w.heap.size+1) 151 [.string S0,.slice none 0 0,.int .u64 0,.string S0,.string S0] by rw[hW21,hW20];exact ((r19.other _ _ (by simp;omega)).other _ _ (by simp;omega)).other _ _ (by simp))
     have HS21:=hide (show Stg W21 W6.heap.size (.slice po m pc) qs by rw[hW21];exact zan s20 m20 (by decide) 4 _)
     have HG21:=hide (show w.grownBy W21 none by rw[hW21,hW20];exact zad (zad (zad G19 _ _ (Or.inl (by simp;omega))) _ _ (Or.inl (by simp;omega))) _ _ (Or.inl (by simp)))
     have q0:=p21.cell 0
     have q1:=p21.cell 1
     simp only[List.getElem?_cons_zero,List.getElem?_cons_succ] at q0 q1
     obtain ⟨HP21,HW20,HW21⟩:=zh3 p21 hW20 hW21
     clear hW20 hW21 p21 o19 r19 m19 p19 s19 G19 p20 m20 s20 g19
     go_wp2_with (first | (rw[← uh HW21]) | (rw[← uh HW20]))
     refine (c11 _).mono ?_
     rintro e w22 ⟨rfl,g22⟩
     clear c11 q0 q1 a0 a1 za0 za1 b1 zb1 HW20 HW21
     have o22:=(uh HO21).kept g22 (by simp)
     have r22:=(uh HR21).kept g22 (by simp)
     have m22:=(uh HM21).kept g22 (by simp)
     have s22:=(uh HS21).kept g22
     have G22:=tn (uh HG21) g22
     have hfive:∀ V:World,Blk V (w.heap.size+1) 151 [.string S0,.slice none 0 0,.int .u64 0,.string S0,.string S0]→w.grownBy V none→∀ a b c d e:Value,w.grownBy (((((V.setCell ⟨w.heap.size+1,0,none⟩ a).setCell ⟨w.heap.size+1,1,none⟩ b).setCell ⟨w.heap.size+1,2,none⟩ c).setCell ⟨w.heap.size+1,3,none⟩ d).setCell ⟨w.heap.size+1,4,none⟩ e) none∧Blk (((((V.setCell ⟨w.heap.size+1,0,none⟩ a).setCell ⟨w.heap.size+1,1,none⟩ b).setCell ⟨w.heap.size+1,2,none⟩ c).setCell ⟨w.heap.size+1,3,none⟩ d).setCell ⟨w.heap.size+1,4,none⟩ e) (w.heap.size+1) 151 [a,b,c,d,e]:=fun V hB gV a b c d e=>⟨zad (zad (zad (zad (zad gV _ _ (Or.inl (Nat.le_succ _))) _ _ (Or.inl (Nat.le_succ _))) _ _ (Or.inl (Nat.le_succ _))) _ _ (Or.inl (Nat.le_succ _))) _ _ (Or.inl (Nat.le_succ _)),((((hB.set 0 a).set 1 b).set 2 c).set 3 d).set 4 e⟩
     by_cases hD0:Dn=0
     ·subst hD0
      have n0:=m22.cell 0
      have n1:=m22.cell 1
      have n2:=m22.cell 2
      have n3:=m22.cell 3
      have n4:=m22.cell 4
      simp only[List.getElem?_cons_zero,List.getElem?_cons_succ] at n0 n1 n2 n3 n4
      have c12:=uh HC12 w22 s22
      obtain ⟨HO22,HR22,HM22,HS22,HG22,HFV⟩:=zh6 o22 r22 m22 s22 G22 hfive
      clear o22 r22 m22 s22 G22 hfive g22
      go_wp2_with fail
      refine c12.mono ?_
      rintro e w23 ⟨rfl,g23⟩
      obtain ⟨K,hK⟩:∃ K:Int,K=(if r.1=0 then 3 else 0):=⟨_,rfl⟩
      obtain ⟨x,hx⟩:∃ x:Int,x=r.1:=⟨_,rfl⟩
      obtain ⟨SS,hSS⟩:∃ S,S=str r.2:=⟨_,rfl⟩
      rw[← hK,← hx,← hSS]
      obtain ⟨HK,HX,HSS⟩:=zh3 hK hx hSS
      clear hK hx hSS c12 n0 n1 n2 n3 n4
      obtain ⟨W24,hW24,j24,g24⟩:∃ W,W=w23.alloc (.cells #[.int .i64 K,.string SS] 47)∧Blk W w23.heap.size 47 [.int .i64 K,.string SS]∧w23.grownBy W none:=zag w23 _ _
      have gf:=tn g23 g24
      have o24:=(uh HO22).kept gf (by simp)
      have r24:=(uh HR22).kept gf (by simp)
      have m24:=(uh HM22).kept gf (by simp)
      have s24:=(uh HS22).kept gf
      have G24:=tn (uh HG22) gf
      have o0:=o24.cell 0
      have o1:=o24.cell 1
      have j0:=j24.cell 0
      have j1:=j24.cell 1
      have t0c:=r24.cell 0
      have t1c:=r24.cell 1
      have t2c:=r24.cell 2
      have t3c:=r24.cell 3
      have t4c:=r24.cell 4
      have y0:=r24.fz 0
      have y1:=r24.fz 1
      have y2:=r24.fz 2
      have y3:=r24.fz 3
      have y4:=r24.fz 4
      have n0:=m24.cell 0
      have n1:=m24.cell 1
      have n2:=m24.cell 2
      have n3:=m24.cell 3
      have n4:=m24.cell 4
      simp only[List.getElem?_cons_zero,List.getElem?_cons_succ] at o0 o1 j0 j1 t0c t1c t2c t3c t4c n0 n1 n2 n3 n4
      have hneq:(binOp .neq 47 (.agg #[.int .i64 K,.string SS]) (.agg #[.int .i64 3,.string SD])).run Tryz.prog W24 = .ok (.bool (!(K == 3 && r.2 == d))) W24:=by
       have:=zgc W24 K 3 r.2 d
       rwa [← uh HSS,← uh HSD] at this
      have HFR:=hide (uh HFV W24 r24 G24)
      have HR24:=hide r24
      have HS24:=hide (za7 s24 hs6)
      have HW24:=hide hW24
      clear o24 r24 m24 s24 G24 gf j24 g23 g24 hW24
      by_cases hx0:x=0
      ·have hK4:K=3:=by rw[uh HK,if_pos (by rw[← uh HX];exact hx0)]
       subst hK4
       have hr0:r.1=0:=by rw[← uh HX];exact hx0
       by_cases hrd:r.2=d
       ·have hres:=uh HGOOD ⟨by simp,by rw[← hrd,← hr0]⟩
        have HRS:=hide hres
        rw[show (!((3:Int) == 3 && r.2 == d))=false by simp[hrd]] at hneq
        clear hres hrd hr0 HBAD HGOOD
        subst hx0
        go_wp2_with (first | (refine zcb (by rfl) _ _ _ _ rfl _ _ _ rfl rfl zb9 hneq ?_) | (rw[← uh HW24]))
        refine bodyPost_ret (zai rfl _ _ _ _ _ _ _ rfl (uh HFR _ _ _ _ _).2 Tryz.underlying151 rfl zcn) rfl ?_
        refine ⟨po,pc,0,?_,by rw[uh HRS],?_,(uh HFR _ _ _ _ _).1⟩
        ·rw[uh HRS]
         simp only
         rw[uh HRCC]
         rfl
        ·rw[uh HRS]
         simp only
         rw[← uh HM]
         exact zan (zan (zan (zan (zan (uh HS24) (uh HR24) (by decide) 0 _) ((uh HR24).set 0 _) (by decide) 1 _) (((uh HR24).set 0 _).set 1 _) (by decide) 2 _) ((((uh HR24).set 0 _).set 1 _).set 2 _) (by decide) 3 _) (((((uh HR24).set 0 _).set 1 _).set 2 _).set 3 _) (by decide) 4 _
       ·have hres:=uh HBAD (fun h=>hrd (by rw[h.2]))
        have HRS:=hide hres
        rw[show (!((3:Int) == 3 && r.2 == d))=true by simp[hrd]] at hneq
        clear hres hrd hr0 HBAD HGOOD
        subst hx0
        go_wp2_with (first | (refine zcb (by rfl) _ _ _ _ rfl _ _ _ rfl rfl zb9 hneq ?_) | (rw[← uh HW24]))
        refine bodyPost_ret (zai rfl _ _ _ _ _ _ _ rfl (uh HFR _ _ _ _ _).2 Tryz.underlying151 rfl zcn) rfl ?_
        exact ⟨none,0,11,by rw[uh HRS];rfl,by rw[uh HRS],by rw[uh HRS];exact Stg.nil _ _,(uh HFR _ _ _ _ _).1⟩
      ·have hx1:(x == 0)=false:=by simpa using hx0
       have hres:=uh HBAD (fun h=>hx0 (by rw[uh HX,h.2]))
       have HRS:=hide hres
       clear hres HBAD HGOOD hneq
       go_wp2_with (rw[← uh HW24])
       refine bodyPost_ret (zai rfl _ _ _ _ _ _ _ rfl (uh HFR _ _ _ _ _).2 Tryz.underlying151 rfl zcn) rfl ?_
       exact ⟨none,0,11,by rw[uh HRS];rfl,by rw[uh HRS],by rw[uh HRS];exact Stg.nil _ _,(uh HFR _ _ _ _ _).1⟩
     ·have hD1:(Dn == 0)=false:=by simpa using hD0
      have hres:=uh HBAD (fun h=>hD0 h.1)
      have HRS:=hide hres
      have t0c:=r22.cell 0
      have t1c:=r22.cell 1
      have t2c:=r22.cell 2
      have t3c:=r22.cell 3
      have t4c:=r22.cell 4
      have y0:=r22.fz 0
      have y1:=r22.fz 1
      have y2:=r22.fz 2
      have y3:=r22.fz 3
      have y4:=r22.fz 4
      simp only[List.getElem?_cons_zero,List.getElem?_cons_succ] at t0c t1c t2c t3c t4c
      have HFR:=hide (hfive w22 r22 G22)
      clear hres HBAD HGOOD o22 r22 m22 s22 G22 hfive g22
      go_wp2
      refine bodyPost_ret (zai rfl _ _ _ _ _ _ _ rfl (uh HFR _ _ _ _ _).2 Tryz.underlying151 rfl zcn) rfl ?_
      exact ⟨none,0,11,by rw[uh HRS];rfl,by rw[uh HRS],by rw[uh HRS];exact Stg.nil _ _,(uh HFR _ _ _ _ _).1⟩
    ·have hB2:(e' == 0)=false:=by simpa using hB
     go_wp2_with fail
     refine (c8 _).mono ?_
     rintro e w13 ⟨rfl,g13⟩
     clear c8 p0 p1
     have o13:=(uh HOw).kept g13 (by simp)
     have r13:=(uh HRw).kept g13 (by simp)
     have m13:=(uh HMw).kept g13 (by simp)
     have p13:=(uh HPw).kept g13 (by simp)
     have s13:=(uh HSw).kept g13
     have G13:=tn (uh HGw) g13
     have a0:=p13.cell 0
     have a1:=p13.cell 1
     have za0:=p13.fz 0
     have za1:=p13.fz 1
     simp only[List.getElem?_cons_zero,List.getElem?_cons_succ] at a0 a1
     obtain ⟨W14,hW14⟩:∃ W,W=(w13.setCell ⟨w2.heap.size,0,none⟩ (.string T4)).setCell ⟨w2.heap.size,1,none⟩ (.int .i64 e4):=⟨_,rfl⟩
     have p14:Blk W14 w2.heap.size 187 [.string T4,.int .i64 e4]:=by rw[hW14];exact (p13.set 0 _).set 1 _
     have m14:Blk W14 (w.heap.size+2) 151 [.string TT,.slice po m pc,.int .u64 0,.string S0,.string S0]:=by rw[hW14];exact (m13.other _ _ (by simp;omega)).other _ _ (by simp;omega)
     have s14:Stg W14 W6.heap.size (.slice po m pc) qs:=by rw[hW14];exact zan (zan s13 p13 (by decide) 0 _) (p13.set 0 _) (by decide) 1 _
     have b1:=m14.cell 2
     have zb1:=m14.fz 2
     simp only[List.getElem?_cons_zero,List.getElem?_cons_succ] at b1
     obtain ⟨W15,hW15⟩:∃ W,W=W14.setCell ⟨w.heap.size+2,2,none⟩ (.int .u64 (tm:Int)):=⟨_,rfl⟩
     have HM15:=hide (show Blk W15 (w.heap.size+2) 151 [.string TT,.slice po m pc,.int .u64 (tm:Int),.string S0,.string S0] by rw[hW15];exact m14.set 2 _)
     have p15:Blk W15 w2.heap.size 187 [.string T4,.int .i64 e4]:=by rw[hW15];exact p14.other _ _ (by simp;omega)
     have HO15:=hide (show Blk W15 w.heap.size 47 [.int .i64 3,.string SD] by rw[hW15,hW14];exact ((o13.other _ _ (by simp;omega)).other _ _ (by simp;omega)).other _ _ (by simp))
     have HR15:=hide (show Blk W15 (w.heap.size+1) 151 [.string S0,.slice none 0 0,.int .u64 0,.string S0,.string S0] by rw[hW15,hW14];exact ((r13.other _ _ (by simp;omega)).other _ _ (by simp;omega)).other _ _ (by simp))
     have HS15:=hide (show Stg W15 W6.heap.size (.slice po m pc) qs by rw[hW15];exact zan s14 m14 (by decide) 2 _)
     have HG15:=hide (show w.grownBy W15 none by rw[hW15,hW14];exact zad (zad (zad G13 _ _ (Or.inl (by simp;omega))) _ _ (Or.inl (by simp;omega))) _ _ (Or.inl (by simp)))
     have q0:=p15.cell 0
     have q1:=p15.cell 1
     simp only[List.getElem?_cons_zero,List.getElem?_cons_succ] at q0 q1
     obtain ⟨HP15,HW14,HW15⟩:=zh3 p15 hW14 hW15
     clear hW14 hW15 p15 o13 r13 m13 p13 s13 G13 p14 m14 s14 g13
     go_wp2_with (first | (rw[← uh HW15]) | (rw[← uh HW14]))
     refine (c9 _).mono ?_
     rintro e w16 ⟨rfl,g16⟩
     clear c9 q0 q1 a0 a1 za0 za1 b1 zb1 HW14 HW15
     have o16:=(uh HO15).kept g16 (by simp)
     have r16:=(uh HR15).kept g16 (by simp)
     have m16:=(uh HM15).kept g16 (by simp)
     have p16:=(uh HP15).kept g16 (by simp)
     have s16:=(uh HS15).kept g16
     have G16:=tn (uh HG15) g16
     have a0:=p16.cell 0
     have a1:=p16.cell 1
     have za0:=p16.fz 0
     have za1:=p16.fz 1
     simp only[List.getElem?_cons_zero,List.getElem?_cons_succ] at a0 a1
     obtain ⟨W17,hW17⟩:∃ W,W=(w16.setCell ⟨w2.heap.size,0,none⟩ (.string T5)).setCell ⟨w2.heap.size,1,none⟩ (.int .i64 e5):=⟨_,rfl⟩
     have p17:Blk W17 w2.heap.size 187 [.string T5,.int .i64 e5]:=by rw[hW17];exact (p16.set 0 _).set 1 _
     have m17:Blk W17 (w.heap.size+2) 151 [.string TT,.slice po m pc,.int .u64 (tm:Int),.string S0,.string S0]:=by rw[hW17];exact (m16.other _ _ (by simp;omega)).other _ _ (by simp;omega)
     have s17:Stg W17 W6.heap.size (.slice po m pc) qs:=by rw[hW17];exact zan (zan s16 p16 (by decide) 0 _) (p16.set 0 _) (by decide) 1 _
     have b1:=m17.cell 3
     have zb1:=m17.fz 3
     simp only[List.getElem?_cons_zero,List.getElem?_cons_succ] at b1
     obtain ⟨W18,hW18⟩:∃ W,W=W17.setCell ⟨w.heap.size+2,3,none⟩ (.string TN):=⟨_,rfl⟩
     have HM18:=hide (show Blk W18 (w.heap.size+2) 151 [.string TT,.slice po m pc,.int .u64 (tm:Int),.string TN,.string S0] by rw[hW18];exact m17.set 3 _)
     have p18:Blk W18 w2.heap.size 187 [.string T5,.int .i64 e5]:=by rw[hW18];exact p17.other _ _ (by simp;omega)
     have HO18:=hide (show Blk W18 w.heap.size 47 [.int .i64 3,.string SD] by rw[hW18,hW17];exact ((o16.other _ _ (by simp;omega)).other _ _ (by simp;omega)).other _ _ (by simp))
     have HR18:=hide (show Blk W18 (w.heap.size+1) 151 [.string S0,.slice none 0 0,.int .u64 0,.string S0,.string S0] by rw[hW18,hW17];exact ((r16.other _ _ (by simp;omega)).other _ _ (by simp;omega)).other _ _ (by simp))
     have HS18:=hide (show Stg W18 W6.heap.size (.slice po m pc) qs by rw[hW18];exact zan s17 m17 (by decide) 3 _)
     have HG18:=hide (show w.grownBy W18 none by rw[hW18,hW17];exact zad (zad (zad G16 _ _ (Or.inl (by simp;omega))) _ _ (Or.inl (by simp;omega))) _ _ (Or.inl (by simp)))
     have q0:=p18.cell 0
     have q1:=p18.cell 1
     simp only[List.getElem?_cons_zero,List.getElem?_cons_succ] at q0 q1
     obtain ⟨HP18,HW17,HW18⟩:=zh3 p18 hW17 hW18
     clear hW17 hW18 p18 o16 r16 m16 p16 s16 G16 p17 m17 s17 g16
     go_wp2_with (first | (rw[← uh HW18]) | (rw[← uh HW17]))
     refine (c10 _).mono ?_
     rintro e w19 ⟨rfl,g19⟩
     clear c10 q0 q1 a0 a1 za0 za1 b1 zb1 HW17 HW18
     have o19:=(uh HO18).kept g19 (by simp)
     have r19:=(uh HR18).kept g19 (by simp)
     have m19:=(uh HM18).kept g19 (by simp)
     have p19:=(uh HP18).kept g19 (by simp)
     have s19:=(uh HS18).kept g19
     have G19:=tn (uh HG18) g19
     have a0:=p19.cell 0
     have a1:=p19.cell 1
     have za0:=p19.fz 0
     have za1:=p19.fz 1
     simp only[List.getElem?_cons_zero,List.getElem?_cons_succ] at a0 a1
     obtain ⟨W20,hW20⟩:∃ W,W=(w19.setCell ⟨w2.heap.size,0,none⟩ (.string T6)).setCell ⟨w2.heap.size,1,none⟩ (.int .i64 e6):=⟨_,rfl⟩
     have p20:Blk W20 w2.heap.size 187 [.string T6,.int .i64 e6]:=by rw[hW20];exact (p19.set 0 _).set 1 _
     have m20:Blk W20 (w.heap.size+2) 151 [.string TT,.slice po m pc,.int .u64 (tm:Int),.string TN,.string S0]:=by rw[hW20];exact (m19.other _ _ (by simp;omega)).other _ _ (by simp;omega)
     have s20:Stg W20 W6.heap.size (.slice po m pc) qs:=by rw[hW20];exact zan (zan s19 p19 (by decide) 0 _) (p19.set 0 _) (by decide) 1 _
     have b1:=m20.cell 4
     have zb1:=m20.fz 4
     simp only[List.getElem?_cons_zero,List.getElem?_cons_succ] at b1
     obtain ⟨W21,hW21⟩:∃ W,W=W20.setCell ⟨w.heap.size+2,4,none⟩ (.string TX):=⟨_,rfl⟩
     have HM21:=hide (show Blk W21 (w.heap.size+2) 151 [.string TT,.slice po m pc,.int .u64 (tm:Int),.string TN,.string TX] by rw[hW21];exact m20.set 4 _)
     have p21:Blk W21 w2.heap.size 187 [.string T6,.int .i64 e6]:=by rw[hW21];exact p20.other _ _ (by simp;omega)
     have HO21:=hide (show Blk W21 w.heap.size 47 [.int .i64 3,.string SD] by rw[hW21,hW20];exact ((o19.other _ _ (by simp;omega)).other _ _ (by simp;omega)).other _ _ (by simp))
     have HR21:=hide (show Blk W21 (w.heap.size+1) 151 [.string S0,.slice none 0 0,.int .u64 0,.string S0,.string S0] by rw[hW21,hW20];exact ((r19.other _ _ (by simp;omega)).other _ _ (by simp;omega)).other _ _ (by simp))
     have HS21:=hide (show Stg W21 W6.heap.size (.slice po m pc) qs by rw[hW21];exact zan s20 m20 (by decide) 4 _)
     have HG21:=hide (show w.grownBy W21 none by rw[hW21,hW20];exact zad (zad (zad G19 _ _ (Or.inl (by simp;omega))) _ _ (Or.inl (by simp;omega))) _ _ (Or.inl (by simp)))
     have q0:=p21.cell 0
     have q1:=p21.cell 1
     simp only[List.getElem?_cons_zero,List.getElem?_cons_succ] at q0 q1
     obtain ⟨HP21,HW20,HW21⟩:=zh3 p21 hW20 hW21
     clear hW20 hW21 p21 o19 r19 m19 p19 s19 G19 p20 m20 s20 g19
     go_wp2_with (first | (rw[← uh HW21]) | (rw[← uh HW20]))
     refine (c11 _).mono ?_
     rintro e w22 ⟨rfl,g22⟩
     clear c11 q0 q1 a0 a1 za0 za1 b1 zb1 HW20 HW21
     have o22:=(uh HO21).kept g22 (by simp)
     have r22:=(uh HR21).kept g22 (by simp)
     have m22:=(uh HM21).kept g22 (by simp)
     have s22:=(uh HS21).kept g22
     have G22:=tn (uh HG21) g22
     have hfive:∀ V:World,Blk V (w.heap.size+1) 151 [.string S0,.slice none 0 0,.int .u64 0,.string S0,.string S0]→w.grownBy V none→∀ a b c d e:Value,w.grownBy (((((V.setCell ⟨w.heap.size+1,0,none⟩ a).setCell ⟨w.heap.size+1,1,none⟩ b).setCell ⟨w.heap.size+1,2,none⟩ c).setCell ⟨w.heap.size+1,3,none⟩ d).setCell ⟨w.heap.size+1,4,none⟩ e) none∧Blk (((((V.setCell ⟨w.heap.size+1,0,none⟩ a).setCell ⟨w.heap.size+1,1,none⟩ b).setCell ⟨w.heap.size+1,2,none⟩ c).setCell ⟨w.heap.size+1,3,none⟩ d).setCell ⟨w.heap.size+1,4,none⟩ e) (w.heap.size+1) 151 [a,b,c,d,e]:=fun V hB gV a b c d e=>⟨zad (zad (zad (zad (zad gV _ _ (Or.inl (Nat.le_succ _))) _ _ (Or.inl (Nat.le_succ _))) _ _ (Or.inl (Nat.le_succ _))) _ _ (Or.inl (Nat.le_succ _))) _ _ (Or.inl (Nat.le_succ _)),((((hB.set 0 a).set 1 b).set 2 c).set 3 d).set 4 e⟩
     by_cases hD0:Dn=0
     ·subst hD0
      have n0:=m22.cell 0
      have n1:=m22.cell 1
      have n2:=m22.cell 2
      have n3:=m22.cell 3
      have n4:=m22.cell 4
      simp only[List.getElem?_cons_zero,List.getElem?_cons_succ] at n0 n1 n2 n3 n4
      have c12:=uh HC12 w22 s22
      obtain ⟨HO22,HR22,HM22,HS22,HG22,HFV⟩:=zh6 o22 r22 m22 s22 G22 hfive
      clear o22 r22 m22 s22 G22 hfive g22
      go_wp2_with fail
      refine c12.mono ?_
      rintro e w23 ⟨rfl,g23⟩
      obtain ⟨K,hK⟩:∃ K:Int,K=(if r.1=0 then 3 else 0):=⟨_,rfl⟩
      obtain ⟨x,hx⟩:∃ x:Int,x=r.1:=⟨_,rfl⟩
      obtain ⟨SS,hSS⟩:∃ S,S=str r.2:=⟨_,rfl⟩
      rw[← hK,← hx,← hSS]
      obtain ⟨HK,HX,HSS⟩:=zh3 hK hx hSS
      clear hK hx hSS c12 n0 n1 n2 n3 n4
      obtain ⟨W24,hW24,j24,g24⟩:∃ W,W=w23.alloc (.cells #[.int .i64 K,.string SS] 47)∧Blk W w23.heap.size 47 [.int .i64 K,.string SS]∧w23.grownBy W none:=zag w23 _ _
      have gf:=tn g23 g24
      have o24:=(uh HO22).kept gf (by simp)
      have r24:=(uh HR22).kept gf (by simp)
      have m24:=(uh HM22).kept gf (by simp)
      have s24:=(uh HS22).kept gf
      have G24:=tn (uh HG22) gf
      have o0:=o24.cell 0
      have o1:=o24.cell 1
      have j0:=j24.cell 0
      have j1:=j24.cell 1
      have t0c:=r24.cell 0
      have t1c:=r24.cell 1
      have t2c:=r24.cell 2
      have t3c:=r24.cell 3
      have t4c:=r24.cell 4
      have y0:=r24.fz 0
      have y1:=r24.fz 1
      have y2:=r24.fz 2
      have y3:=r24.fz 3
      have y4:=r24.fz 4
      have n0:=m24.cell 0
      have n1:=m24.cell 1
      have n2:=m24.cell 2
      have n3:=m24.cell 3
      have n4:=m24.cell 4
      simp only[List.getElem?_cons_zero,List.getElem?_cons_succ] at o0 o1 j0 j1 t0c t1c t2c t3c t4c n0 n1 n2 n3 n4
      have hneq:(binOp .neq 47 (.agg #[.int .i64 K,.string SS]) (.agg #[.int .i64 3,.string SD])).run Tryz.prog W24 = .ok (.bool (!(K == 3 && r.2 == d))) W24:=by
       have:=zgc W24 K 3 r.2 d
       rwa [← uh HSS,← uh HSD] at this
      have HFR:=hide (uh HFV W24 r24 G24)
      have HR24:=hide r24
      have HS24:=hide (za7 s24 hs6)
      have HW24:=hide hW24
      clear o24 r24 m24 s24 G24 gf j24 g23 g24 hW24
      by_cases hx0:x=0
      ·have hK4:K=3:=by rw[uh HK,if_pos (by rw[← uh HX];exact hx0)]
       subst hK4
       have hr0:r.1=0:=by rw[← uh HX];exact hx0
       by_cases hrd:r.2=d
       ·have hres:=uh HGOOD ⟨by simp,by rw[← hrd,← hr0]⟩
        have HRS:=hide hres
        rw[show (!((3:Int) == 3 && r.2 == d))=false by simp[hrd]] at hneq
        clear hres hrd hr0 HBAD HGOOD
        subst hx0
        go_wp2_with (first | (refine zcb (by rfl) _ _ _ _ rfl _ _ _ rfl rfl zb9 hneq ?_) | (rw[← uh HW24]))
        refine bodyPost_ret (zai rfl _ _ _ _ _ _ _ rfl (uh HFR _ _ _ _ _).2 Tryz.underlying151 rfl zcn) rfl ?_
        refine ⟨po,pc,0,?_,by rw[uh HRS],?_,(uh HFR _ _ _ _ _).1⟩
        ·rw[uh HRS]
         simp only
         rw[uh HRCC]
         rfl
        ·rw[uh HRS]
         simp only
         rw[← uh HM]
         exact zan (zan (zan (zan (zan (uh HS24) (uh HR24) (by decide) 0 _) ((uh HR24).set 0 _) (by decide) 1 _) (((uh HR24).set 0 _).set 1 _) (by decide) 2 _) ((((uh HR24).set 0 _).set 1 _).set 2 _) (by decide) 3 _) (((((uh HR24).set 0 _).set 1 _).set 2 _).set 3 _) (by decide) 4 _
       ·have hres:=uh HBAD (fun h=>hrd (by rw[h.2]))
        have HRS:=hide hres
        rw[show (!((3:Int) == 3 && r.2 == d))=true by simp[hrd]] at hneq
        clear hres hrd hr0 HBAD HGOOD
        subst hx0
        go_wp2_with (first | (refine zcb (by rfl) _ _ _ _ rfl _ _ _ rfl rfl zb9 hneq ?_) | (rw[← uh HW24]))
        refine bodyPost_ret (zai rfl _ _ _ _ _ _ _ rfl (uh HFR _ _ _ _ _).2 Tryz.underlying151 rfl zcn) rfl ?_
        exact ⟨none,0,11,by rw[uh HRS];rfl,by rw[uh HRS],by rw[uh HRS];exact Stg.nil _ _,(uh HFR _ _ _ _ _).1⟩
      ·have hx1:(x == 0)=false:=by simpa using hx0
       have hres:=uh HBAD (fun h=>hx0 (by rw[uh HX,h.2]))
       have HRS:=hide hres
       clear hres HBAD HGOOD hneq
       go_wp2_with (rw[← uh HW24])
       refine bodyPost_ret (zai rfl _ _ _ _ _ _ _ rfl (uh HFR _ _ _ _ _).2 Tryz.underlying151 rfl zcn) rfl ?_
       exact ⟨none,0,11,by rw[uh HRS];rfl,by rw[uh HRS],by rw[uh HRS];exact Stg.nil _ _,(uh HFR _ _ _ _ _).1⟩
     ·have hD1:(Dn == 0)=false:=by simpa using hD0
      have hres:=uh HBAD (fun h=>hD0 h.1)
      have HRS:=hide hres
      have t0c:=r22.cell 0
      have t1c:=r22.cell 1
      have t2c:=r22.cell 2
      have t3c:=r22.cell 3
      have t4c:=r22.cell 4
      have y0:=r22.fz 0
      have y1:=r22.fz 1
      have y2:=r22.fz 2
      have y3:=r22.fz 3
      have y4:=r22.fz 4
      simp only[List.getElem?_cons_zero,List.getElem?_cons_succ] at t0c t1c t2c t3c t4c
      have HFR:=hide (hfive w22 r22 G22)
      clear hres HBAD HGOOD o22 r22 m22 s22 G22 hfive g22
      go_wp2
      refine bodyPost_ret (zai rfl _ _ _ _ _ _ _ rfl (uh HFR _ _ _ _ _).2 Tryz.underlying151 rfl zcn) rfl ?_
      exact ⟨none,0,11,by rw[uh HRS];rfl,by rw[uh HRS],by rw[uh HRS];exact Stg.nil _ _,(uh HFR _ _ _ _ _).1⟩
 ·have hres:RT=(2,⟨[],[],0,[],[]⟩):=by rw[hRT];simp[rtC,hk]
  have hk2:(k == 3)=false:=by simpa using hk
  have HR:=hide hres
  clear hRT hres hSD hd hS0
  go_enter Tryz.func84,Tryz.ntmps84
  go_wp2
  refine bodyPost_ret (v := .tuple #[.agg #[.string ⟨#[]⟩,.slice none 0 0,.int .u64 0,.string ⟨#[]⟩,.string ⟨#[]⟩],.int .i64 2]) (by simp[results,Tryz.results84,go_sem]) rfl ?_
  exact ⟨none,0,2,by rw[uh HR];rfl,by rw[uh HR],by rw[uh HR];exact Stg.nil _ _,zah (zah (zab _ _) _) _⟩
theorem zrt (d:List UInt8) (h:d.length≤16384):zau 2 d=(rtT 2 d).1:=by
 have h1:¬ 16384<d.length:=by omega
 by_cases hq:za9 (zbz d)=(0,d) <;> simp[zau,h1,rtT,zeq,hq,errO]
theorem zru (d:List UInt8) (h:d.length≤16384):zau 3 d=(rtC 3 d).1:=by
 have h1:¬ 16384<d.length:=by omega
 by_cases hq:zcf (zbh d)=(0,d) <;> simp[zau,h1,rtC,zfk,hq,errO]
theorem zrv (d:List UInt8) (h:d.length≤16384):zau 4 d=(rtM 4 d).1:=by
 have h1:¬ 16384<d.length:=by omega
 by_cases hq:zcv (zb2 d)=(0,d) <;> simp[zau,h1,rtM,zi9,hq,errO]
set_option maxHeartbeats 2000000 in
theorem zjm (w:World) (k:Int) (d:List UInt8) (hd:d.length≤100000):Calls Tryz.prog 68 #[.agg #[.int .i64 k,.string (str d)]] w fun e w'=>e = .returned (.int .i64 (zau k d))∧w.grownBy w' none:=by
 have hsz:=zao d
 obtain ⟨W0,hW0,hB0,g0⟩:∃ W,W=w.alloc (.cells #[.int .i64 k,.string (str d)] 47)∧Blk W w.heap.size 47 [.int .i64 k,.string (str d)]∧w.grownBy W none:=zag w _ _
 have c0:=hB0.cell 0
 have c1:=hB0.cell 1
 simp only[List.getElem?_cons_zero,List.getElem?_cons_succ] at c0 c1
 have ct:=zmn W0 k d hd
 have cc:=zge W0 k d hd
 have cm:=zmm W0 k d hd
 obtain ⟨SD,hSD⟩:∃ S,S=str d:=⟨_,rfl⟩
 obtain ⟨n,hn⟩:∃ n,n=d.length:=⟨_,rfl⟩
 rw[← hSD,← hn] at hsz
 rw[← hSD] at c1 ct cc cm hW0 ⊢
 obtain ⟨Y,hY⟩:∃ y,y=zau k d:=⟨_,rfl⟩
 rw[← hY]
 obtain ⟨HW,HG⟩:=zh2 hW0 g0
 clear hW0 hB0 g0 hSD
 by_cases hk1:k<1
 ·have hr:Y=2:=by rw[hY];unfold zau;rw[if_pos (Or.inl hk1)]
  subst hr
  clear hY ct cc cm hn hd
  go_enter Tryz.func68,Tryz.ntmps68
  go_wp2_with (rw[← uh HW])
  go_ret
  exact ⟨rfl,uh HG⟩
 ·by_cases hk4:4<k
  ·have hr:Y=2:=by rw[hY];unfold zau;rw[if_pos (Or.inr hk4)]
   subst hr
   clear hY ct cc cm hn hd
   go_enter Tryz.func68,Tryz.ntmps68
   go_wp2_with (rw[← uh HW])
   go_ret
   exact ⟨rfl,uh HG⟩
  ·by_cases hbig:16384<d.length
   ·have hr:Y=3:=by rw[hY];unfold zau;rw[if_neg (by omega),if_pos hbig]
    have hb2:(16384:Int)<(n:Int):=by omega
    subst hr
    clear hY ct cc cm hn hd hbig
    go_enter Tryz.func68,Tryz.ntmps68
    go_wp2_with (rw[← uh HW])
    go_ret
    exact ⟨rfl,uh HG⟩
   ·have hb2:¬ (16384:Int)<(n:Int):=by omega
    have h5:k=1∨k=2∨k=3∨k=4:=by omega
    have hd6:d.length≤16384:=by omega
    rcases h5 with rfl | rfl | rfl | rfl
    ·have hr:Y=0:=by rw[hY];unfold zau;rw[if_neg (by omega),if_neg hbig];rfl
     subst hr
     clear hY ct cc cm hn hd hbig
     go_enter Tryz.func68,Tryz.ntmps68
     go_wp2_with (rw[← uh HW])
     go_ret
     exact ⟨rfl,uh HG⟩
    ·rw[zrt d hd6] at hY
     have HY:=hide hY
     clear cc cm hn hd hbig hY hd6
     go_enter Tryz.func68,Tryz.ntmps68
     go_wp2_with (rw[← uh HW])
     refine ct.mono ?_
     rintro e w2 ⟨v,y,rfl,hy,_,g2⟩
     rw[← uh HY] at hy
     subst hy
     clear ct c0 c1
     go_wp2
     go_ret
     exact ⟨rfl,tn (uh HG) g2⟩
    ·rw[zru d hd6] at hY
     have HY:=hide hY
     clear ct cm hn hd hbig hY hd6
     go_enter Tryz.func68,Tryz.ntmps68
     go_wp2_with (rw[← uh HW])
     refine cc.mono ?_
     rintro e w2 ⟨po,pc,y,rfl,hy,_,g2⟩
     rw[← uh HY] at hy
     subst hy
     clear cc c0 c1
     go_wp2
     go_ret
     exact ⟨rfl,tn (uh HG) g2⟩
    ·rw[zrv d hd6] at hY
     rw[← hY] at cm
     clear ct cc hn hd hbig hY hd6
     go_enter Tryz.func68,Tryz.ntmps68
     go_wp2_with (rw[← uh HW])
     refine cm.mono ?_
     rintro e w2 ⟨rfl,g2⟩
     clear cm c0 c1
     go_wp2
     go_ret
     exact ⟨rfl,tn (uh HG) g2⟩
end Go.Proofs.YthhnfloohbdaiaaGreatDoor
