/- Lemmas. -/
import Derived.Test.YtegbbkgmiklhcaaGreatDoorRTreeOf
import Derived.Test.YtegbbkgmiklhcaaGreatDoorRChg
namespace Go.Proofs.YtegbbkgmiklhcaaGreatDoor
open Go.RowKit
def rtC (k:Int) (d:List UInt8):Int × ChgL:=if k=3 then (if zce (za8 d)=(0,d) then (0,za8 d) else (11,⟨[],[],0,[],[]⟩)) else (2,⟨[],[],0,[],[]⟩)
theorem zt9 (s:ByteArray) (V:World):(Instr.buildSlice 67 1 #[(0,.string s)]).run Tryz.prog V = .ok (.slice (some ⟨V.heap.size,0,none⟩) 1 1) (V.alloc (.cells #[.string s] 9)):=by kernel_rfl
theorem zcd:(Tryz.prog.info? 100).map (·.size)=some 5:=by kernel_rfl
set_option maxRecDepth 100000 in
set_option maxHeartbeats 16000000 in
theorem ziz (w:World) (k:Int) (d:List UInt8) (hd:d.length≤100000):Calls Tryz.prog 49 #[.agg #[.int .i64 k,.string (str d)]] w fun e w'=>∃ po pc y,e = .returned (.tuple #[.agg (rcC (rtC k d).2 po pc).toArray,.int .i64 y])∧y=(rtC k d).1∧Stg w' w.heap.size (.slice po (rtC k d).2.pars.length pc) (rtC k d).2.pars∧w.grownBy w' none:=by
 obtain ⟨SD,hSD⟩:∃ S,S=str d:=⟨_,rfl⟩
 obtain ⟨S0,hS0⟩:∃ S:ByteArray,S=⟨#[]⟩:=⟨_,rfl⟩
 obtain ⟨RT,hRT⟩:∃ r,r=rtC k d:=⟨_,rfl⟩
 rw[← hRT,← hSD]
 by_cases hk:k=3
 ·subst hk
  have hrt:RT=(if zce (za8 d)=(0,d) then (0,za8 d) else (11,⟨[],[],0,[],[]⟩)):=by rw[hRT];simp[rtC]
  obtain ⟨⟨t0,l1,e1⟩,h1⟩:∃ a,rawS d 0 32=a:=⟨_,rfl⟩
  obtain ⟨⟨n,l2,e2⟩,h2⟩:∃ a,numS l1 e1 1=a:=⟨_,rfl⟩
  have hN:rdN d=(n,l2,e2):=by unfold rdN;simp only[h1,h2]
  have hsame:=fun j => @zre d j
  rw[hN] at hsame
  simp only at hsame
  have hl0:=zfq d 0 32
  rw[show ((32:Nat):Int)=32 from rfl,h1] at hl0
  have hl1:=zca d 0 32
  rw[h1] at hl1
  have hl2:=za9 l1 e1 1
  rw[h2] at hl2
  simp only at hl0 hl1 hl2
  have hn256:n<256:=by
   have hnb:nb 1=1:=by decide
   have h3:(numS l1 e1 1).1<256:=by
    unfold numS
    rw[hnb]
    repeat' split
    ·simp
    ·have h4:=zi3 (l1.take 1)
     have h5:256 ^ (l1.take 1).length≤256 ^ 1:=Nat.pow_le_pow_right (by omega) (by simp;omega)
     simp only
     omega
    ·simp
   rwa [h2] at h3
  have hrdc:∀ j qs l' e' tm l4 e4 nm l5 e5 tx l6 e6,runQ (l2,e2) j=(qs,l',e')→numS l' e' 8=(tm,l4,e4)→zal l4 e4=(nm,l5,e5)→zal l5 e5=(tx,l6,e6)→rdC d j=(⟨t0,qs,tm,nm,tx⟩,l6,e6):=by
   intro j qs l' e' tm l4 e4 nm l5 e5 tx l6 e6 q1 q2 q3 q4
   unfold rdC
   simp only[h1,h2,q1,q2,q3,q4]
  have c1:∀ V,Calls Tryz.prog 57 #[.agg #[.string SD,.int .i64 0],.int .i64 32] V fun r w'=>r = .returned (.tuple #[.agg #[.string (str l1),.int .i64 e1],.string (str t0)])∧V.grownBy w' none:=fun V=>by
   have:=zfb V d 0 32 (by omega)
   rw[h1,← hSD] at this
   exact this
  have c2:∀ V,Calls Tryz.prog 31 #[.agg #[.string (str l1),.int .i64 e1],.int .i64 1] V fun r w'=>r = .returned (.tuple #[.agg #[.string (str l2),.int .i64 e2],.int .u64 (n:Int)])∧V.grownBy w' none:=fun V=>by
   have:=zc2 V l1 e1 1 (by omega)
   rw[h2] at this
   exact this
  obtain ⟨T1,hT1⟩:∃ T,T=str l1:=⟨_,rfl⟩
  obtain ⟨T2,hT2⟩:∃ T,T=str l2:=⟨_,rfl⟩
  obtain ⟨TT,hTT⟩:∃ T,T=str t0:=⟨_,rfl⟩
  rw[← hT1,← hTT] at c1
  rw[← hT1,← hT2] at c2
  have hl2a:l2.length≤100000:=by omega
  have ht0l:t0.length≤100000:=by omega
  obtain ⟨HRT,HSA,HRC,HT2,HTT,HSD⟩:=zh6 hrt hsame hrdc hT2 hTT hSD
  obtain ⟨E1,hE1⟩:∃ W,W=((w.alloc (.cells #[.int .i64 3,.string SD] 44)).alloc (.cells #[.string S0,.slice none 0 0,.int .u64 0,.string S0,.string S0] 100)).alloc (.cells #[.string S0,.slice none 0 0,.int .u64 0,.string S0,.string S0] 100):=⟨_,rfl⟩
  have gE:w.grownBy E1 none:=by rw[hE1];exact zad (zad (zad (zaa _ _) _) _) _
  have oE:Blk E1 w.heap.size 44 [.int .i64 3,.string SD]:=by rw[hE1];exact ((Blk.new w _ _).alloc _).alloc _
  have rE:Blk E1 (w.heap.size+1) 100 [.string S0,.slice none 0 0,.int .u64 0,.string S0,.string S0]:=by
   rw[hE1]
   have:=(Blk.new (w.alloc (.cells #[.int .i64 3,.string SD] 44)) 100 [.string S0,.slice none 0 0,.int .u64 0,.string S0,.string S0]).alloc (.cells #[.string S0,.slice none 0 0,.int .u64 0,.string S0,.string S0] 100)
   simpa using this
  have mE:Blk E1 (w.heap.size+2) 100 [.string S0,.slice none 0 0,.int .u64 0,.string S0,.string S0]:=by
   rw[hE1]
   have:=Blk.new ((w.alloc (.cells #[.int .i64 3,.string SD] 44)).alloc (.cells #[.string S0,.slice none 0 0,.int .u64 0,.string S0,.string S0] 100)) 100 [.string S0,.slice none 0 0,.int .u64 0,.string S0,.string S0]
   simpa using this
  have HE1:Hid (E1=((w.alloc (.cells #[.int .i64 3,.string SD] 44)).alloc (.cells #[.string ⟨#[]⟩,.slice none 0 0,.int .u64 0,.string ⟨#[]⟩,.string ⟨#[]⟩] 100)).alloc (.cells #[.string ⟨#[]⟩,.slice none 0 0,.int .u64 0,.string ⟨#[]⟩,.string ⟨#[]⟩] 100)):=by rw[← hS0];exact hE1
  obtain ⟨HS0,HGE,HOE,HRE,HME⟩:=zh5 hS0 gE oE rE mE
  clear hRT hrt hsame hrdc hS0 hSD gE oE rE mE hE1 hN h1 h2 hl0 hl1 hl2 hT1 hT2 hTT hd
  go_enter Tryz.func49,Tryz.ntmps49
  go_wp2_with fail
  rw[← uh HE1]
  refine (c1 _).mono ?_
  rintro e w2 ⟨rfl,g2⟩
  have m2:=(uh HME).kept g2 (by simp)
  have hs2:w.heap.size+2<w2.heap.size:=m2.lt
  obtain ⟨W3,hW3,p3,g3⟩:=zag w2 75 [.string T1,.int .i64 e1]
  have gB:=tn g2 g3
  have q0:=p3.cell 0
  have q1:=p3.cell 1
  simp only[List.getElem?_cons_zero,List.getElem?_cons_succ] at q0 q1
  obtain ⟨HW3,HP3,HGB⟩:=zh3 hW3 p3 gB
  clear c1 hW3 p3 g3 m2 g2 gB
  go_wp2_with (rw[← uh HW3])
  refine (c2 _).mono ?_
  rintro e w4 ⟨rfl,g4⟩
  have gC:=tn (uh HGB) g4
  have p4:=(uh HP3).kept g4 (by simp)
  have o4:=(uh HOE).kept gC (by simp)
  have r4:=(uh HRE).kept gC (by simp)
  have m4:=(uh HME).kept gC (by simp)
  have G4:=tn (uh HGE) gC
  have a0:=p4.cell 0
  have a1:=p4.cell 1
  have za0:=p4.fz 0
  have za1:=p4.fz 1
  simp only[List.getElem?_cons_zero,List.getElem?_cons_succ] at a0 a1
  obtain ⟨W5,hW5⟩:∃ W,W=(w4.setCell ⟨w2.heap.size,0,none⟩ (.string T2)).setCell ⟨w2.heap.size,1,none⟩ (.int .i64 e2):=⟨_,rfl⟩
  have p5:Blk W5 w2.heap.size 75 [.string T2,.int .i64 e2]:=by rw[hW5];exact (p4.set 0 _).set 1 _
  have m5:Blk W5 (w.heap.size+2) 100 [.string S0,.slice none 0 0,.int .u64 0,.string S0,.string S0]:=by rw[hW5];exact (m4.other _ _ (by simp;omega)).other _ _ (by simp;omega)
  have b0:=m5.cell 0
  have zb0:=m5.fz 0
  simp only[List.getElem?_cons_zero] at b0
  obtain ⟨W6,hW6⟩:∃ W,W=W5.setCell ⟨w.heap.size+2,0,none⟩ (.string TT):=⟨_,rfl⟩
  have HM6:=hide (show Blk W6 (w.heap.size+2) 100 [.string TT,.slice none 0 0,.int .u64 0,.string S0,.string S0] by rw[hW6];exact m5.set 0 _)
  have HP6:=hide (show Blk W6 w2.heap.size 75 [.string (str l2),.int .i64 e2] by rw[hW6,← uh HT2];exact p5.other _ _ (by simp;omega))
  have HO6:=hide (show Blk W6 w.heap.size 44 [.int .i64 3,.string SD] by rw[hW6,hW5];exact ((o4.other _ _ (by simp;omega)).other _ _ (by simp;omega)).other _ _ (by simp))
  have HR6:=hide (show Blk W6 (w.heap.size+1) 100 [.string S0,.slice none 0 0,.int .u64 0,.string S0,.string S0] by rw[hW6,hW5];exact ((r4.other _ _ (by simp;omega)).other _ _ (by simp;omega)).other _ _ (by simp))
  have HG6:=hide (show w.grownBy W6 none by rw[hW6,hW5];exact zab (zab (zab G4 _ _ (Or.inl (by simp;omega))) _ _ (Or.inl (by simp;omega))) _ _ (Or.inl (by simp)))
  have hs6:w.heap.size≤W6.heap.size:=(uh HG6).size
  obtain ⟨HW5,HW6⟩:=zh2 hW5 hW6
  clear c2 q0 q1 gC p4 o4 r4 m4 G4 hW5 hW6 p5 m5 HW3 HP3 HGB g4
  go_wp2_with (first | (rw[← uh HW6]) | (rw[← uh HW5]))
  clear a0 a1 za0 za1 b0 zb0
  go_loopw [8] (fun i wr=>∃ (j:Nat) (qs:List (List UInt8)) (l' : List UInt8) (e' : Int) (v:Value),i = .int .u64 (j:Int)∧j≤n∧Hid (runQ (l2,e2) j=(qs,l',e'))∧Hid (∀ i,i<j→(runQ (l2,e2) i).2.2=0)∧Stg wr W6.heap.size v qs∧Hid (Blk wr w2.heap.size 75 [.string (str l'),.int .i64 e'])∧Hid (Blk wr (w.heap.size+2) 100 [.string TT,v,.int .u64 0,.string S0,.string S0])∧Hid (Blk wr w.heap.size 44 [.int .i64 3,.string SD])∧Hid (Blk wr (w.heap.size+1) 100 [.string S0,.slice none 0 0,.int .u64 0,.string S0,.string S0])∧w.grownBy wr none∧W6.heap.size≤wr.heap.size) (fun i _=>n - (intOf i).toNat)
  case atStart=>exact ⟨0,[],l2,e2,.slice none 0 0,rfl,Nat.zero_le _,rfl,(fun i hi=>by omega),Stg.nil _ _,HP6,HM6,HO6,HR6,uh HG6,Nat.le_refl _⟩
  case round =>
   obtain ⟨j,qs,l',e',v,rfl,hj,HE,HALL,ho,HPR,HMB,HOB,HRB,hg,hsz⟩:=hrel
   have hlf:l'.length≤100000:=by have:=zo1 (l2,e2) j;rw[uh HE] at this;exact Nat.le_trans this hl2a
   have hel:qs.length=j:=by have:=zly (l2,e2) j;rw[uh HE] at this;exact this
   have p0:=(uh HPR).cell 0
   have p1:=(uh HPR).cell 1
   simp only[List.getElem?_cons_zero,List.getElem?_cons_succ] at p0 p1
   by_cases hgo:j<n∧e'=0
   ·obtain ⟨hlt,he0⟩:=hgo
    subst he0
    obtain ⟨⟨y,l3,e3⟩,h3⟩:∃ a,rawS l' 0 32=a:=⟨_,rfl⟩
    have hrd:=zmz (uh HE) h3
    have c3:∀ V,Calls Tryz.prog 57 #[.agg #[.string (str l'),.int .i64 0],.int .i64 32] V fun r w'=>r = .returned (.tuple #[.agg #[.string (str l3),.int .i64 e3],.string (str y)])∧V.grownBy w' none:=fun V=>by
     have:=zfb V l' 0 32 (by omega)
     rw[h3] at this
     exact this
    obtain ⟨TL,hTL⟩:∃ T,T=str l':=⟨_,rfl⟩
    obtain ⟨T3,hT3⟩:∃ T,T=str l3:=⟨_,rfl⟩
    obtain ⟨TY,hTY⟩:∃ T,T=str y:=⟨_,rfl⟩
    rw[← hTL] at c3 p0
    rw[← hT3,← hTY] at c3
    have hall2:∀ i,i<j+1→(runQ (l2,e2) i).2.2=0:=by
     intro i hi
     by_cases h:i<j
     ·exact uh HALL i h
     ·have:i=j:=by omega
      rw[this,uh HE]
    obtain ⟨HRD,HAL,HT3,HTY⟩:=zh4 hrd hall2 hT3 hTY
    have hj9:qs.length≤1000000:=by omega
    clear hrd hall2 hTL hT3 hTY h3 HALL HE hel hlf
    go_wp2_with fail
    refine (c3 _).mono ?_
    rintro e w6 ⟨rfl,gA⟩
    obtain ⟨W7,hW7,b7,g7⟩:∃ W,W=w6.alloc (.cells #[.string T3,.int .i64 e3] 75)∧Blk W w6.heap.size 75 [.string T3,.int .i64 e3]∧w6.grownBy W none:=zag w6 _ _
    have gB:=tn gA g7
    have p7:=(uh HPR).kept gB (by simp)
    have o7:=(uh HOB).kept gB (by simp)
    have m7:=(uh HMB).kept gB (by simp)
    have r7:=(uh HRB).kept gB (by simp)
    have s7:=ho.kept gB
    have G7:=tn hg gB
    have hs7:=Nat.le_trans hsz gB.size
    have a0:=p7.cell 0
    have a1:=p7.cell 1
    have za0:=p7.fz 0
    have za1:=p7.fz 1
    have b0:=b7.cell 0
    have b1:=b7.cell 1
    simp only[List.getElem?_cons_zero,List.getElem?_cons_succ] at a0 a1 b0 b1
    obtain ⟨W8,hW8⟩:∃ W,W=(W7.setCell ⟨w2.heap.size,0,none⟩ (.string T3)).setCell ⟨w2.heap.size,1,none⟩ (.int .i64 e3):=⟨_,rfl⟩
    have p8:Blk W8 w2.heap.size 75 [.string T3,.int .i64 e3]:=by rw[hW8];exact (p7.set 0 _).set 1 _
    have o8:Blk W8 w.heap.size 44 [.int .i64 3,.string SD]:=by rw[hW8];exact (o7.other _ _ (by simp;omega)).other _ _ (by simp;omega)
    have r8:Blk W8 (w.heap.size+1) 100 [.string S0,.slice none 0 0,.int .u64 0,.string S0,.string S0]:=by rw[hW8];exact (r7.other _ _ (by simp;omega)).other _ _ (by simp;omega)
    have m8:Blk W8 (w.heap.size+2) 100 [.string TT,v,.int .u64 0,.string S0,.string S0]:=by rw[hW8];exact (m7.other _ _ (by simp;omega)).other _ _ (by simp;omega)
    have s8:Stg W8 W6.heap.size v qs:=by rw[hW8];exact zai (zai s7 p7 (by decide) 0 _) (p7.set 0 _) (by decide) 1 _
    have G8:w.grownBy W8 none:=by rw[hW8];exact zab (zab G7 _ _ (Or.inl (by simp;omega))) _ _ (Or.inl (by simp;omega))
    have hs8:W6.heap.size≤W8.heap.size:=by rw[hW8];simpa[World.setCell] using hs7
    have d1:=m8.cell 1
    simp only[List.getElem?_cons_zero,List.getElem?_cons_succ] at d1
    have hbs:=zt9 TY W8
    obtain ⟨W9,hW9,b9,g9⟩:∃ W,W=W8.alloc (.cells #[.string TY] 9)∧Blk W W8.heap.size 9 [.string TY]∧W8.grownBy W none:=zag W8 _ _
    have hcE:W9.cell? ⟨W8.heap.size,0,none⟩=some (stv y):=by rw[b9.cell 0,uh HTY];rfl
    have HS9:=hide (s8.kept g9)
    have HP9:=hide (p8.kept g9 (by simp))
    have HO9:=hide (o8.kept g9 (by simp))
    have HM9:=hide (m8.kept g9 (by simp))
    have HR9:=hide (r8.kept g9 (by simp))
    have HG9:=hide (tn G8 g9)
    have HZ9:=hide (Nat.le_trans hs8 g9.size)
    obtain ⟨HW7,HW8,HW9,HCE,HBS⟩:=zh5 hW7 hW8 hW9 hcE hbs
    clear c3 gA gB g7 g9 hW7 hW8 hW9 b7 b9 p7 o7 m7 r7 s7 G7 hs7 p8 o8 r8 m8 s8 G8 hs8 hbs hcE ho hg hsz HPR HOB HMB HRB p0 p1
    go_wp2_with (first
     | (refine zaw rfl 67 _ rfl (.string TY) _ rfl (uh HBS) ?_;rw[← uh HW9])
     | (refine zb5 rfl _ _ rfl W6.heap.size _ _ y _ rfl (uh HS9) rfl (uh HCE) hj9 (uh HZ9) ?_;intro va wa hoa ga;obtain ⟨qa,ka,ea,_⟩:=hoa.open;subst ea;have GA:=zae (uh HG9) ga (fun x e=>Or.inl (Nat.le_trans hs6 ((uh HS9).lt x e).1));have HPA:=hide ((uh HP9).kept ga (zao (uh HS9) (uh HP9) (by decide)));have HOA:=hide ((uh HO9).kept ga (zao (uh HS9) (uh HO9) (by decide)));have mA:=(uh HM9).kept ga (zao (uh HS9) (uh HM9) (by decide));have HRA:=hide ((uh HR9).kept ga (zao (uh HS9) (uh HR9) (by decide)));have HZA:=hide (Nat.le_trans (uh HZ9) ga.size);have HOAA:=hide hoa;have HGA:=hide GA;have HMA:=hide mA;have f1:=mA.cell 1;have zf1:=mA.fz 1;simp only[List.getElem?_cons_zero,List.getElem?_cons_succ] at f1;clear hoa ga GA mA)
     | (rw[← uh HW8])
     | (rw[← uh HW7]))
    go_roundw
    case rel =>
     have hOA2:=uh HOAA
     rw[show (qs++[y]).length=qs.length+1 by simp] at hOA2
     refine ⟨j+1,qs++[y],l3,e3,.slice qa (qs.length+1) ka,by go_num,by omega,HRD,HAL,zai hOA2 (uh HMA) (by decide) 1 _,?_,?_,?_,?_,zab (uh HGA) _ _ (Or.inl (by simp;omega)),by simpa[World.setCell] using uh HZA⟩
     ·rw[← uh HT3]
      exact hide ((uh HPA).other _ _ (by simp;omega))
     ·exact hide ((uh HMA).set 1 (.slice qa (qs.length+1) ka))
     ·exact hide ((uh HOA).other _ _ (by simp;omega))
     ·exact hide ((uh HRA).other _ _ (by simp))
    case measure=>simp[intOf];omega
   ·have hstop:zoy (fun i=>(runQ (l2,e2) i).2.2) n j:=by
     refine ⟨hj,uh HALL,?_⟩
     by_cases h:j=n
     ·exact Or.inl h
     ·right
      show (runQ (l2,e2) j).2.2≠0
      rw[uh HE]
      intro h2
      exact hgo ⟨by omega,h2⟩
    obtain ⟨hs1,hs2b⟩:=uh HSA j hstop
    obtain ⟨⟨tm,l4,e4⟩,h4⟩:∃ a,numS l' e' 8=a:=⟨_,rfl⟩
    obtain ⟨⟨nm,l5,e5⟩,h5⟩:∃ a,zal l4 e4=a:=⟨_,rfl⟩
    obtain ⟨⟨tx,l6,e6⟩,h6⟩:∃ a,zal l5 e5=a:=⟨_,rfl⟩
    rw[uh HRC j qs l' e' tm l4 e4 nm l5 e5 tx l6 e6 (uh HE) h4 h5 h6] at hs1 hs2b
    simp only at hs1 hs2b
    have htm:=zlx l' e'
    have hn4:=za9 l' e' 8
    rw[h4] at htm hn4
    have hn5:=za5 l4 e4
    have hm5:=zbz l4 e4
    rw[h5] at hn5 hm5
    have hn6:=za5 l5 e5
    have hm6:=zbz l5 e5
    rw[h6] at hn6 hm6
    simp only at htm hn4 hn5 hm5 hn6 hm6
    have hsmall:=zmy (l2,e2) j
    rw[uh HE] at hsmall
    obtain ⟨po,pc,hv,_⟩:=ho.open
    subst hv
    obtain ⟨m,hm⟩:∃ m,m=qs.length:=⟨_,rfl⟩
    obtain ⟨r,hr⟩:∃ r,r=zce ⟨t0,qs,tm,nm,tx⟩:=⟨_,rfl⟩
    obtain ⟨Dn,hDn⟩:∃ D,D=zb4 l6 e6:=⟨_,rfl⟩
    rw[← hr,← hDn] at hs1
    have c8:∀ V,Calls Tryz.prog 31 #[.agg #[.string (str l'),.int .i64 e'],.int .i64 8] V fun r w'=>r = .returned (.tuple #[.agg #[.string (str l4),.int .i64 e4],.int .u64 (tm:Int)])∧V.grownBy w' none:=fun V=>by
     have:=zc2 V l' e' 8 (by omega)
     rw[h4] at this
     exact this
    have c9:∀ V,Calls Tryz.prog 32 #[.agg #[.string (str l4),.int .i64 e4]] V fun r w'=>r = .returned (.tuple #[.agg #[.string (str l5),.int .i64 e5],.string (str nm)])∧V.grownBy w' none:=fun V=>by
     have:=zfw V l4 e4 (by omega)
     rw[h5] at this
     exact this
    have c10:∀ V,Calls Tryz.prog 32 #[.agg #[.string (str l5),.int .i64 e5]] V fun r w'=>r = .returned (.tuple #[.agg #[.string (str l6),.int .i64 e6],.string (str tx)])∧V.grownBy w' none:=fun V=>by
     have:=zfw V l5 e5 (by omega)
     rw[h6] at this
     exact this
    have c11:∀ V,Calls Tryz.prog 33 #[.agg #[.string (str l6),.int .i64 e6]] V fun r w'=>r = .returned (.int .i64 Dn)∧V.grownBy w' none:=fun V=>by rw[hDn];exact zfc V l6 e6 (by omega)
    have ht0:t0.length≤100000:=ht0l
    have c12:∀ V,Stg V W6.heap.size (.slice po m pc) qs→Calls Tryz.prog 72 #[.agg #[.string TT,.slice po m pc,.int .u64 (tm:Int),.string (str nm),.string (str tx)]] V fun e w'=>zjp V w' 3 r e:=fun V hS=>by
     obtain ⟨a9,b9,e9,h9⟩:=hS.open
     injection e9 with e9a e9b e9c
     subst e9a e9c
     have:=znn V ⟨t0,qs,tm,nm,tx⟩ po pc _ h9 ht0 (fun x hx=>Nat.le_trans (hsmall x hx) (by omega)) (by simp only;omega) htm (by simp only;omega) (by simp only;omega)
     rw[← hr] at this
     rw[uh HTT,hm]
     exact this
    have hbad:¬ (Dn=0∧r=(0,d))→RT=(11,⟨[],[],0,[],[]⟩):=fun h=>by rw[uh HRT,if_neg (fun h2=>h (hs1.2 h2))]
    have hgood:Dn=0∧r=(0,d)→RT=(0,⟨t0,qs,tm,nm,tx⟩):=fun h=>by
     have h2:=hs1.1 h
     rw[uh HRT,if_pos h2,hs2b h2]
    obtain ⟨TL,hTL⟩:∃ T,T=str l':=⟨_,rfl⟩
    obtain ⟨T4,hT4⟩:∃ T,T=str l4:=⟨_,rfl⟩
    obtain ⟨T5,hT5⟩:∃ T,T=str l5:=⟨_,rfl⟩
    obtain ⟨T6,hT6⟩:∃ T,T=str l6:=⟨_,rfl⟩
    obtain ⟨TN,hTN⟩:∃ T,T=str nm:=⟨_,rfl⟩
    obtain ⟨TX,hTX⟩:∃ T,T=str tx:=⟨_,rfl⟩
    rw[← hTL] at c8 p0
    rw[← hT4] at c8 c9
    rw[← hT5] at c9 c10
    rw[← hT6] at c10 c11
    rw[← hTN] at c9 c12
    rw[← hTX] at c10 c12
    have hrcc:rcC ⟨t0,qs,tm,nm,tx⟩ po pc=[.string TT,.slice po m pc,.int .u64 (tm:Int),.string TN,.string TX]:=by rw[uh HTT,hTN,hTX,hm];rfl
    have HRCC:=hide hrcc
    have HPw:Hid (Blk wr w2.heap.size 75 [.string TL,.int .i64 e']):=by rw[hTL];exact HPR
    have HMw:Hid (Blk wr (w.heap.size+2) 100 [.string TT,.slice po m pc,.int .u64 0,.string S0,.string S0]):=by rw[hm];exact HMB
    have HSw:Hid (Stg wr W6.heap.size (.slice po m pc) qs):=by rw[hm];exact ho
    have HOw:=HOB
    have HRw:=HRB
    obtain ⟨HGw,HM,HBAD,HGOOD,HC12⟩:=zh5 hg hm hbad hgood c12
    have hcond:¬ j<n∨(j<n∧e'≠0):=by
     by_cases h:j<n
     ·exact Or.inr ⟨h,fun h2=>hgo ⟨h,h2⟩⟩
     ·exact Or.inl h
    clear hgo hstop hs1 hs2b hsmall hr hDn hbad hgood hTL hT4 hT5 hT6 hTN hTX hm hrcc ho hg HALL HE hel hlf h4 h5 h6 htm hn4 hn5 hm5 hn6 hm6 c12 HPR HMB HOB HRB ht0
    rcases hcond with hA | ⟨hA,hB⟩
    ·skip
     go_wp2_with fail
     refine (c8 _).mono ?_
     rintro e w13 ⟨rfl,g13⟩
     clear c8 p0 p1
     have o13:=(uh HOw).kept g13 (by simp)
     have r13:=(uh HRw).kept g13 (by simp)
     have m13:=(uh HMw).kept g13 (by simp)
     have p13:=(uh HPw).kept g13 (by simp)
     have s13:=(uh HSw).kept g13
     have G13:=tn (uh HGw) g13
     have a0:=p13.cell 0
     have a1:=p13.cell 1
     have za0:=p13.fz 0
     have za1:=p13.fz 1
     simp only[List.getElem?_cons_zero,List.getElem?_cons_succ] at a0 a1
     obtain ⟨W14,hW14⟩:∃ W,W=(w13.setCell ⟨w2.heap.size,0,none⟩ (.string T4)).setCell ⟨w2.heap.size,1,none⟩ (.int .i64 e4):=⟨_,rfl⟩
     have p14:Blk W14 w2.heap.size 75 [.string T4,.int .i64 e4]:=by rw[hW14];exact (p13.set 0 _).set 1 _
     have m14:Blk W14 (w.heap.size+2) 100 [.string TT,.slice po m pc,.int .u64 0,.string S0,.string S0]:=by rw[hW14];exact (m13.other _ _ (by simp;omega)).other _ _ (by simp;omega)
     have s14:Stg W14 W6.heap.size (.slice po m pc) qs:=by rw[hW14];exact zai (zai s13 p13 (by decide) 0 _) (p13.set 0 _) (by decide) 1 _
     have b1:=m14.cell 2
     have zb1:=m14.fz 2
     simp only[List.getElem?_cons_zero,List.getElem?_cons_succ] at b1
     obtain ⟨W15,hW15⟩:∃ W,W=W14.setCell ⟨w.heap.size+2,2,none⟩ (.int .u64 (tm:Int)):=⟨_,rfl⟩
     have HM15:=hide (show Blk W15 (w.heap.size+2) 100 [.string TT,.slice po m pc,.int .u64 (tm:Int),.string S0,.string S0] by rw[hW15];exact m14.set 2 _)
     have p15:Blk W15 w2.heap.size 75 [.string T4,.int .i64 e4]:=by rw[hW15];exact p14.other _ _ (by simp;omega)
     have HO15:=hide (show Blk W15 w.heap.size 44 [.int .i64 3,.string SD] by rw[hW15,hW14];exact ((o13.other _ _ (by simp;omega)).other _ _ (by simp;omega)).other _ _ (by simp))
     have HR15:=hide (show Blk W15 (w.heap.size+1) 100 [.string S0,.slice none 0 0,.int .u64 0,.string S0,.string S0] by rw[hW15,hW14];exact ((r13.other _ _ (by simp;omega)).other _ _ (by simp;omega)).other _ _ (by simp))
     have HS15:=hide (show Stg W15 W6.heap.size (.slice po m pc) qs by rw[hW15];exact zai s14 m14 (by decide) 2 _)
     have HG15:=hide (show w.grownBy W15 none by rw[hW15,hW14];exact zab (zab (zab G13 _ _ (Or.inl (by simp;omega))) _ _ (Or.inl (by simp;omega))) _ _ (Or.inl (by simp)))
     have q0:=p15.cell 0
     have q1:=p15.cell 1
     simp only[List.getElem?_cons_zero,List.getElem?_cons_succ] at q0 q1
     obtain ⟨HP15,HW14,HW15⟩:=zh3 p15 hW14 hW15
     clear hW14 hW15 p15 o13 r13 m13 p13 s13 G13 p14 m14 s14 g13
     go_wp2_with (first | (rw[← uh HW15]) | (rw[← uh HW14]))
     refine (c9 _).mono ?_
     rintro e w16 ⟨rfl,g16⟩
     clear c9 q0 q1 a0 a1 za0 za1 b1 zb1 HW14 HW15
     have o16:=(uh HO15).kept g16 (by simp)
     have r16:=(uh HR15).kept g16 (by simp)
     have m16:=(uh HM15).kept g16 (by simp)
     have p16:=(uh HP15).kept g16 (by simp)
     have s16:=(uh HS15).kept g16
     have G16:=tn (uh HG15) g16
     have a0:=p16.cell 0
     have a1:=p16.cell 1
     have za0:=p16.fz 0
     have za1:=p16.fz 1
     simp only[List.getElem?_cons_zero,List.getElem?_cons_succ] at a0 a1
     obtain ⟨W17,hW17⟩:∃ W,W=(w16.setCell ⟨w2.heap.size,0,none⟩ (.string T5)).setCell ⟨w2.heap.size,1,none⟩ (.int .i64 e5):=⟨_,rfl⟩
     have p17:Blk W17 w2.heap.size 75 [.string T5,.int .i64 e5]:=by rw[hW17];exact (p16.set 0 _).set 1 _
     have m17:Blk W17 (w.heap.size+2) 100 [.string TT,.slice po m pc,.int .u64 (tm:Int),.string S0,.string S0]:=by rw[hW17];exact (m16.other _ _ (by simp;omega)).other _ _ (by simp;omega)
     have s17:Stg W17 W6.heap.size (.slice po m pc) qs:=by rw[hW17];exact zai (zai s16 p16 (by decide) 0 _) (p16.set 0 _) (by decide) 1 _
     have b1:=m17.cell 3
     have zb1:=m17.fz 3
     simp only[List.getElem?_cons_zero,List.getElem?_cons_succ] at b1
     obtain ⟨W18,hW18⟩:∃ W,W=W17.setCell ⟨w.heap.size+2,3,none⟩ (.string TN):=⟨_,rfl⟩
     have HM18:=hide (show Blk W18 (w.heap.size+2) 100 [.string TT,.slice po m pc,.int .u64 (tm:Int),.string TN,.string S0] by rw[hW18];exact m17.set 3 _)
     have p18:Blk W18 w2.heap.size 75 [.string T5,.int .i64 e5]:=by rw[hW18];exact p17.other _ _ (by simp;omega)
     have HO18:=hide (show Blk W18 w.heap.size 44 [.int .i64 3,.string SD] by rw[hW18,hW17];exact ((o16.other _ _ (by simp;omega)).other _ _ (by simp;omega)).other _ _ (by simp))
     have HR18:=hide (show Blk W18 (w.heap.size+1) 100 [.string S0,.slice none 0 0,.int .u64 0,.string S0,.string S0] by rw[hW18,hW17];exact ((r16.other _ _ (by simp;omega)).other _ _ (by simp;omega)).other _ _ (by simp))
     have HS18:=hide (show Stg W18 W6.heap.size (.slice po m pc) qs by rw[hW18];exact zai s17 m17 (by decide) 3 _)
     have HG18:=hide (show w.grownBy W18 none by rw[hW18,hW17];exact zab (zab (zab G16 _ _ (Or.inl (by simp;omega))) _ _ (Or.inl (by simp;omega))) _ _ (Or.inl (by simp)))
     have q0:=p18.cell 0
     have q1:=p18.cell 1
     simp only[List.getElem?_cons_zero,List.getElem?_cons_succ] at q0 q1
     obtain ⟨HP18,HW17,HW18⟩:=zh3 p18 hW17 hW18
     clear hW17 hW18 p18 o16 r16 m16 p16 s16 G16 p17 m17 s17 g16
     go_wp2_with (first | (rw[← uh HW18]) | (rw[← uh HW17]))
     refine (c10 _).mono ?_
     rintro e w19 ⟨rfl,g19⟩
     clear c10 q0 q1 a0 a1 za0 za1 b1 zb1 HW17 HW18
     have o19:=(uh HO18).kept g19 (by simp)
     have r19:=(uh HR18).kept g19 (by simp)
     have m19:=(uh HM18).kept g19 (by simp)
     have p19:=(uh HP18).kept g19 (by simp)
     have s19:=(uh HS18).kept g19
     have G19:=tn (uh HG18) g19
     have a0:=p19.cell 0
     have a1:=p19.cell 1
     have za0:=p19.fz 0
     have za1:=p19.fz 1
     simp only[List.getElem?_cons_zero,List.getElem?_cons_succ] at a0 a1
     obtain ⟨W20,hW20⟩:∃ W,W=(w19.setCell ⟨w2.heap.size,0,none⟩ (.string T6)).setCell ⟨w2.heap.size,1,none⟩ (.int .i64 e6):=⟨_,rfl⟩
     have p20:Blk W20 w2.heap.size 75 [.string T6,.int .i64 e6]:=by rw[hW20];exact (p19.set 0 _).set 1 _
     have m20:Blk W20 (w.heap.size+2) 100 [.string TT,.slice po m pc,.int .u64 (tm:Int),.string TN,.string S0]:=by rw[hW20];exact (m19.other _ _ (by simp;omega)).other _ _ (by simp;omega)
     have s20:Stg W20 W6.heap.size (.slice po m pc) qs:=by rw[hW20];exact zai (zai s19 p19 (by decide) 0 _) (p19.set 0 _) (by decide) 1 _
     have b1:=m20.cell 4
     have zb1:=m20.fz 4
     simp only[List.getElem?_cons_zero,List.getElem?_cons_succ] at b1
     obtain ⟨W21,hW21⟩:∃ W,W=W20.setCell ⟨w.heap.size+2,4,none⟩ (.string TX):=⟨_,rfl⟩
     have HM21:=hide (show Blk W21 (w.heap.size+2) 100 [.string TT,.slice po m pc,.int .u64 (tm:Int),.string TN,.string TX] by rw[hW21];exact m20.set 4 _)
     have p21:Blk W21 w2.heap.size 75 [.string T6,.int .i64 e6]:=by rw[hW21];exact p20.other _ _ (by simp;omega)
     have HO21:=hide (show Blk W21 w.heap.size 44 [.int .i64 3,.string SD] by rw[hW21,hW20];exact ((o19.other _ _ (by simp;omega)).other _ _ (by simp;omega)).other _ _ (by simp))
     have HR21:=hide (show Blk W21 (w.heap.size+1) 100 [.string S0,.slice none 0 0,.int .u64 0,.string S0,.string S0] by rw[hW21,hW20];exact ((r19.other _ _ (by simp;omega)).other _ _ (by simp;omega)).other _ _ (by simp))
     have HS21:=hide (show Stg W21 W6.heap.size (.slice po m pc) qs by rw[hW21];exact zai s20 m20 (by decide) 4 _)
     have HG21:=hide (show w.grownBy W21 none by rw[hW21,hW20];exact zab (zab (zab G19 _ _ (Or.inl (by simp;omega))) _ _ (Or.inl (by simp;omega))) _ _ (Or.inl (by simp)))
     have q0:=p21.cell 0
     have q1:=p21.cell 1
     simp only[List.getElem?_cons_zero,List.getElem?_cons_succ] at q0 q1
     obtain ⟨HP21,HW20,HW21⟩:=zh3 p21 hW20 hW21
     clear hW20 hW21 p21 o19 r19 m19 p19 s19 G19 p20 m20 s20 g19
     go_wp2_with (first | (rw[← uh HW21]) | (rw[← uh HW20]))
     refine (c11 _).mono ?_
     rintro e w22 ⟨rfl,g22⟩
     clear c11 q0 q1 a0 a1 za0 za1 b1 zb1 HW20 HW21
     have o22:=(uh HO21).kept g22 (by simp)
     have r22:=(uh HR21).kept g22 (by simp)
     have m22:=(uh HM21).kept g22 (by simp)
     have s22:=(uh HS21).kept g22
     have G22:=tn (uh HG21) g22
     have hfive:∀ V:World,Blk V (w.heap.size+1) 100 [.string S0,.slice none 0 0,.int .u64 0,.string S0,.string S0]→w.grownBy V none→∀ a b c d e:Value,w.grownBy (((((V.setCell ⟨w.heap.size+1,0,none⟩ a).setCell ⟨w.heap.size+1,1,none⟩ b).setCell ⟨w.heap.size+1,2,none⟩ c).setCell ⟨w.heap.size+1,3,none⟩ d).setCell ⟨w.heap.size+1,4,none⟩ e) none∧Blk (((((V.setCell ⟨w.heap.size+1,0,none⟩ a).setCell ⟨w.heap.size+1,1,none⟩ b).setCell ⟨w.heap.size+1,2,none⟩ c).setCell ⟨w.heap.size+1,3,none⟩ d).setCell ⟨w.heap.size+1,4,none⟩ e) (w.heap.size+1) 100 [a,b,c,d,e]:=fun V hB gV a b c d e=>⟨zab (zab (zab (zab (zab gV _ _ (Or.inl (Nat.le_succ _))) _ _ (Or.inl (Nat.le_succ _))) _ _ (Or.inl (Nat.le_succ _))) _ _ (Or.inl (Nat.le_succ _))) _ _ (Or.inl (Nat.le_succ _)),((((hB.set 0 a).set 1 b).set 2 c).set 3 d).set 4 e⟩
     by_cases hD0:Dn=0
     ·subst hD0
      have n0:=m22.cell 0
      have n1:=m22.cell 1
      have n2:=m22.cell 2
      have n3:=m22.cell 3
      have n4:=m22.cell 4
      simp only[List.getElem?_cons_zero,List.getElem?_cons_succ] at n0 n1 n2 n3 n4
      have c12:=uh HC12 w22 s22
      obtain ⟨HO22,HR22,HM22,HS22,HG22,HFV⟩:=zh6 o22 r22 m22 s22 G22 hfive
      clear o22 r22 m22 s22 G22 hfive g22
      go_wp2_with fail
      refine c12.mono ?_
      rintro e w23 ⟨rfl,g23⟩
      obtain ⟨K,hK⟩:∃ K:Int,K=(if r.1=0 then 3 else 0):=⟨_,rfl⟩
      obtain ⟨x,hx⟩:∃ x:Int,x=r.1:=⟨_,rfl⟩
      obtain ⟨SS,hSS⟩:∃ S,S=str r.2:=⟨_,rfl⟩
      rw[← hK,← hx,← hSS]
      obtain ⟨HK,HX,HSS⟩:=zh3 hK hx hSS
      clear hK hx hSS c12 n0 n1 n2 n3 n4
      obtain ⟨W24,hW24,j24,g24⟩:∃ W,W=w23.alloc (.cells #[.int .i64 K,.string SS] 44)∧Blk W w23.heap.size 44 [.int .i64 K,.string SS]∧w23.grownBy W none:=zag w23 _ _
      have gf:=tn g23 g24
      have o24:=(uh HO22).kept gf (by simp)
      have r24:=(uh HR22).kept gf (by simp)
      have m24:=(uh HM22).kept gf (by simp)
      have s24:=(uh HS22).kept gf
      have G24:=tn (uh HG22) gf
      have o0:=o24.cell 0
      have o1:=o24.cell 1
      have j0:=j24.cell 0
      have j1:=j24.cell 1
      have t0c:=r24.cell 0
      have t1c:=r24.cell 1
      have t2c:=r24.cell 2
      have t3c:=r24.cell 3
      have t4c:=r24.cell 4
      have y0:=r24.fz 0
      have y1:=r24.fz 1
      have y2:=r24.fz 2
      have y3:=r24.fz 3
      have y4:=r24.fz 4
      have n0:=m24.cell 0
      have n1:=m24.cell 1
      have n2:=m24.cell 2
      have n3:=m24.cell 3
      have n4:=m24.cell 4
      simp only[List.getElem?_cons_zero,List.getElem?_cons_succ] at o0 o1 j0 j1 t0c t1c t2c t3c t4c n0 n1 n2 n3 n4
      have hneq:(binOp .neq 44 (.agg #[.int .i64 K,.string SS]) (.agg #[.int .i64 3,.string SD])).run Tryz.prog W24 = .ok (.bool (!(K == 3 && r.2 == d))) W24:=by
       have:=zfe W24 K 3 r.2 d
       rwa [← uh HSS,← uh HSD] at this
      have HFR:=hide (uh HFV W24 r24 G24)
      have HR24:=hide r24
      have HS24:=hide (zbs s24 hs6)
      have HW24:=hide hW24
      clear o24 r24 m24 s24 G24 gf j24 g23 g24 hW24
      by_cases hx0:x=0
      ·have hK4:K=3:=by rw[uh HK,if_pos (by rw[← uh HX];exact hx0)]
       subst hK4
       have hr0:r.1=0:=by rw[← uh HX];exact hx0
       by_cases hrd:r.2=d
       ·have hres:=uh HGOOD ⟨by simp,by rw[← hrd,← hr0]⟩
        have HRS:=hide hres
        rw[show (!((3:Int) == 3 && r.2 == d))=false by simp[hrd]] at hneq
        clear hres hrd hr0 HBAD HGOOD
        subst hx0
        go_wp2_with (first | (refine zbr (by rfl) _ _ _ _ rfl _ _ _ rfl rfl zbk hneq ?_) | (rw[← uh HW24]))
        refine bodyPost_ret (zaf rfl _ _ _ _ _ _ _ rfl (uh HFR _ _ _ _ _).2 Tryz.underlying100 rfl zcd) rfl ?_
        refine ⟨po,pc,0,?_,by rw[uh HRS],?_,(uh HFR _ _ _ _ _).1⟩
        ·rw[uh HRS]
         simp only
         rw[uh HRCC]
         rfl
        ·rw[uh HRS]
         simp only
         rw[← uh HM]
         exact zai (zai (zai (zai (zai (uh HS24) (uh HR24) (by decide) 0 _) ((uh HR24).set 0 _) (by decide) 1 _) (((uh HR24).set 0 _).set 1 _) (by decide) 2 _) ((((uh HR24).set 0 _).set 1 _).set 2 _) (by decide) 3 _) (((((uh HR24).set 0 _).set 1 _).set 2 _).set 3 _) (by decide) 4 _
       ·have hres:=uh HBAD (fun h=>hrd (by rw[h.2]))
        have HRS:=hide hres
        rw[show (!((3:Int) == 3 && r.2 == d))=true by simp[hrd]] at hneq
        clear hres hrd hr0 HBAD HGOOD
        subst hx0
        go_wp2_with (first | (refine zbr (by rfl) _ _ _ _ rfl _ _ _ rfl rfl zbk hneq ?_) | (rw[← uh HW24]))
        refine bodyPost_ret (zaf rfl _ _ _ _ _ _ _ rfl (uh HFR _ _ _ _ _).2 Tryz.underlying100 rfl zcd) rfl ?_
        exact ⟨none,0,11,by rw[uh HRS];rfl,by rw[uh HRS],by rw[uh HRS];exact Stg.nil _ _,(uh HFR _ _ _ _ _).1⟩
      ·have hx1:(x == 0)=false:=by simpa using hx0
       have hres:=uh HBAD (fun h=>hx0 (by rw[uh HX,h.2]))
       have HRS:=hide hres
       clear hres HBAD HGOOD hneq
       go_wp2_with (rw[← uh HW24])
       refine bodyPost_ret (zaf rfl _ _ _ _ _ _ _ rfl (uh HFR _ _ _ _ _).2 Tryz.underlying100 rfl zcd) rfl ?_
       exact ⟨none,0,11,by rw[uh HRS];rfl,by rw[uh HRS],by rw[uh HRS];exact Stg.nil _ _,(uh HFR _ _ _ _ _).1⟩
     ·have hD1:(Dn == 0)=false:=by simpa using hD0
      have hres:=uh HBAD (fun h=>hD0 h.1)
      have HRS:=hide hres
      have t0c:=r22.cell 0
      have t1c:=r22.cell 1
      have t2c:=r22.cell 2
      have t3c:=r22.cell 3
      have t4c:=r22.cell 4
      have y0:=r22.fz 0
      have y1:=r22.fz 1
      have y2:=r22.fz 2
      have y3:=r22.fz 3
      have y4:=r22.fz 4
      simp only[List.getElem?_cons_zero,List.getElem?_cons_succ] at t0c t1c t2c t3c t4c
      have HFR:=hide (hfive w22 r22 G22)
      clear hres HBAD HGOOD o22 r22 m22 s22 G22 hfive g22
      go_wp2
      refine bodyPost_ret (zaf rfl _ _ _ _ _ _ _ rfl (uh HFR _ _ _ _ _).2 Tryz.underlying100 rfl zcd) rfl ?_
      exact ⟨none,0,11,by rw[uh HRS];rfl,by rw[uh HRS],by rw[uh HRS];exact Stg.nil _ _,(uh HFR _ _ _ _ _).1⟩
    ·have hB2:(e' == 0)=false:=by simpa using hB
     go_wp2_with fail
     refine (c8 _).mono ?_
     rintro e w13 ⟨rfl,g13⟩
     clear c8 p0 p1
     have o13:=(uh HOw).kept g13 (by simp)
     have r13:=(uh HRw).kept g13 (by simp)
     have m13:=(uh HMw).kept g13 (by simp)
     have p13:=(uh HPw).kept g13 (by simp)
     have s13:=(uh HSw).kept g13
     have G13:=tn (uh HGw) g13
     have a0:=p13.cell 0
     have a1:=p13.cell 1
     have za0:=p13.fz 0
     have za1:=p13.fz 1
     simp only[List.getElem?_cons_zero,List.getElem?_cons_succ] at a0 a1
     obtain ⟨W14,hW14⟩:∃ W,W=(w13.setCell ⟨w2.heap.size,0,none⟩ (.string T4)).setCell ⟨w2.heap.size,1,none⟩ (.int .i64 e4):=⟨_,rfl⟩
     have p14:Blk W14 w2.heap.size 75 [.string T4,.int .i64 e4]:=by rw[hW14];exact (p13.set 0 _).set 1 _
     have m14:Blk W14 (w.heap.size+2) 100 [.string TT,.slice po m pc,.int .u64 0,.string S0,.string S0]:=by rw[hW14];exact (m13.other _ _ (by simp;omega)).other _ _ (by simp;omega)
     have s14:Stg W14 W6.heap.size (.slice po m pc) qs:=by rw[hW14];exact zai (zai s13 p13 (by decide) 0 _) (p13.set 0 _) (by decide) 1 _
     have b1:=m14.cell 2
     have zb1:=m14.fz 2
     simp only[List.getElem?_cons_zero,List.getElem?_cons_succ] at b1
     obtain ⟨W15,hW15⟩:∃ W,W=W14.setCell ⟨w.heap.size+2,2,none⟩ (.int .u64 (tm:Int)):=⟨_,rfl⟩
     have HM15:=hide (show Blk W15 (w.heap.size+2) 100 [.string TT,.slice po m pc,.int .u64 (tm:Int),.string S0,.string S0] by rw[hW15];exact m14.set 2 _)
     have p15:Blk W15 w2.heap.size 75 [.string T4,.int .i64 e4]:=by rw[hW15];exact p14.other _ _ (by simp;omega)
     have HO15:=hide (show Blk W15 w.heap.size 44 [.int .i64 3,.string SD] by rw[hW15,hW14];exact ((o13.other _ _ (by simp;omega)).other _ _ (by simp;omega)).other _ _ (by simp))
     have HR15:=hide (show Blk W15 (w.heap.size+1) 100 [.string S0,.slice none 0 0,.int .u64 0,.string S0,.string S0] by rw[hW15,hW14];exact ((r13.other _ _ (by simp;omega)).other _ _ (by simp;omega)).other _ _ (by simp))
     have HS15:=hide (show Stg W15 W6.heap.size (.slice po m pc) qs by rw[hW15];exact zai s14 m14 (by decide) 2 _)
     have HG15:=hide (show w.grownBy W15 none by rw[hW15,hW14];exact zab (zab (zab G13 _ _ (Or.inl (by simp;omega))) _ _ (Or.inl (by simp;omega))) _ _ (Or.inl (by simp)))
     have q0:=p15.cell 0
     have q1:=p15.cell 1
     simp only[List.getElem?_cons_zero,List.getElem?_cons_succ] at q0 q1
     obtain ⟨HP15,HW14,HW15⟩:=zh3 p15 hW14 hW15
     clear hW14 hW15 p15 o13 r13 m13 p13 s13 G13 p14 m14 s14 g13
     go_wp2_with (first | (rw[← uh HW15]) | (rw[← uh HW14]))
     refine (c9 _).mono ?_
     rintro e w16 ⟨rfl,g16⟩
     clear c9 q0 q1 a0 a1 za0 za1 b1 zb1 HW14 HW15
     have o16:=(uh HO15).kept g16 (by simp)
     have r16:=(uh HR15).kept g16 (by simp)
     have m16:=(uh HM15).kept g16 (by simp)
     have p16:=(uh HP15).kept g16 (by simp)
     have s16:=(uh HS15).kept g16
     have G16:=tn (uh HG15) g16
     have a0:=p16.cell 0
     have a1:=p16.cell 1
     have za0:=p16.fz 0
     have za1:=p16.fz 1
     simp only[List.getElem?_cons_zero,List.getElem?_cons_succ] at a0 a1
     obtain ⟨W17,hW17⟩:∃ W,W=(w16.setCell ⟨w2.heap.size,0,none⟩ (.string T5)).setCell ⟨w2.heap.size,1,none⟩ (.int .i64 e5):=⟨_,rfl⟩
     have p17:Blk W17 w2.heap.size 75 [.string T5,.int .i64 e5]:=by rw[hW17];exact (p16.set 0 _).set 1 _
     have m17:Blk W17 (w.heap.size+2) 100 [.string TT,.slice po m pc,.int .u64 (tm:Int),.string S0,.string S0]:=by rw[hW17];exact (m16.other _ _ (by simp;omega)).other _ _ (by simp;omega)
     have s17:Stg W17 W6.heap.size (.slice po m pc) qs:=by rw[hW17];exact zai (zai s16 p16 (by decide) 0 _) (p16.set 0 _) (by decide) 1 _
     have b1:=m17.cell 3
     have zb1:=m17.fz 3
     simp only[List.getElem?_cons_zero,List.getElem?_cons_succ] at b1
     obtain ⟨W18,hW18⟩:∃ W,W=W17.setCell ⟨w.heap.size+2,3,none⟩ (.string TN):=⟨_,rfl⟩
     have HM18:=hide (show Blk W18 (w.heap.size+2) 100 [.string TT,.slice po m pc,.int .u64 (tm:Int),.string TN,.string S0] by rw[hW18];exact m17.set 3 _)
     have p18:Blk W18 w2.heap.size 75 [.string T5,.int .i64 e5]:=by rw[hW18];exact p17.other _ _ (by simp;omega)
     have HO18:=hide (show Blk W18 w.heap.size 44 [.int .i64 3,.string SD] by rw[hW18,hW17];exact ((o16.other _ _ (by simp;omega)).other _ _ (by simp;omega)).other _ _ (by simp))
     have HR18:=hide (show Blk W18 (w.heap.size+1) 100 [.string S0,.slice none 0 0,.int .u64 0,.string S0,.string S0] by rw[hW18,hW17];exact ((r16.other _ _ (by simp;omega)).other _ _ (by simp;omega)).other _ _ (by simp))
     have HS18:=hide (show Stg W18 W6.heap.size (.slice po m pc) qs by rw[hW18];exact zai s17 m17 (by decide) 3 _)
     have HG18:=hide (show w.grownBy W18 none by rw[hW18,hW17];exact zab (zab (zab G16 _ _ (Or.inl (by simp;omega))) _ _ (Or.inl (by simp;omega))) _ _ (Or.inl (by simp)))
     have q0:=p18.cell 0
     have q1:=p18.cell 1
     simp only[List.getElem?_cons_zero,List.getElem?_cons_succ] at q0 q1
     obtain ⟨HP18,HW17,HW18⟩:=zh3 p18 hW17 hW18
     clear hW17 hW18 p18 o16 r16 m16 p16 s16 G16 p17 m17 s17 g16
     go_wp2_with (first | (rw[← uh HW18]) | (rw[← uh HW17]))
     refine (c10 _).mono ?_
     rintro e w19 ⟨rfl,g19⟩
     clear c10 q0 q1 a0 a1 za0 za1 b1 zb1 HW17 HW18
     have o19:=(uh HO18).kept g19 (by simp)
     have r19:=(uh HR18).kept g19 (by simp)
     have m19:=(uh HM18).kept g19 (by simp)
     have p19:=(uh HP18).kept g19 (by simp)
     have s19:=(uh HS18).kept g19
     have G19:=tn (uh HG18) g19
     have a0:=p19.cell 0
     have a1:=p19.cell 1
     have za0:=p19.fz 0
     have za1:=p19.fz 1
     simp only[List.getElem?_cons_zero,List.getElem?_cons_succ] at a0 a1
     obtain ⟨W20,hW20⟩:∃ W,W=(w19.setCell ⟨w2.heap.size,0,none⟩ (.string T6)).setCell ⟨w2.heap.size,1,none⟩ (.int .i64 e6):=⟨_,rfl⟩
     have p20:Blk W20 w2.heap.size 75 [.string T6,.int .i64 e6]:=by rw[hW20];exact (p19.set 0 _).set 1 _
     have m20:Blk W20 (w.heap.size+2) 100 [.string TT,.slice po m pc,.int .u64 (tm:Int),.string TN,.string S0]:=by rw[hW20];exact (m19.other _ _ (by simp;omega)).other _ _ (by simp;omega)
     have s20:Stg W20 W6.heap.size (.slice po m pc) qs:=by rw[hW20];exact zai (zai s19 p19 (by decide) 0 _) (p19.set 0 _) (by decide) 1 _
     have b1:=m20.cell 4
     have zb1:=m20.fz 4
     simp only[List.getElem?_cons_zero,List.getElem?_cons_succ] at b1
     obtain ⟨W21,hW21⟩:∃ W,W=W20.setCell ⟨w.heap.size+2,4,none⟩ (.string TX):=⟨_,rfl⟩
     have HM21:=hide (show Blk W21 (w.heap.size+2) 100 [.string TT,.slice po m pc,.int .u64 (tm:Int),.string TN,.string TX] by rw[hW21];exact m20.set 4 _)
     have p21:Blk W21 w2.heap.size 75 [.string T6,.int .i64 e6]:=by rw[hW21];exact p20.other _ _ (by simp;omega)
     have HO21:=hide (show Blk W21 w.heap.size 44 [.int .i64 3,.string SD] by rw[hW21,hW20];exact ((o19.other _ _ (by simp;omega)).other _ _ (by simp;omega)).other _ _ (by simp))
     have HR21:=hide (show Blk W21 (w.heap.size+1) 100 [.string S0,.slice none 0 0,.int .u64 0,.string S0,.string S0] by rw[hW21,hW20];exact ((r19.other _ _ (by simp;omega)).other _ _ (by simp;omega)).other _ _ (by simp))
     have HS21:=hide (show Stg W21 W6.heap.size (.slice po m pc) qs by rw[hW21];exact zai s20 m20 (by decide) 4 _)
     have HG21:=hide (show w.grownBy W21 none by rw[hW21,hW20];exact zab (zab (zab G19 _ _ (Or.inl (by simp;omega))) _ _ (Or.inl (by simp;omega))) _ _ (Or.inl (by simp)))
     have q0:=p21.cell 0
     have q1:=p21.cell 1
     simp only[List.getElem?_cons_zero,List.getElem?_cons_succ] at q0 q1
     obtain ⟨HP21,HW20,HW21⟩:=zh3 p21 hW20 hW21
     clear hW20 hW21 p21 o19 r19 m19 p19 s19 G19 p20 m20 s20 g19
     go_wp2_with (first | (rw[← uh HW21]) | (rw[← uh HW20]))
     refine (c11 _).mono ?_
     rintro e w22 ⟨rfl,g22⟩
     clear c11 q0 q1 a0 a1 za0 za1 b1 zb1 HW20 HW21
     have o22:=(uh HO21).kept g22 (by simp)
     have r22:=(uh HR21).kept g22 (by simp)
     have m22:=(uh HM21).kept g22 (by simp)
     have s22:=(uh HS21).kept g22
     have G22:=tn (uh HG21) g22
     have hfive:∀ V:World,Blk V (w.heap.size+1) 100 [.string S0,.slice none 0 0,.int .u64 0,.string S0,.string S0]→w.grownBy V none→∀ a b c d e:Value,w.grownBy (((((V.setCell ⟨w.heap.size+1,0,none⟩ a).setCell ⟨w.heap.size+1,1,none⟩ b).setCell ⟨w.heap.size+1,2,none⟩ c).setCell ⟨w.heap.size+1,3,none⟩ d).setCell ⟨w.heap.size+1,4,none⟩ e) none∧Blk (((((V.setCell ⟨w.heap.size+1,0,none⟩ a).setCell ⟨w.heap.size+1,1,none⟩ b).setCell ⟨w.heap.size+1,2,none⟩ c).setCell ⟨w.heap.size+1,3,none⟩ d).setCell ⟨w.heap.size+1,4,none⟩ e) (w.heap.size+1) 100 [a,b,c,d,e]:=fun V hB gV a b c d e=>⟨zab (zab (zab (zab (zab gV _ _ (Or.inl (Nat.le_succ _))) _ _ (Or.inl (Nat.le_succ _))) _ _ (Or.inl (Nat.le_succ _))) _ _ (Or.inl (Nat.le_succ _))) _ _ (Or.inl (Nat.le_succ _)),((((hB.set 0 a).set 1 b).set 2 c).set 3 d).set 4 e⟩
     by_cases hD0:Dn=0
     ·subst hD0
      have n0:=m22.cell 0
      have n1:=m22.cell 1
      have n2:=m22.cell 2
      have n3:=m22.cell 3
      have n4:=m22.cell 4
      simp only[List.getElem?_cons_zero,List.getElem?_cons_succ] at n0 n1 n2 n3 n4
      have c12:=uh HC12 w22 s22
      obtain ⟨HO22,HR22,HM22,HS22,HG22,HFV⟩:=zh6 o22 r22 m22 s22 G22 hfive
      clear o22 r22 m22 s22 G22 hfive g22
      go_wp2_with fail
      refine c12.mono ?_
      rintro e w23 ⟨rfl,g23⟩
      obtain ⟨K,hK⟩:∃ K:Int,K=(if r.1=0 then 3 else 0):=⟨_,rfl⟩
      obtain ⟨x,hx⟩:∃ x:Int,x=r.1:=⟨_,rfl⟩
      obtain ⟨SS,hSS⟩:∃ S,S=str r.2:=⟨_,rfl⟩
      rw[← hK,← hx,← hSS]
      obtain ⟨HK,HX,HSS⟩:=zh3 hK hx hSS
      clear hK hx hSS c12 n0 n1 n2 n3 n4
      obtain ⟨W24,hW24,j24,g24⟩:∃ W,W=w23.alloc (.cells #[.int .i64 K,.string SS] 44)∧Blk W w23.heap.size 44 [.int .i64 K,.string SS]∧w23.grownBy W none:=zag w23 _ _
      have gf:=tn g23 g24
      have o24:=(uh HO22).kept gf (by simp)
      have r24:=(uh HR22).kept gf (by simp)
      have m24:=(uh HM22).kept gf (by simp)
      have s24:=(uh HS22).kept gf
      have G24:=tn (uh HG22) gf
      have o0:=o24.cell 0
      have o1:=o24.cell 1
      have j0:=j24.cell 0
      have j1:=j24.cell 1
      have t0c:=r24.cell 0
      have t1c:=r24.cell 1
      have t2c:=r24.cell 2
      have t3c:=r24.cell 3
      have t4c:=r24.cell 4
      have y0:=r24.fz 0
      have y1:=r24.fz 1
      have y2:=r24.fz 2
      have y3:=r24.fz 3
      have y4:=r24.fz 4
      have n0:=m24.cell 0
      have n1:=m24.cell 1
      have n2:=m24.cell 2
      have n3:=m24.cell 3
      have n4:=m24.cell 4
      simp only[List.getElem?_cons_zero,List.getElem?_cons_succ] at o0 o1 j0 j1 t0c t1c t2c t3c t4c n0 n1 n2 n3 n4
      have hneq:(binOp .neq 44 (.agg #[.int .i64 K,.string SS]) (.agg #[.int .i64 3,.string SD])).run Tryz.prog W24 = .ok (.bool (!(K == 3 && r.2 == d))) W24:=by
       have:=zfe W24 K 3 r.2 d
       rwa [← uh HSS,← uh HSD] at this
      have HFR:=hide (uh HFV W24 r24 G24)
      have HR24:=hide r24
      have HS24:=hide (zbs s24 hs6)
      have HW24:=hide hW24
      clear o24 r24 m24 s24 G24 gf j24 g23 g24 hW24
      by_cases hx0:x=0
      ·have hK4:K=3:=by rw[uh HK,if_pos (by rw[← uh HX];exact hx0)]
       subst hK4
       have hr0:r.1=0:=by rw[← uh HX];exact hx0
       by_cases hrd:r.2=d
       ·have hres:=uh HGOOD ⟨by simp,by rw[← hrd,← hr0]⟩
        have HRS:=hide hres
        rw[show (!((3:Int) == 3 && r.2 == d))=false by simp[hrd]] at hneq
        clear hres hrd hr0 HBAD HGOOD
        subst hx0
        go_wp2_with (first | (refine zbr (by rfl) _ _ _ _ rfl _ _ _ rfl rfl zbk hneq ?_) | (rw[← uh HW24]))
        refine bodyPost_ret (zaf rfl _ _ _ _ _ _ _ rfl (uh HFR _ _ _ _ _).2 Tryz.underlying100 rfl zcd) rfl ?_
        refine ⟨po,pc,0,?_,by rw[uh HRS],?_,(uh HFR _ _ _ _ _).1⟩
        ·rw[uh HRS]
         simp only
         rw[uh HRCC]
         rfl
        ·rw[uh HRS]
         simp only
         rw[← uh HM]
         exact zai (zai (zai (zai (zai (uh HS24) (uh HR24) (by decide) 0 _) ((uh HR24).set 0 _) (by decide) 1 _) (((uh HR24).set 0 _).set 1 _) (by decide) 2 _) ((((uh HR24).set 0 _).set 1 _).set 2 _) (by decide) 3 _) (((((uh HR24).set 0 _).set 1 _).set 2 _).set 3 _) (by decide) 4 _
       ·have hres:=uh HBAD (fun h=>hrd (by rw[h.2]))
        have HRS:=hide hres
        rw[show (!((3:Int) == 3 && r.2 == d))=true by simp[hrd]] at hneq
        clear hres hrd hr0 HBAD HGOOD
        subst hx0
        go_wp2_with (first | (refine zbr (by rfl) _ _ _ _ rfl _ _ _ rfl rfl zbk hneq ?_) | (rw[← uh HW24]))
        refine bodyPost_ret (zaf rfl _ _ _ _ _ _ _ rfl (uh HFR _ _ _ _ _).2 Tryz.underlying100 rfl zcd) rfl ?_
        exact ⟨none,0,11,by rw[uh HRS];rfl,by rw[uh HRS],by rw[uh HRS];exact Stg.nil _ _,(uh HFR _ _ _ _ _).1⟩
      ·have hx1:(x == 0)=false:=by simpa using hx0
       have hres:=uh HBAD (fun h=>hx0 (by rw[uh HX,h.2]))
       have HRS:=hide hres
       clear hres HBAD HGOOD hneq
       go_wp2_with (rw[← uh HW24])
       refine bodyPost_ret (zaf rfl _ _ _ _ _ _ _ rfl (uh HFR _ _ _ _ _).2 Tryz.underlying100 rfl zcd) rfl ?_
       exact ⟨none,0,11,by rw[uh HRS];rfl,by rw[uh HRS],by rw[uh HRS];exact Stg.nil _ _,(uh HFR _ _ _ _ _).1⟩
     ·have hD1:(Dn == 0)=false:=by simpa using hD0
      have hres:=uh HBAD (fun h=>hD0 h.1)
      have HRS:=hide hres
      have t0c:=r22.cell 0
      have t1c:=r22.cell 1
      have t2c:=r22.cell 2
      have t3c:=r22.cell 3
      have t4c:=r22.cell 4
      have y0:=r22.fz 0
      have y1:=r22.fz 1
      have y2:=r22.fz 2
      have y3:=r22.fz 3
      have y4:=r22.fz 4
      simp only[List.getElem?_cons_zero,List.getElem?_cons_succ] at t0c t1c t2c t3c t4c
      have HFR:=hide (hfive w22 r22 G22)
      clear hres HBAD HGOOD o22 r22 m22 s22 G22 hfive g22
      go_wp2
      refine bodyPost_ret (zaf rfl _ _ _ _ _ _ _ rfl (uh HFR _ _ _ _ _).2 Tryz.underlying100 rfl zcd) rfl ?_
      exact ⟨none,0,11,by rw[uh HRS];rfl,by rw[uh HRS],by rw[uh HRS];exact Stg.nil _ _,(uh HFR _ _ _ _ _).1⟩
 ·have hres:RT=(2,⟨[],[],0,[],[]⟩):=by rw[hRT];simp[rtC,hk]
  have hk2:(k == 3)=false:=by simpa using hk
  have HR:=hide hres
  clear hRT hres hSD hd hS0
  go_enter Tryz.func49,Tryz.ntmps49
  go_wp2
  refine bodyPost_ret (v := .tuple #[.agg #[.string ⟨#[]⟩,.slice none 0 0,.int .u64 0,.string ⟨#[]⟩,.string ⟨#[]⟩],.int .i64 2]) (by simp[results,Tryz.results49,go_sem]) rfl ?_
  exact ⟨none,0,2,by rw[uh HR];rfl,by rw[uh HR],by rw[uh HR];exact Stg.nil _ _,zad (zad (zaa _ _) _) _⟩
end Go.Proofs.YtegbbkgmiklhcaaGreatDoor
