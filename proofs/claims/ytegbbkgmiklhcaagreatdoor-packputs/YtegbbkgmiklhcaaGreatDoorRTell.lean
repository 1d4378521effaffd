/- Lemmas. -/
import Derived.Test.YtegbbkgmiklhcaaGreatDoorREq
import Derived.Test.YtegbbkgmiklhcaaGreatDoorRMrk
namespace Go.Proofs.YtegbbkgmiklhcaaGreatDoor
open Go.RowKit
def rtM (k:Int) (d:List UInt8):Int × MrkL:=if k=4 then (if zco (zbk d)=(0,d) then (0,zbk d) else (11,⟨[],[],[]⟩)) else (2,⟨[],[],[]⟩)
theorem zfe (w:World) (k k2:Int) (s s2:List UInt8):(binOp .neq 44 (.agg #[.int .i64 k,.string (str s)]) (.agg #[.int .i64 k2,.string (str s2)])).run Tryz.prog w = .ok (.bool (!(k == k2 && s == s2))) w:=by
 rw[run_neq_struct,zi7,za3,za3]
 cases (k == k2 && s == s2) <;> rfl
theorem zef:(Tryz.prog.info? 104).map (·.size)=some 3:=by kernel_rfl
theorem zbr {P:Program} {ops:Array Oper} {rest:List Oper} {o:Oper} {a:Act} {w:World} {Q:Exit→Act→World→Prop} (hg:Region.wanted o (yielded ops a.tmps)=true) (t t' : TypeId) (x y:Operand) (ho:o.op = .binOp .neq t x y t') (X Z:Array Value) (r:Bool)
  (hx:a.eval x = .agg X) (hy:a.eval y = .agg Z) (hm:P.eqGuardType P.depth t=false) (hq:(binOp .neq t (.agg X) (.agg Z)).run P w = .ok (.bool r) w)
  (h:wpList P ops Q rest (a.put o.dst (.bool r)) w):wpList P ops Q (o::rest) a w :=
 zbm hg fun K hK=>by
  unfold Oper.wp execOp
  simp only[ho,hx,hy,Sem.run_bind,run_eqGuard_agg w .neq t x y X Z hm,hq,Result.andThen_ok]
  exact hK _ _ h
set_option maxRecDepth 100000 in
set_option maxHeartbeats 8000000 in
theorem zks (w:World) (k:Int) (d:List UInt8) (hd:d.length≤100000):Calls Tryz.prog 50 #[.agg #[.int .i64 k,.string (str d)]] w fun e w'=>e = .returned (.tuple #[.agg (rmC (rtM k d).2).toArray,.int .i64 (rtM k d).1])∧w.grownBy w' none:=by
 obtain ⟨SD,hSD⟩:∃ S,S=str d:=⟨_,rfl⟩
 obtain ⟨S0,hS0⟩:∃ S:ByteArray,S=⟨#[]⟩:=⟨_,rfl⟩
 obtain ⟨RT,hRT⟩:∃ r,r=rtM k d:=⟨_,rfl⟩
 rw[← hRT,← hSD]
 by_cases hk:k=4
 ·subst hk
  have hrt:RT=(if zco (zbk d)=(0,d) then (0,zbk d) else (11,⟨[],[],[]⟩)):=by rw[hRT];simp[rtM]
  obtain ⟨⟨t0,l1,e1⟩,h1⟩:∃ a,rawS d 0 32=a:=⟨_,rfl⟩
  obtain ⟨⟨nm,l2,e2⟩,h2⟩:∃ a,zal l1 e1=a:=⟨_,rfl⟩
  obtain ⟨⟨tx,l3,e3⟩,h3⟩:∃ a,zal l2 e2=a:=⟨_,rfl⟩
  have hrd:rdM d=(⟨t0,nm,tx⟩,l3,e3):=by unfold rdM;simp only[h1,h2,h3]
  have hsame:=zlg (d:=d)
  have his:=zua (d:=d)
  rw[hrd] at hsame his
  simp only at hsame his
  have hl0:=zfp d 0 32
  rw[show ((32:Nat):Int)=32 from rfl,h1] at hl0
  have hl1:=zca d 0 32
  rw[h1] at hl1
  have hn1:=zbz l1 e1
  have hl2:=za5 l1 e1
  rw[h2] at hn1 hl2
  have hn2:=zbz l2 e2
  have hl3:=za5 l2 e2
  rw[h3] at hn2 hl3
  simp only at hl0 hl1 hn1 hl2 hn2 hl3
  obtain ⟨r,hr⟩:∃ r,r=zco ⟨t0,nm,tx⟩:=⟨_,rfl⟩
  obtain ⟨D,hD⟩:∃ D,D=zb5 l3 e3:=⟨_,rfl⟩
  rw[← hr,← hD] at hsame
  have c1:∀ V,Calls Tryz.prog 57 #[.agg #[.string SD,.int .i64 0],.int .i64 32] V fun r w'=>r = .returned (.tuple #[.agg #[.string (str l1),.int .i64 e1],.string (str t0)])∧V.grownBy w' none:=fun V=>by
   have:=zfc V d 0 32 (by omega)
   rw[h1,← hSD] at this
   exact this
  have c2:∀ V,Calls Tryz.prog 32 #[.agg #[.string (str l1),.int .i64 e1]] V fun r w'=>r = .returned (.tuple #[.agg #[.string (str l2),.int .i64 e2],.string (str nm)])∧V.grownBy w' none:=fun V=>by
   have:=zg4 V l1 e1 (by omega)
   rw[h2] at this
   exact this
  have c3:∀ V,Calls Tryz.prog 32 #[.agg #[.string (str l2),.int .i64 e2]] V fun r w'=>r = .returned (.tuple #[.agg #[.string (str l3),.int .i64 e3],.string (str tx)])∧V.grownBy w' none:=fun V=>by
   have:=zg4 V l2 e2 (by omega)
   rw[h3] at this
   exact this
  have c4:∀ V,Calls Tryz.prog 73 #[.agg #[.string (str t0),.string (str nm),.string (str tx)]] V fun e w'=>zjl V w' 4 r e:=fun V=>by rw[hr];exact zm8 V ⟨t0,nm,tx⟩ (by simp only;omega) (by simp only;omega) (by simp only;omega)
  have c5:∀ V,Calls Tryz.prog 33 #[.agg #[.string (str l3),.int .i64 e3]] V fun r w'=>r = .returned (.int .i64 D)∧V.grownBy w' none:=fun V=>by rw[hD];exact zg3 V l3 e3 (by omega)
  have hrest:rmC ⟨t0,nm,tx⟩=[.string (str t0),.string (str nm),.string (str tx)]:=rfl
  obtain ⟨T1,hT1⟩:∃ T,T=str l1:=⟨_,rfl⟩
  obtain ⟨T2,hT2⟩:∃ T,T=str l2:=⟨_,rfl⟩
  obtain ⟨T3,hT3⟩:∃ T,T=str l3:=⟨_,rfl⟩
  obtain ⟨TT,hTT⟩:∃ T,T=str t0:=⟨_,rfl⟩
  obtain ⟨TN,hTN⟩:∃ T,T=str nm:=⟨_,rfl⟩
  obtain ⟨TX,hTX⟩:∃ T,T=str tx:=⟨_,rfl⟩
  rw[← hT1] at c1 c2
  rw[← hT2] at c2 c3
  rw[← hT3] at c3 c5
  rw[← hTT] at c1 c4 hrest
  rw[← hTN] at c2 c4 hrest
  rw[← hTX] at c3 c4 hrest
  obtain ⟨E1,hE1⟩:∃ W,W=((w.alloc (.cells #[.int .i64 4,.string SD] 44)).alloc (.cells #[.string S0,.string S0,.string S0] 104)).alloc (.cells #[.string S0,.string S0,.string S0] 104):=⟨_,rfl⟩
  have gE:w.grownBy E1 none:=by rw[hE1];exact zad (zad (zad (zaa _ _) _) _) _
  have oE:Blk E1 w.heap.size 44 [.int .i64 4,.string SD]:=by rw[hE1];exact ((Blk.new w _ _).alloc _).alloc _
  have rE:Blk E1 (w.heap.size+1) 104 [.string S0,.string S0,.string S0]:=by
   rw[hE1]
   have:=(Blk.new (w.alloc (.cells #[.int .i64 4,.string SD] 44)) 104 [.string S0,.string S0,.string S0]).alloc (.cells #[.string S0,.string S0,.string S0] 104)
   simpa using this
  have mE:Blk E1 (w.heap.size+2) 104 [.string S0,.string S0,.string S0]:=by
   rw[hE1]
   have:=Blk.new ((w.alloc (.cells #[.int .i64 4,.string SD] 44)).alloc (.cells #[.string S0,.string S0,.string S0] 104)) 104 [.string S0,.string S0,.string S0]
   simpa using this
  have HE1:Hid (E1=((w.alloc (.cells #[.int .i64 4,.string SD] 44)).alloc (.cells #[.string ⟨#[]⟩,.string ⟨#[]⟩,.string ⟨#[]⟩] 104)).alloc (.cells #[.string ⟨#[]⟩,.string ⟨#[]⟩,.string ⟨#[]⟩] 104)):=by rw[← hS0];exact hE1
  obtain ⟨HRT,HSA,HIS,HRC,HS0,HSD⟩:=zh6 hrt hsame his hrest hS0 hSD
  obtain ⟨HGE,HOE,HRE,HME⟩:=zh4 gE oE rE mE
  have k0:=oE.cell 0
  have k1:=oE.cell 1
  simp only[List.getElem?_cons_zero,List.getElem?_cons_succ] at k0 k1
  clear hRT hrt hsame his hrest hS0 hSD gE oE rE mE hE1 hrd h1 h2 h3 hl0 hl1 hn1 hl2 hn2 hl3 hr hD hT1 hT2 hT3 hTT hTN hTX hd
  go_enter Tryz.func50,Tryz.ntmps50
  go_wp2_with fail
  rw[← uh HE1]
  refine (c1 _).mono ?_
  rintro e w2 ⟨rfl,g2⟩
  have HO2:=hide ((uh HOE).kept g2 (by simp))
  have HR2:=hide ((uh HRE).kept g2 (by simp))
  have m2:=(uh HME).kept g2 (by simp)
  have G2:=tn (uh HGE) g2
  have hs2:w.heap.size+2<w2.heap.size:=m2.lt
  obtain ⟨W3,hW3,p3,g3⟩:=zag w2 75 [.string T1,.int .i64 e1]
  have m3:=m2.kept g3 (by simp)
  have f3:=m3.cell 0
  simp only[List.getElem?_cons_zero] at f3
  have z3:=m3.fz 0
  obtain ⟨W4,hW4⟩:∃ W,W=W3.setCell ⟨w.heap.size+2,0,none⟩ (.string TT):=⟨_,rfl⟩
  have m4:Blk W4 (w.heap.size+2) 104 [.string TT,.string S0,.string S0]:=by rw[hW4];exact m3.set 0 _
  have p4:Blk W4 w2.heap.size 75 [.string T1,.int .i64 e1]:=by rw[hW4];exact p3.other _ _ (by simp;omega)
  have o4:Blk W4 w.heap.size 44 [.int .i64 4,.string SD]:=by rw[hW4];exact ((uh HO2).kept g3 (by simp)).other _ _ (by simp)
  have r4:Blk W4 (w.heap.size+1) 104 [.string S0,.string S0,.string S0]:=by rw[hW4];exact ((uh HR2).kept g3 (by simp)).other _ _ (by simp)
  have G4:w.grownBy W4 none:=by rw[hW4];exact zab (tn G2 g3) _ _ (Or.inl (by simp))
  have q0:=p4.cell 0
  have q1:=p4.cell 1
  simp only[List.getElem?_cons_zero,List.getElem?_cons_succ] at q0 q1
  obtain ⟨HW3,HW4,HO4,HR4,HM4,HP4⟩:=zh6 hW3 hW4 o4 r4 m4 p4
  have HG4:=hide G4
  clear c1 k0 k1 hW3 hW4 o4 r4 m4 p4 p3 G4 G2 m2 m3 g2 g3
  go_wp2_with (first | (rw[← uh HW4]) | (rw[← uh HW3]))
  refine (c2 _).mono ?_
  rintro e w5 ⟨rfl,g5⟩
  clear c2 q0 q1 f3 z3 HW3 HW4
  have o5:=(uh HO4).kept g5 (by simp)
  have r5:=(uh HR4).kept g5 (by simp)
  have m5:=(uh HM4).kept g5 (by simp)
  have p5:=(uh HP4).kept g5 (by simp)
  have G5:=tn (uh HG4) g5
  have a0:=p5.cell 0
  have a1:=p5.cell 1
  have za0:=p5.fz 0
  have za1:=p5.fz 1
  simp only[List.getElem?_cons_zero,List.getElem?_cons_succ] at a0 a1
  obtain ⟨W6,hW6⟩:∃ W,W=(w5.setCell ⟨w2.heap.size,0,none⟩ (.string T2)).setCell ⟨w2.heap.size,1,none⟩ (.int .i64 e2):=⟨_,rfl⟩
  have p6:Blk W6 w2.heap.size 75 [.string T2,.int .i64 e2]:=by rw[hW6];exact (p5.set 0 _).set 1 _
  have m6:Blk W6 (w.heap.size+2) 104 [.string TT,.string S0,.string S0]:=by rw[hW6];exact (m5.other _ _ (by simp;omega)).other _ _ (by simp;omega)
  have b1:=m6.cell 1
  have zb1:=m6.fz 1
  simp only[List.getElem?_cons_zero,List.getElem?_cons_succ] at b1
  obtain ⟨W7,hW7⟩:∃ W,W=W6.setCell ⟨w.heap.size+2,1,none⟩ (.string TN):=⟨_,rfl⟩
  have m7:Blk W7 (w.heap.size+2) 104 [.string TT,.string TN,.string S0]:=by rw[hW7];exact m6.set 1 _
  have p7:Blk W7 w2.heap.size 75 [.string T2,.int .i64 e2]:=by rw[hW7];exact p6.other _ _ (by simp;omega)
  have o7:Blk W7 w.heap.size 44 [.int .i64 4,.string SD]:=by rw[hW7,hW6];exact ((o5.other _ _ (by simp;omega)).other _ _ (by simp;omega)).other _ _ (by simp)
  have r7:Blk W7 (w.heap.size+1) 104 [.string S0,.string S0,.string S0]:=by rw[hW7,hW6];exact ((r5.other _ _ (by simp;omega)).other _ _ (by simp;omega)).other _ _ (by simp)
  have G7:w.grownBy W7 none:=by rw[hW7,hW6];exact zab (zab (zab G5 _ _ (Or.inl (by simp;omega))) _ _ (Or.inl (by simp;omega))) _ _ (Or.inl (by simp))
  have q0:=p7.cell 0
  have q1:=p7.cell 1
  simp only[List.getElem?_cons_zero,List.getElem?_cons_succ] at q0 q1
  obtain ⟨HW6,HW7,HO7,HR7,HM7,HP7⟩:=zh6 hW6 hW7 o7 r7 m7 p7
  have HG7:=hide G7
  clear hW6 hW7 o7 r7 p7 G7 o5 r5 m5 p5 G5 p6 m6 g5 HO4 HR4 HM4 HP4 HG4
  clear m7
  go_wp2_with (first | (rw[← uh HW7]) | (rw[← uh HW6]))
  refine (c3 _).mono ?_
  rintro e w8 ⟨rfl,g8⟩
  clear c3 q0 q1 a0 a1 za0 za1 b1 zb1 HW6 HW7
  have o8:=(uh HO7).kept g8 (by simp)
  have r8:=(uh HR7).kept g8 (by simp)
  have m8:=(uh HM7).kept g8 (by simp)
  have p8:=(uh HP7).kept g8 (by simp)
  have G8:=tn (uh HG7) g8
  have a0:=p8.cell 0
  have a1:=p8.cell 1
  have za0:=p8.fz 0
  have za1:=p8.fz 1
  simp only[List.getElem?_cons_zero,List.getElem?_cons_succ] at a0 a1
  obtain ⟨W9,hW9⟩:∃ W,W=(w8.setCell ⟨w2.heap.size,0,none⟩ (.string T3)).setCell ⟨w2.heap.size,1,none⟩ (.int .i64 e3):=⟨_,rfl⟩
  have p9:Blk W9 w2.heap.size 75 [.string T3,.int .i64 e3]:=by rw[hW9];exact (p8.set 0 _).set 1 _
  have m9:Blk W9 (w.heap.size+2) 104 [.string TT,.string TN,.string S0]:=by rw[hW9];exact (m8.other _ _ (by simp;omega)).other _ _ (by simp;omega)
  have b1:=m9.cell 2
  have zb1:=m9.fz 2
  simp only[List.getElem?_cons_zero,List.getElem?_cons_succ] at b1
  obtain ⟨W10,hW10⟩:∃ W,W=W9.setCell ⟨w.heap.size+2,2,none⟩ (.string TX):=⟨_,rfl⟩
  have m10:Blk W10 (w.heap.size+2) 104 [.string TT,.string TN,.string TX]:=by rw[hW10];exact m9.set 2 _
  have p10:Blk W10 w2.heap.size 75 [.string T3,.int .i64 e3]:=by rw[hW10];exact p9.other _ _ (by simp;omega)
  have o10:Blk W10 w.heap.size 44 [.int .i64 4,.string SD]:=by rw[hW10,hW9];exact ((o8.other _ _ (by simp;omega)).other _ _ (by simp;omega)).other _ _ (by simp)
  have r10:Blk W10 (w.heap.size+1) 104 [.string S0,.string S0,.string S0]:=by rw[hW10,hW9];exact ((r8.other _ _ (by simp;omega)).other _ _ (by simp;omega)).other _ _ (by simp)
  have G10:w.grownBy W10 none:=by rw[hW10,hW9];exact zab (zab (zab G8 _ _ (Or.inl (by simp;omega))) _ _ (Or.inl (by simp;omega))) _ _ (Or.inl (by simp))
  have q0:=p10.cell 0
  have q1:=p10.cell 1
  simp only[List.getElem?_cons_zero,List.getElem?_cons_succ] at q0 q1
  obtain ⟨HW9,HW10,HO10,HR10,HM10,HP10⟩:=zh6 hW9 hW10 o10 r10 m10 p10
  have HG10:=hide G10
  clear hW9 hW10 o10 r10 p10 G10 o8 r8 m8 p8 G8 p9 m9 g8 HO7 HR7 HM7 HP7 HG7
  have n0:=m10.cell 0
  have n1:=m10.cell 1
  have n2:=m10.cell 2
  simp only[List.getElem?_cons_zero,List.getElem?_cons_succ] at n0 n1 n2
  clear m10
  go_wp2_with (first | (rw[← uh HW10]) | (rw[← uh HW9]))
  refine (c4 _).mono ?_
  rintro e w11 ⟨rfl,g11⟩
  clear c4 q0 q1 a0 a1 za0 za1 b1 zb1 HW9 HW10 n0 n1 n2
  obtain ⟨K,hK⟩:∃ K:Int,K=(if r.1=0 then 4 else 0):=⟨_,rfl⟩
  obtain ⟨x,hx⟩:∃ x:Int,x=r.1:=⟨_,rfl⟩
  obtain ⟨SS,hSS⟩:∃ S,S=str r.2:=⟨_,rfl⟩
  rw[← hK,← hx,← hSS]
  obtain ⟨HK,HX,HSS⟩:=zh3 hK hx hSS
  clear hK hx hSS
  obtain ⟨W12,hW12,j12,g12⟩:∃ W,W=w11.alloc (.cells #[.int .i64 K,.string SS] 44)∧Blk W w11.heap.size 44 [.int .i64 K,.string SS]∧w11.grownBy W none:=zag w11 _ _
  have gg:=tn g11 g12
  have p12:=(uh HP10).kept gg (by simp)
  have q0:=p12.cell 0
  have q1:=p12.cell 1
  simp only[List.getElem?_cons_zero,List.getElem?_cons_succ] at q0 q1
  obtain ⟨HW12,HJ12,HG12⟩:=zh3 hW12 j12 gg
  clear hW12 j12 gg g11 g12 p12
  go_wp2_with (rw[← uh HW12])
  refine (c5 _).mono ?_
  rintro e w13 ⟨rfl,g13⟩
  have gf:=tn (uh HG12) g13
  have o13:=(uh HO10).kept gf (by simp)
  have r13:=(uh HR10).kept gf (by simp)
  have m13:=(uh HM10).kept gf (by simp)
  have j13:=(uh HJ12).kept g13 (by simp)
  have GF:=tn (uh HG10) gf
  have o0:=o13.cell 0
  have o1:=o13.cell 1
  have j0:=j13.cell 0
  have j1:=j13.cell 1
  have s0:=r13.cell 0
  have s1:=r13.cell 1
  have s2:=r13.cell 2
  have y0:=r13.fz 0
  have y1:=r13.fz 1
  have y2:=r13.fz 2
  have n0:=m13.cell 0
  have n1:=m13.cell 1
  have n2:=m13.cell 2
  simp only[List.getElem?_cons_zero,List.getElem?_cons_succ] at o0 o1 j0 j1 s0 s1 s2 n0 n1 n2
  have hfin:∀ a b c:Value,w.grownBy (((w13.setCell ⟨w.heap.size+1,0,none⟩ a).setCell ⟨w.heap.size+1,1,none⟩ b).setCell ⟨w.heap.size+1,2,none⟩ c) none:=fun a b c=>zab (zab (zab GF _ _ (Or.inl (Nat.le_succ _))) _ _ (Or.inl (Nat.le_succ _))) _ _ (Or.inl (Nat.le_succ _))
  have hrow:∀ a b c:Value,Blk (((w13.setCell ⟨w.heap.size+1,0,none⟩ a).setCell ⟨w.heap.size+1,1,none⟩ b).setCell ⟨w.heap.size+1,2,none⟩ c) (w.heap.size+1) 104 [a,b,c]:=fun a b c=>((r13.set 0 a).set 1 b).set 2 c
  obtain ⟨HFIN,HROW⟩:=zh2 hfin hrow
  have hbad:¬ (D=0∧r=(0,d))→RT=(11,⟨[],[],[]⟩):=fun h=>by rw[uh HRT,if_neg (fun h2=>h ((uh HSA).2 h2))]
  have HBAD:=hide hbad
  have hgood:D=0∧r=(0,d)→RT=(0,⟨t0,nm,tx⟩):=fun h=>by
   have h2:=(uh HSA).1 h
   rw[uh HRT,if_pos h2,uh HIS h2]
  have HGOOD:=hide hgood
  have hneq:(binOp .neq 44 (.agg #[.int .i64 K,.string SS]) (.agg #[.int .i64 4,.string SD])).run Tryz.prog w13 = .ok (.bool (!(K == 4 && r.2 == d))) w13:=by
   have:=zfe w13 K 4 r.2 d
   rwa [← uh HSS,← uh HSD] at this
  clear c5 q0 q1 hfin hrow hbad hgood o13 r13 m13 j13 HJ12 HW12 gf
  by_cases hD0:D=0
  ·subst hD0
   by_cases hx0:x=0
   ·have hK4:K=4:=by rw[uh HK,if_pos (by rw[← uh HX];exact hx0)]
    subst hK4
    have hr0:r.1=0:=by rw[← uh HX];exact hx0
    by_cases hrd:r.2=d
    ·have hres:=uh HGOOD ⟨rfl,by rw[← hrd,← hr0]⟩
     have HRS:=hide hres
     rw[show (!((4:Int) == 4 && r.2 == d))=false by simp[hrd]] at hneq
     clear hres hrd hr0 HBAD HGOOD
     subst hx0
     go_wp2_with (refine zbr (by rfl) _ _ _ _ rfl _ _ _ rfl rfl zbp hneq ?_)
     refine bodyPost_ret (zaf rfl _ _ _ _ _ _ _ rfl (uh HROW _ _ _) Tryz.underlying104 rfl zef) rfl ?_
     refine ⟨?_,uh HFIN _ _ _⟩
     rw[uh HRS]
     simp only
     rw[uh HRC]
     rfl
    ·have hres:=uh HBAD (fun h=>hrd (by rw[h.2]))
     have HRS:=hide hres
     rw[show (!((4:Int) == 4 && r.2 == d))=true by simp[hrd]] at hneq
     clear hres hrd hr0 HBAD HGOOD
     subst hx0
     go_wp2_with (refine zbr (by rfl) _ _ _ _ rfl _ _ _ rfl rfl zbp hneq ?_)
     refine bodyPost_ret (zaf rfl _ _ _ _ _ _ _ rfl (uh HROW _ _ _) Tryz.underlying104 rfl zef) rfl ?_
     exact ⟨by rw[uh HRS];rfl,uh HFIN _ _ _⟩
   ·have hx1:(x == 0)=false:=by simpa using hx0
    have hres:=uh HBAD (fun h=>hx0 (by rw[uh HX,h.2]))
    have HRS:=hide hres
    clear hres HBAD HGOOD hneq
    go_wp2
    refine bodyPost_ret (zaf rfl _ _ _ _ _ _ _ rfl (uh HROW _ _ _) Tryz.underlying104 rfl zef) rfl ?_
    exact ⟨by rw[uh HRS];rfl,uh HFIN _ _ _⟩
  ·have hD1:(D == 0)=false:=by simpa using hD0
   have hres:=uh HBAD (fun h=>hD0 h.1)
   have HRS:=hide hres
   clear hres HBAD HGOOD hneq
   go_wp2
   refine bodyPost_ret (zaf rfl _ _ _ _ _ _ _ rfl (uh HROW _ _ _) Tryz.underlying104 rfl zef) rfl ?_
   exact ⟨by rw[uh HRS];rfl,uh HFIN _ _ _⟩
 ·have hres:RT=(2,⟨[],[],[]⟩):=by rw[hRT];simp[rtM,hk]
  have hk2:(k == 4)=false:=by simpa using hk
  have HR:=hide hres
  clear hRT hres hSD hd hS0
  go_enter Tryz.func50,Tryz.ntmps50
  go_wp2
  exact bodyPost_ret (v := .tuple #[.agg #[.string ⟨#[]⟩,.string ⟨#[]⟩,.string ⟨#[]⟩],.int .i64 2]) (by simp[results,Tryz.results50,go_sem]) rfl ⟨by rw[uh HR];rfl,zad (zad (zaa _ _) _) _⟩
end Go.Proofs.YtegbbkgmiklhcaaGreatDoor
