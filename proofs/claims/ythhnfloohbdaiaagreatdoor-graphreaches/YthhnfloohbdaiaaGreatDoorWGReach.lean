/- Lemmas. -/
import Derived.Test.YthhnfloohbdaiaaGreatDoorRGBey
import Derived.Test.YthhnfloohbdaiaaGreatDoorGSame
import Derived.Test.YthhnfloohbdaiaaGreatDoorGOne
import Derived.Deep.DeepCutAuto
namespace Go.Proofs.YthhnfloohbdaiaaGreatDoor
open Go.RowKit
set_option maxRecDepth 100000 in
set_option maxHeartbeats 4000000 in
theorem zmj (w:World) (ao:Option Addr) (ac n:Nat) (cb:Calls Tryz.prog 9 #[.slice ao n ac] w fun e w'=>zzj w w' e) (bo:Option Addr) (bc:Nat) (P:List Int) (hP:Nts w bo bc P) (co:Option Addr) (cc:Nat) (Q:List Int) (hQ:Nts w co cc Q) (hT:Tabs w) :
  Calls Tryz.prog 4 #[.slice ao n ac,.slice bo P.length bc,.slice co Q.length cc] w fun e w'=>e = .returned (.bool true)∧w.grownBy w' none:=by
 have hzv:=zgs
 obtain ⟨HP,HQ,HT⟩:=zh3 hP hQ hT
 clear hP hQ hT
 go_enter Tryz.func4,Tryz.ntmps4
 go_wp2_with fail
 refine cb.mono ?_
 rintro e w1 ⟨sb,mb,a1,a2,ia,n1,n2,c1,c2,ic,S,I,rfl,hb⟩
 clear cb
 obtain ⟨W2,hW2,hB2,g2⟩:=zbi w1 28 #[.slice none 0 0,.slice none 0 0] [.slice a1 n1 c1,.slice a2 n2 c2]
 have hk2:=hb.gk hB2 g2
 have hI24:=hb.few
 have hS24:=hb.sew
 have HSS:=hide hb.set.ok
 have HWI:=hide hb.wid
 obtain ⟨HK2,HW2⟩:=zh2 hk2 hW2
 have HB2:=hide (Blk.new w1 28 [.slice none 0 0,.slice none 0 0])
 clear hb hW2 hB2 g2 hk2
 go_wp2_with (refine wpList_store_row rfl 28 _ _ rfl w1.heap.size _ rfl rfl _ _ (uh HB2) zay rfl (zcl _ _ _ _ _ _) ?_;rw[← uh HW2])
 refine (zj9 W2 ia ic I ((uh HK2).rows (.slice ia I.length ic,I) (by simp)).ids.1 bo bc P ((uh HP).kept (uh HK2).g) (by omega)).mono ?_
 rintro e w3 ⟨vx,X,rfl,hXo,hXI,hX6,g3⟩
 have hN3:Nam w3 w.heap.size vx X:=⟨zax hXo (uh HK2).g.size,fun z hz=>uh HWI z (hXI z hz)⟩
 obtain ⟨xa,xc,rfl,-,-⟩:=hN3.open
 have hk3:=((uh HK2).none g3).add hN3
 have HK3:=hide hk3
 clear hXo hXI g3 hk3 hN3
 go_wp2_with fail
 refine (zj9 w3 ia ic I ((uh HK3).rows (.slice ia I.length ic,I) (by simp)).ids.1 co cc Q ((uh HQ).kept (uh HK3).g) (by omega)).mono ?_
 rintro e w4 ⟨vy,Y,rfl,hYo,hYI,hY6,g4⟩
 have hN4:Nam w4 w.heap.size vy Y:=⟨zax hYo (uh HK3).g.size,fun z hz=>uh HWI z (hYI z hz)⟩
 obtain ⟨ya,yc,rfl,-,-⟩:=hN4.open
 have hk4:=((uh HK3).none g4).add hN4
 have HK4:=hide hk4
 clear hYo hYI g4 hk4 hN4
 go_wp2_with fail
 refine (zji w4 (some ⟨sb,0,none⟩) S (uh HK4).s.sat xa xc X ((uh HK4).rows (.slice xa X.length xc,X) (by simp)).ids.1 ((uh HK4).rows (.slice xa X.length xc,X) (by simp)).ids.2 (by omega)).mono ?_
 rintro e w5 ⟨vt,vm,T,M,rfl,hTr,hMr,hTm,hMm,hTM,g5⟩
 have hXw:∀ x∈X,x.length=32:=((uh HK4).rows (.slice xa X.length xc,X) (by simp)).wid
 have hN5:Nam w5 w.heap.size vt T:=⟨zax hTM.one (uh HK4).g.size,fun x hx=>zow hXw ((hTm x).1 hx).1⟩
 have hN6:Nam w5 w.heap.size vm M:=⟨zax hTM.two (uh HK4).g.size,fun x hx=>zow hXw ((hMm x).1 hx).1⟩
 obtain ⟨ta,tc,rfl,-,-⟩:=hN5.open
 obtain ⟨ma,mc,rfl,-,-⟩:=hN6.open
 have hk5:=(((uh HK4).none g5).add hN5).add hN6
 have hal:=zfw (fun e=>za4 e.k e.d) (fun e=>zde _ _) S (uh HSS) X (by omega)
 have hT24:T.length≤90000:=Nat.le_trans (zbc hTr.nodup (fun x hx=>zhk ((hTm x).1 hx).1)) hal
 have hM24:M.length≤90000:=Nat.le_trans (zbc hMr.nodup (fun x hx=>zhk ((hMm x).1 hx).1)) hal
 obtain ⟨HK5,HTR,HMR,HTM,HMM⟩:=zh5 hk5 hTr hMr hTm hMm
 have h0:w5.grownBy w5.drew none:=zaj (zaa _ _)
 clear hTM g5 hk5 hN5 hN6 hTr hMr hTm hMm hXw hal
 go_upto_region 6 with fail
 refine wp_region_noPanic ?_
 refine wp_region_held_drew (S:=fun V=>w5.grownBy V none) (by kernel_rfl) h0 (fun _ => ?_)
 refine tz 0 37 (.load 28 (.tmp 8)) (.agg [Value.slice a1 n1 c1,Value.slice a2 n2 c2].toArray) h0 ?_ (y:=(yieldsIf_load_mid (by rfl) _ _ rfl _ _ rfl [Value.slice a1 n1 c1,Value.slice a2 n2 c2] _ (fun V hV=>zad (zak (uh HK5).b) hV (by simp)) Tryz.underlying28 rfl zay))
 refine tq 1 38 (.move (.tmp 10)) ((.slice xa X.length xc)) h0 ?_
 (try simp only[pq])
 refine rd 2 (some 39) (.call { callee := .value (.func 18),args := #[(.tmp 38)],argTypes := #[29] }) (fun K9 hK9 => ?_)
 go_simp
 go_at_call 18
 refine (zdp _ _ _ X (((uh HK5).none h0).rows (.slice xa X.length xc,X) (by simp)).ids.1 (by omega)).mono ?_
 rintro e w6 ⟨v6,rfl,hs6,g6⟩
 obtain ⟨sa,sc,rfl,hr6,-⟩:=hs6.rws
 have h6:=tn h0 g6
 clear hs6 g6
 go_wp2_with fail
 refine hK9.out _ _ h6 (fun _ => ?_)
 clear hK9 K9
 (try simp only[pq])
 refine rd 3 (some 40) (.call { callee := .value (.func 23),args := #[(.tmp 37),(.tmp 39)],argTypes := #[28,25] }) (fun K9 hK9 => ?_)
 go_simp
 go_at_call 23
 refine (zjn _ w.heap.size _ _ S ((uh HK5).none h6).d (uh HSS) sa sc X hr6 (by omega)).mono ?_
 rintro e w7 ⟨v7,u7,T7,M7,rfl,hT7,hM7,hT7m,hM7m,hs7,hu7,g7⟩
 have e7:T=T7:=(uh HTR).ext hT7 (fun x=>by rw[hT7m,uh HTM])
 have f7:M=M7:=(uh HMR).ext hM7 (fun x=>by rw[hM7m,uh HMM])
 subst e7 f7
 obtain ⟨ta2,tc2,rfl,hst7⟩:=hs7.open
 obtain ⟨ma2,mc2,rfl,hsu7⟩:=hu7.open
 have h7:=tn h6 g7
 clear hT7 hM7 hT7m hM7m hs7 hu7 g7 hr6 h6
 go_wp2_with fail
 refine hK9.out _ _ h7 (fun _ => ?_)
 clear hK9 K9
 refine tq 4 36 (.move (.tmp 40)) ((.tuple #[.slice ta2 T.length tc2,.slice ma2 M.length mc2])) h7 ?_
 refine tq 5 41 (.extract (.tmp 36) 0) ((.slice ta2 T.length tc2)) h7 ?_
 refine tq 6 42 (.extract (.tmp 36) 1) ((.slice ma2 M.length mc2)) h7 ?_
 (try simp only[pq])
 refine tq 7 14 (.assign (.tmp 41)) ((.slice ta2 T.length tc2)) h7 ?_
 refine tq 8 15 (.assign (.tmp 42)) ((.slice ma2 M.length mc2)) h7 ?_
 (try simp only[pq])
 refine wpAnyH_done (by kernel_rfl) ?_ _
 refine NoPanic.normal ?_
 have HK7:=hide ((uh HK5).none h7)
 obtain ⟨HST,HSU⟩:=zh2 hst7 hsu7
 clear h0 h7 hst7 hsu7 HK5
 have h0:w7.grownBy w7.drew none:=zaj (zaa _ _)
 go_upto_region 7 with fail
 refine wp_region_noPanic ?_
 refine wp_region_held_drew (S:=fun V=>w7.grownBy V none) (by kernel_rfl) h0 (fun _ => ?_)
 refine tq 0 43 (.move (.tmp 12)) ((.slice ta T.length tc)) h0 ?_
 refine tq 2 45 (.move (.tmp 14)) ((.slice ta2 T.length tc2)) h0 ?_
 (try simp only[pq])
 refine rd 1 (some 44) (.call { callee := .value (.func 18),args := #[(.tmp 43)],argTypes := #[29] }) (fun K9 hK9 => ?_)
 go_simp
 go_at_call 18
 refine (zdp _ _ _ T (((uh HK7).none h0).rows (.slice ta T.length tc,T) (by simp)).ids.1 (by omega)).mono ?_
 rintro e q1 ⟨v1,rfl,hs1,g1⟩
 obtain ⟨sa1,sc1,rfl,hr1⟩:=hs1.open
 have h1:=tn h0 g1
 clear hs1
 go_wp2_with fail
 refine hK9.out _ _ h1 (fun _ => ?_)
 clear hK9 K9
 (try simp only[pq])
 refine rd 3 (some 46) (.call { callee := .value (.func 17),args := #[(.tmp 44),(.tmp 45)],argTypes := #[25,25] }) (fun K9 hK9 => ?_)
 go_simp
 go_at_call 17
 refine (zjo _ _ _ _ _ _ _ T T hr1 ((uh HST).kept h1) (by omega)).mono ?_
 rintro e q2 ⟨rfl,g2⟩
 simp only[decide_true]
 have h2:=tn h1 g2
 clear hr1 g1 g2
 go_wp2_with fail
 refine hK9.out _ _ h2 (fun _ => ?_)
 clear hK9 K9
 refine tq 4 47 (.move (.tmp 46)) ((.bool true)) h2 ?_
 refine tq 5 48 (.move (.tmp 13)) ((.slice ma M.length mc)) h2 ?_
 refine tq 7 50 (.move (.tmp 15)) ((.slice ma2 M.length mc2)) h2 ?_
 (try simp only[pq])
 refine rd 6 (some 49) (.call { callee := .value (.func 18),args := #[(.tmp 48)],argTypes := #[29] }) (fun K9 hK9 => ?_)
 go_simp
 go_at_call 18
 refine (zdp _ _ _ M (((uh HK7).none h2).rows (.slice ma M.length mc,M) (by simp)).ids.1 (by omega)).mono ?_
 rintro e q3 ⟨v3,rfl,hs3,g3⟩
 obtain ⟨sa3,sc3,rfl,hr3⟩:=hs3.open
 have h3:=tn h2 g3
 clear hs3
 go_wp2_with fail
 refine hK9.out _ _ h3 (fun _ => ?_)
 clear hK9 K9
 (try simp only[pq])
 refine rd 8 (some 51) (.call { callee := .value (.func 17),args := #[(.tmp 49),(.tmp 50)],argTypes := #[25,25] }) (fun K9 hK9 => ?_)
 go_simp
 go_at_call 17
 refine (zjo _ _ _ _ _ _ _ M M hr3 ((uh HSU).kept h3) (by omega)).mono ?_
 rintro e q4 ⟨rfl,g4⟩
 simp only[decide_true]
 have h4:=tn h3 g4
 clear hr3 g3 g4
 go_wp2_with fail
 refine hK9.out _ _ h4 (fun _ => ?_)
 clear hK9 K9
 refine tq 9 52 (.pick (.tmp 47) (.tmp 51) (.const (.bool false))) ((.bool true)) h4 ?_
 refine tq 10 53 (.move (.tmp 52)) ((.bool true)) h4 ?_
 refine tq 11 54 (.move (.tmp 7)) ((.pointer (some ⟨sb,0,none⟩))) h4 ?_
 (try simp only[pq])
 refine tq 12 55 (.move (.tmp 10)) ((.slice xa X.length xc)) h4 ?_
 refine tq 13 56 (.move (.tmp 11)) ((.slice ya Y.length yc)) h4 ?_
 refine tz 16 59 (.load 28 (.tmp 8)) (.agg [Value.slice a1 n1 c1,Value.slice a2 n2 c2].toArray) h4 ?_ (y:=(yieldsIf_load_mid (by rfl) _ _ rfl _ _ rfl [Value.slice a1 n1 c1,Value.slice a2 n2 c2] _ (fun V hV=>zad (zak (uh HK7).b) hV (by simp)) Tryz.underlying28 rfl zay))
 refine tq 17 60 (.move (.tmp 10)) ((.slice xa X.length xc)) h4 ?_
 (try simp only[pq])
 refine tq 19 62 (.move (.tmp 11)) ((.slice ya Y.length yc)) h4 ?_
 (try simp only[pq])
 refine rd 14 (some 57) (.call { callee := .value (.func 24),args := #[(.tmp 54),(.tmp 55),(.tmp 56)],argTypes := #[24,29,29] }) (fun K9 hK9 => ?_)
 go_simp
 go_at_call 24
 refine (zqp _ (some ⟨sb,0,none⟩) S ((uh HK7).none h4).s.sat xa xc X (((uh HK7).none h4).rows (.slice xa X.length xc,X) (by simp)).ids.1 (((uh HK7).none h4).rows (.slice xa X.length xc,X) (by simp)).ids.2 (by omega) ya yc Y (((uh HK7).none h4).rows (.slice ya Y.length yc,Y) (by simp)).ids.1 (((uh HK7).none h4).rows (.slice ya Y.length yc,Y) (by simp)).ids.2 (by omega)).mono ?_
 rintro e q5 ⟨v5,B,rfl,hBr,hBm,hBo,g5⟩
 obtain ⟨ba,bc5,rfl,hBi,hBl⟩:=(⟨hBo,fun x hx=>zwr (uh HSS) ((hBm x).1 hx).1.2⟩:Nam q5 _ v5 B).open
 have hB24:B.length≤24:=Nat.le_trans (zbc hBr.nodup (fun x hx=>(zdz S x).1 ((hBm x).1 hx).1.2)) (by simpa[idsS] using hS24)
 have h5:=tn h4 g5
 clear hBo hBl g5
 go_wp2_with fail
 refine hK9.out _ _ h5 (fun _ => ?_)
 clear hK9 K9
 (try simp only[pq])
 refine rd 15 (some 58) (.call { callee := .value (.func 18),args := #[(.tmp 57)],argTypes := #[29] }) (fun K9 hK9 => ?_)
 go_simp
 go_at_call 18
 refine (zdp _ _ _ B hBi (by omega)).mono ?_
 rintro e q6 ⟨v6,rfl,hs6,g6⟩
 obtain ⟨sa6,sc6,rfl,hr6⟩:=hs6.open
 have h6:=tn h5 g6
 clear hs6 g6 hBi
 go_wp2_with fail
 refine hK9.out _ _ h6 (fun _ => ?_)
 clear hK9 K9
 (try simp only[pq])
 refine rd 18 (some 61) (.call { callee := .value (.func 18),args := #[(.tmp 60)],argTypes := #[29] }) (fun K9 hK9 => ?_)
 go_simp
 go_at_call 18
 refine (zdp _ _ _ X (((uh HK7).none h6).rows (.slice xa X.length xc,X) (by simp)).ids.1 (by omega)).mono ?_
 rintro e q7 ⟨v7,rfl,hs7,g7⟩
 obtain ⟨sa7,sc7,rfl,hr7,-⟩:=hs7.rws
 have h7:=tn h6 g7
 have hr67:=hr6.kept g7
 clear hs7 g7 hr6
 go_wp2_with fail
 refine hK9.out _ _ h7 (fun _ => ?_)
 clear hK9 K9
 (try simp only[pq])
 refine rd 20 (some 63) (.call { callee := .value (.func 18),args := #[(.tmp 62)],argTypes := #[29] }) (fun K9 hK9 => ?_)
 go_simp
 go_at_call 18
 refine (zdp _ _ _ Y (((uh HK7).none h7).rows (.slice ya Y.length yc,Y) (by simp)).ids.1 (by omega)).mono ?_
 rintro e q8 ⟨v8,rfl,hs8,g8⟩
 obtain ⟨sa8,sc8,rfl,hr8,-⟩:=hs8.rws
 have h8:=tn h7 g8
 have hr68:=hr67.kept g8
 have hr78:=hr7.kept g8
 clear hs8 g8 hr67 hr7
 go_wp2_with fail
 refine hK9.out _ _ h8 (fun _ => ?_)
 clear hK9 K9
 (try simp only[pq])
 refine rd 21 (some 64) (.call { callee := .value (.func 25),args := #[(.tmp 59),(.tmp 61),(.tmp 63)],argTypes := #[28,25,25] }) (fun K9 hK9 => ?_)
 go_simp
 go_at_call 25
 refine (zmi _ w.heap.size _ _ S ((uh HK7).none h8).d (uh HSS) sa7 sc7 X hr78 (by omega) sa8 sc8 Y hr8 (by omega)).mono ?_
 rintro e q9 ⟨v9,B9,rfl,hB9,hB9m,hs9,g9⟩
 have e9:B=B9:=hBr.ext hB9 (fun x=>by rw[hB9m,hBm])
 subst e9
 obtain ⟨sa9,sc9,rfl,hr9⟩:=hs9.open
 have h9:=tn h8 g9
 have hr69:=hr68.kept g9
 clear hs9 g9 hr68 hr78 hr8 hB9 hB9m
 go_wp2_with fail
 refine hK9.out _ _ h9 (fun _ => ?_)
 clear hK9 K9
 (try simp only[pq])
 refine rd 22 (some 65) (.call { callee := .value (.func 17),args := #[(.tmp 58),(.tmp 64)],argTypes := #[25,25] }) (fun K9 hK9 => ?_)
 go_simp
 go_at_call 17
 refine (zjo _ _ _ _ _ _ _ B B hr69 hr9 (by omega)).mono ?_
 rintro e q10 ⟨rfl,g10⟩
 simp only[decide_true]
 have h10:=tn h9 g10
 go_wp2_with fail
 refine hK9.out _ _ h10 (fun _ => ?_)
 clear hK9 K9
 refine tq 23 66 (.pick (.tmp 53) (.tmp 65) (.const (.bool false))) ((.bool true)) h10 ?_
 refine tq 24 67 (.move (.tmp 66)) ((.bool true)) h10 ?_
 (try simp only[pq])
 refine rd 25 (some 68) (.call { callee := .value (.func 20),args := #[],argTypes := #[] }) (fun K9 hK9 => ?_)
 go_simp
 go_at_call 20
 refine (zwt _ ((uh HT).kept0 ((uh HK7).none h10).g)).mono ?_
 rintro e q11 ⟨rfl,g11⟩
 have h11:=tn h10 g11
 go_wp2_with fail
 refine hK9.out _ _ h11 (fun _ => ?_)
 clear hK9 K9
 refine tq 26 69 (.pick (.tmp 67) (.tmp 68) (.const (.bool false))) ((.bool true)) h11 ?_
 refine tq 27 6 (.assign (.tmp 69)) ((.bool true)) h11 ?_
 (try simp only[pq])
 refine wpAnyH_done (by kernel_rfl) ?_ _
 refine NoPanic.normal ?_
 go_wp2
 go_ret
 exact ⟨rfl,((uh HK7).none h11).g⟩
end Go.Proofs.YthhnfloohbdaiaaGreatDoor
