/- Lemmas. -/
import Derived.Test.YthhnfloohbdaiaaGreatDoorRGRchI
import Derived.Test.YthhnfloohbdaiaaGreatDoorGOne
import Derived.Deep.DeepCutAuto
namespace Go.Proofs.YthhnfloohbdaiaaGreatDoor
open Go.RowKit
theorem zy0 {nx:List UInt8→List (List UInt8)} {a b c:List UInt8} (h:Rch nx [a] b) (k:Rch nx [b] c):Rch nx [a] c :=
 k.mono (fun x hx=>by rw[List.mem_singleton.1 hx];exact h)
theorem ztm {x y:List UInt8} {XB YB:List Value} (hx:KyB x XB) (hy:KyB y YB) (lx:x.length=32) (ly:y.length=32) (W:World):(binOp .eql 33 (.agg XB.toArray) (.agg YB.toArray)).run Tryz.prog W = .ok (.bool (x == y)) W:=by
 rw[hx.e,hy.e]
 exact zwm W x y lx ly
theorem zfb {w wr:World} {sb mb rb:Nat} {v1 v2:Value} {S:List ObE} {V:List (Value × List (List UInt8))} (k:Gk w wr sb mb rb v1 v2 S V) {a b:List UInt8} {AB BB:List Value} (ha:KyB a AB) (hb:KyB b BB) (la:a.length=32) (lb:b.length=32) (V' : World) (g:wr.grownBy V' none) :
  Calls Tryz.prog 26 #[.pointer (some ⟨sb,0,none⟩),.agg AB.toArray,.agg BB.toArray] V' fun e w'=>∃ y,e = .returned (.bool y)∧(y=true↔Rch (prS S) [a] b)∧V'.grownBy w' none:=by
 rw[← ha.key,← hb.key]
 exact zfq V' (some ⟨sb,0,none⟩) S (k.s.none g).sat a b la lb
theorem zv9 {V:World} {p:Nat} {x:List UInt8} (hx:x.length=32) (hB:Blk V p 33 (x.map bv)):Ids V (some ⟨p,0,none⟩) 1 [x] :=
 ⟨(fun e=>by cases e),Nat.le_refl _,by unfold maxLen;decide,(fun ad e _=>by cases e;rfl),(fun ad e i hi=>by
  cases e
  have:i=0:=by simpa using hi
  subst this
  exact zak hB),fun y hy=>by rw[List.mem_singleton.1 hy];exact hx⟩
theorem zl1 {T:List (List UInt8)} {k:Nat} (h:k<T.length) {b:List UInt8} : b∈T.take (k+1)↔b∈T.take k∨T[k]=b:=by
 rw[List.take_succ_eq_append_getElem h,List.mem_append,List.mem_singleton]
 constructor
 ·rintro (h | h)
  ·exact Or.inl h
  ·exact Or.inr h.symm
 ·rintro (h | h)
  ·exact Or.inl h
  ·exact Or.inr h.symm
set_option maxRecDepth 100000 in
set_option maxHeartbeats 8000000 in
theorem zl2 (w:World) (ao:Option Addr) (ac n:Nat) (cb:Calls Tryz.prog 9 #[.slice ao n ac] w fun e w'=>zyz w w' e) (bo:Option Addr) (bc:Nat) (P:List Int) (hP:Nts w bo bc P) (hT:Tabs w) :
  Calls Tryz.prog 7 #[.slice ao n ac,.slice bo P.length bc] w fun e w'=>e = .returned (.bool true)∧w.grownBy w' none:=by
 have hzv:=zgf
 obtain ⟨HP,HT⟩:=zh2 hP hT
 clear hP hT
 go_enter Tryz.func7,Tryz.ntmps7
 go_wp2_with fail
 refine cb.mono ?_
 rintro e w1 ⟨sb,mb,a1,a2,ia,n1,n2,c1,c2,ic,S,IL,rfl,hb⟩
 clear cb
 obtain ⟨W2,hW2,hB2,g2⟩:=zbi w1 28 #[.slice none 0 0,.slice none 0 0] [.slice a1 n1 c1,.slice a2 n2 c2]
 have hk2:=hb.gk hB2 g2
 have hI24:=hb.few
 have hS24:=hb.sew
 have HSS:=hide hb.set.ok
 have HWI:=hide hb.wid
 obtain ⟨HK2,HW2⟩:=zh2 hk2 hW2
 have HB2:=hide (Blk.new w1 28 [.slice none 0 0,.slice none 0 0])
 clear hb hW2 hB2 g2 hk2
 by_cases hm0:IL.length=0
 ·have hmi:(IL.length:Int)=0:=by omega
  obtain ⟨m,hm⟩:∃ m,m=IL.length:=⟨_,rfl⟩
  rw[← hm] at hm0 hmi ⊢
  clear hm hI24
  subst hm0
  go_upto_region 3 with (refine wpList_store_row rfl 28 _ _ rfl w1.heap.size _ rfl rfl _ _ (uh HB2) za3 rfl (zcd _ _ _ _ _ _) ?_;rw[← uh HW2])
  refine zbt fun O hO => ?_
  refine zae (by rw[hO];kernel_rfl) (.pointer (some ⟨sb,0,none⟩)) (fun K9 hK9=>by go_simp;exact hK9) ?_
  (try simp only[pq])
  refine zae (by rw[hO];kernel_rfl) (.bool true) (fun K9 hK9=>by go_simp;exact hK9) ?_
  (try simp only[pq])
  refine zae (by rw[hO];kernel_rfl) (.bool true) (fun K9 hK9=>by go_simp;exact hK9) ?_
  (try simp only[pq])
  refine zcs (by rw[hO];kernel_rfl) fun K9 hK9 => ?_
  go_simp
  go_at_call 20
  refine (zhr W2 ((uh HT).kept0 (uh HK2).g)).mono ?_
  rintro e w9 ⟨rfl,g9⟩
  have G9:=tn (uh HK2).g g9
  refine hK9 _ _ ?_
  clear hK9 K9
  (try simp only[pq])
  refine zae (by rw[hO];kernel_rfl) (.bool true) (fun K9 hK9=>by go_simp;exact hK9) ?_
  (try simp only[pq])
  refine zae (by rw[hO];kernel_rfl) (.bool true) (fun K9 hK9=>by go_simp;exact hK9) ?_
  (try simp only[pq])
  go_wp2
  go_ret
  exact ⟨rfl,G9⟩
 have cp:=zp3 W2 ia ic IL ((uh HK2).rows (.slice ia IL.length ic,IL) (by simp)).ids.1 bo bc P ((uh HP).kept (uh HK2).g) (by omega)
 obtain ⟨m,hm⟩:∃ m,m=IL.length:=⟨_,rfl⟩
 have hm1:¬ m=0:=by omega
 have hmi:¬ (m:Int)=0:=by omega
 have hmj:((m:Int) == 0)=false:=by simp;omega
 rw[← hm] at cp ⊢
 have HM:=hide hm
 clear hm hm0
 go_wp2_with (refine wpList_store_row rfl 28 _ _ rfl w1.heap.size _ rfl rfl _ _ (uh HB2) za3 rfl (zcd _ _ _ _ _ _) ?_;rw[← uh HW2])
 refine cp.mono ?_
 rintro e w3 ⟨vx,X,rfl,hXo,hXI,hX6,g3⟩
 clear cp
 have hN3:Nam w3 w.heap.size vx X:=⟨za5 hXo (uh HK2).g.size,fun z hz=>uh HWI z (hXI z hz)⟩
 obtain ⟨xa,xc,rfl,-,-⟩:=hN3.open
 have hk3:=((uh HK2).none g3).add hN3
 obtain ⟨xn,hxn⟩:∃ x,x=X.length:=⟨_,rfl⟩
 rw[← hxn] at hk3 hX6 ⊢
 obtain ⟨HXN,HK3⟩:=zh2 hxn hk3
 clear hXo hXI g3 hk3 hN3 hxn HB2 HW2
 go_wp2_with fail
 go_loopw [9,10,11,12,13,14] (fun i _a _b _c _d _e wr=>∃ j:Nat,i = .int .i64 j∧j≤6∧Gk w wr sb mb w1.heap.size (.slice a1 n1 c1) (.slice a2 n2 c2) S [(.slice xa xn xc,X),(.slice ia IL.length ic,IL)]) (fun i _ _ _ _ _ _=>7 - (intOf i).toNat)
 case atStart=>exact ⟨0,rfl,by omega,uh HK3⟩
 case round =>
  obtain ⟨j,rfl,hj,hk⟩:=hrel
  have HK:=hide hk
  clear hk
  have hjw2:IntKind.i64.wrap ((j:Int)+2)=(j:Int)+2:=by rw[IntKind.wrap_i64];omega
  by_cases hlt:j+2<xn
  ·have hlti:(j:Int)+2<(xn:Int):=by omega
   have hjw:IntKind.i64.wrap ((j:Int)+1)=(j:Int)+1:=by rw[IntKind.wrap_i64];omega
   have hA:=(uh HXN) ▸ (show j<xn by omega)
   obtain ⟨j1,hj1⟩:∃ k,k=j+1:=⟨_,rfl⟩
   obtain ⟨j2,hj2⟩:∃ k,k=j+2:=⟨_,rfl⟩
   have hB:j1<X.length:=by rw[← uh HXN];omega
   have hC:j2<X.length:=by rw[← uh HXN];omega
   obtain ⟨xb,xo,hxa,hrA⟩:=((uh HK).rows (.slice xa xn xc,X) (by simp)).at j hA
   subst hxa
   obtain ⟨xb1,xo1,e1,hrB⟩:=((uh HK).rows (.slice (some ⟨xb,xo,none⟩) xn xc,X) (by simp)).at j1 hB
   obtain ⟨xb2,xo2,e2,hrC⟩:=((uh HK).rows (.slice (some ⟨xb,xo,none⟩) xn xc,X) (by simp)).at j2 hC
   cases e1
   cases e2
   have hwid:=((uh HK).rows (.slice (some ⟨xb,xo,none⟩) xn xc,X) (by simp)).wid
   have lA:=hwid _ (List.getElem_mem hA)
   have lB:=hwid _ (List.getElem_mem hB)
   have lC:=hwid _ (List.getElem_mem hC)
   obtain ⟨a,ha⟩:∃ a,a=X[j]:=⟨_,rfl⟩
   obtain ⟨b,hb⟩:∃ b,b=X[j1]:=⟨_,rfl⟩
   obtain ⟨c,hc⟩:∃ c,c=X[j2]:=⟨_,rfl⟩
   rw[← ha] at hrA lA
   rw[← hb] at hrB lB
   rw[← hc] at hrC lC
   obtain ⟨AB,hAB⟩:=kyb a lA
   obtain ⟨BB,hBB⟩:=kyb b lB
   obtain ⟨CB,hCB⟩:=kyb c lC
   rw[← hAB.e] at hrA
   rw[← hBB.e] at hrB
   rw[← hCB.e] at hrC
   have HFab:=hide (zfb (uh HK) hAB hBB lA lB)
   have HFbc:=hide (zfb (uh HK) hBB hCB lB lC)
   have HFac:=hide (zfb (uh HK) hAB hCB lA lC)
   obtain ⟨HRA,HRB,HRC,HAB,HBB,HCB⟩:=zh6 hrA hrB hrC hAB hBB hCB
   have hw1:IntKind.i64.wrap ((j:Int)+1)=(j1:Int):=by rw[hjw];omega
   have hw2:IntKind.i64.wrap ((j:Int)+2)=(j2:Int):=by rw[hjw2];omega
   have hl0:j<xn:=by omega
   have hl1:j1<xn:=by omega
   have hl2:j2<xn:=by omega
   have HJ1:=hide hj1
   have h0:wr.grownBy wr.drew none:=zaj (zaa _ _)
   clear hA hB hC hrA hrB hrC ha hb hc hAB hBB hCB hwid hj1 hj2 hjw hjw2
   go_upto_region 8 with fail
   go_cut [81] (fun v wx=>v = .bool false∧wr.grownBy wx none)
   case first =>
    by_cases p1:Rch (prS S) [a] b
    ·by_cases p2:Rch (prS S) [b] c
     ·have p3:=zy0 p1 p2
      refine wp_region_noPanic ?_
      refine wp_region_held_drew (S:=fun V=>wr.grownBy V none) (by kernel_rfl) h0 (fun _ => ?_)
      refine tq 0 43 (.move (.tmp 5)) ((.pointer (some ⟨sb,0,none⟩))) h0 ?_
      refine tq 1 44 (.move (.tmp 8)) ((.slice (some ⟨xb,xo,none⟩) xn xc)) h0 ?_
      refine tq 2 45 (.move (.tmp 9)) ((.int .i64 ((j:Int)))) h0 ?_
      refine tq 3 46 (.indexAddr 29 (.tmp 44) (.tmp 45)) ((.pointer (some ⟨xb,xo+j*32,none⟩))) h0 ?_
      (try simp only[pq])
      refine tz 4 47 (.load 33 (.tmp 46)) (.agg AB.toArray) h0 ?_ (y:=(yieldsIf_load_mid (by rfl) _ _ rfl _ _ rfl AB _ (fun V hV=>zab (uh HRA) hV (by simp)) Tryz.underlying33 rfl (uh HAB).info))
      refine tq 5 48 (.move (.tmp 8)) ((.slice (some ⟨xb,xo,none⟩) xn xc)) h0 ?_
      refine tq 6 49 (.move (.tmp 9)) ((.int .i64 ((j:Int)))) h0 ?_
      refine tq 7 50 (.binOp .add 3 (.tmp 49) (.const (.int .i64 1)) 3) ((.int .i64 ((j1:Int)))) h0 ?_
      (try simp only[pq])
      refine tq 8 51 (.indexAddr 29 (.tmp 48) (.tmp 50)) ((.pointer (some ⟨xb,xo+j1*32,none⟩))) h0 ?_
      refine tz 9 52 (.load 33 (.tmp 51)) (.agg BB.toArray) h0 ?_ (y:=(yieldsIf_load_mid (by rfl) _ _ rfl _ _ rfl BB _ (fun V hV=>zab (uh HRB) hV (by simp)) Tryz.underlying33 rfl (uh HBB).info))
      (try simp only[pq])
      refine rd 10 (some 53) (.call { callee := .value (.func 26),args := #[(.tmp 43),(.tmp 47),(.tmp 52)],argTypes := #[24,33,33] }) (fun K9 hK9 => ?_)
      go_simp
      go_at_call 26
      refine (uh HFab _ h0).mono ?_
      rintro e q1 ⟨y1,rfl,hy1,g1⟩
      obtain rfl:y1=true:=hy1.2 p1
      have h1:=tn h0 g1
      clear hy1 g1
      go_wp2_with fail
      refine hK9.out _ _ h1 (fun _ => ?_)
      clear hK9 K9
      refine tq 11 54 (.move (.tmp 53)) ((.bool true)) h1 ?_
      refine tq 12 55 (.move (.tmp 5)) ((.pointer (some ⟨sb,0,none⟩))) h1 ?_
      refine tq 13 56 (.move (.tmp 8)) ((.slice (some ⟨xb,xo,none⟩) xn xc)) h1 ?_
      (try simp only[pq])
      refine tq 14 57 (.move (.tmp 9)) ((.int .i64 ((j:Int)))) h1 ?_
      refine tq 15 58 (.binOp .add 3 (.tmp 57) (.const (.int .i64 1)) 3) ((.int .i64 ((j1:Int)))) h1 ?_
      refine tq 16 59 (.indexAddr 29 (.tmp 56) (.tmp 58)) ((.pointer (some ⟨xb,xo+j1*32,none⟩))) h1 ?_
      refine tz 17 60 (.load 33 (.tmp 59)) (.agg BB.toArray) h1 ?_ (y:=(yieldsIf_load_mid (by rfl) _ _ rfl _ _ rfl BB _ (fun V hV=>zab (uh HRB) hV (by simp)) Tryz.underlying33 rfl (uh HBB).info))
      (try simp only[pq])
      refine tq 18 61 (.move (.tmp 8)) ((.slice (some ⟨xb,xo,none⟩) xn xc)) h1 ?_
      refine tq 19 62 (.move (.tmp 9)) ((.int .i64 ((j:Int)))) h1 ?_
      refine tq 20 63 (.binOp .add 3 (.tmp 62) (.const (.int .i64 2)) 3) ((.int .i64 ((j2:Int)))) h1 ?_
      refine tq 21 64 (.indexAddr 29 (.tmp 61) (.tmp 63)) ((.pointer (some ⟨xb,xo+j2*32,none⟩))) h1 ?_
      (try simp only[pq])
      refine tz 22 65 (.load 33 (.tmp 64)) (.agg CB.toArray) h1 ?_ (y:=(yieldsIf_load_mid (by rfl) _ _ rfl _ _ rfl CB _ (fun V hV=>zab (uh HRC) hV (by simp)) Tryz.underlying33 rfl (uh HCB).info))
      (try simp only[pq])
      refine rd 23 (some 66) (.call { callee := .value (.func 26),args := #[(.tmp 55),(.tmp 60),(.tmp 65)],argTypes := #[24,33,33] }) (fun K9 hK9 => ?_)
      go_simp
      go_at_call 26
      refine (uh HFbc _ h1).mono ?_
      rintro e q2 ⟨y2,rfl,hy2,g2⟩
      obtain rfl:y2=true:=hy2.2 p2
      have h2:=tn h1 g2
      clear hy2 g2
      go_wp2_with fail
      refine hK9.out _ _ h2 (fun _ => ?_)
      clear hK9 K9
      refine tq 24 67 (.pick (.tmp 54) (.tmp 66) (.const (.bool false))) ((.bool true)) h2 ?_
      refine tq 25 68 (.move (.tmp 67)) ((.bool true)) h2 ?_
      refine tq 26 69 (.move (.tmp 5)) ((.pointer (some ⟨sb,0,none⟩))) h2 ?_
      (try simp only[pq])
      refine tq 27 70 (.move (.tmp 8)) ((.slice (some ⟨xb,xo,none⟩) xn xc)) h2 ?_
      refine tq 28 71 (.move (.tmp 9)) ((.int .i64 ((j:Int)))) h2 ?_
      refine tq 29 72 (.indexAddr 29 (.tmp 70) (.tmp 71)) ((.pointer (some ⟨xb,xo+j*32,none⟩))) h2 ?_
      refine tz 30 73 (.load 33 (.tmp 72)) (.agg AB.toArray) h2 ?_ (y:=(yieldsIf_load_mid (by rfl) _ _ rfl _ _ rfl AB _ (fun V hV=>zab (uh HRA) hV (by simp)) Tryz.underlying33 rfl (uh HAB).info))
      (try simp only[pq])
      refine tq 31 74 (.move (.tmp 8)) ((.slice (some ⟨xb,xo,none⟩) xn xc)) h2 ?_
      refine tq 32 75 (.move (.tmp 9)) ((.int .i64 ((j:Int)))) h2 ?_
      refine tq 33 76 (.binOp .add 3 (.tmp 75) (.const (.int .i64 2)) 3) ((.int .i64 ((j2:Int)))) h2 ?_
      refine tq 34 77 (.indexAddr 29 (.tmp 74) (.tmp 76)) ((.pointer (some ⟨xb,xo+j2*32,none⟩))) h2 ?_
      (try simp only[pq])
      refine tz 35 78 (.load 33 (.tmp 77)) (.agg CB.toArray) h2 ?_ (y:=(yieldsIf_load_mid (by rfl) _ _ rfl _ _ rfl CB _ (fun V hV=>zab (uh HRC) hV (by simp)) Tryz.underlying33 rfl (uh HCB).info))
      (try simp only[pq])
      refine rd 36 (some 79) (.call { callee := .value (.func 26),args := #[(.tmp 69),(.tmp 73),(.tmp 78)],argTypes := #[24,33,33] }) (fun K9 hK9 => ?_)
      go_simp
      go_at_call 26
      refine (uh HFac _ h2).mono ?_
      rintro e q3 ⟨y3,rfl,hy3,g3⟩
      obtain rfl:y3=true:=hy3.2 p3
      have h3:=tn h2 g3
      clear hy3 g3
      go_wp2_with fail
      refine hK9.out _ _ h3 (fun _ => ?_)
      clear hK9 K9
      refine tq 37 80 (.unOp .not 4 (.tmp 79)) ((.bool false)) h3 ?_
      refine tq 38 81 (.pick (.tmp 68) (.tmp 80) (.const (.bool false))) ((.bool false)) h3 ?_
      (try simp only[pq])
      refine wpAnyH_done (by kernel_rfl) ?_ _
      refine NoPanic.normal ?_
      go_wp2_with fail
      go_meet
      case rel=>exact ⟨rfl,h3⟩
     ·have h00:=h0
      clear h00
      refine wp_region_noPanic ?_
      refine wp_region_held_drew (S:=fun V=>wr.grownBy V none) (by kernel_rfl) h0 (fun _ => ?_)
      refine tq 0 43 (.move (.tmp 5)) ((.pointer (some ⟨sb,0,none⟩))) h0 ?_
      refine tq 1 44 (.move (.tmp 8)) ((.slice (some ⟨xb,xo,none⟩) xn xc)) h0 ?_
      refine tq 2 45 (.move (.tmp 9)) ((.int .i64 ((j:Int)))) h0 ?_
      refine tq 3 46 (.indexAddr 29 (.tmp 44) (.tmp 45)) ((.pointer (some ⟨xb,xo+j*32,none⟩))) h0 ?_
      (try simp only[pq])
      refine tz 4 47 (.load 33 (.tmp 46)) (.agg AB.toArray) h0 ?_ (y:=(yieldsIf_load_mid (by rfl) _ _ rfl _ _ rfl AB _ (fun V hV=>zab (uh HRA) hV (by simp)) Tryz.underlying33 rfl (uh HAB).info))
      refine tq 5 48 (.move (.tmp 8)) ((.slice (some ⟨xb,xo,none⟩) xn xc)) h0 ?_
      refine tq 6 49 (.move (.tmp 9)) ((.int .i64 ((j:Int)))) h0 ?_
      refine tq 7 50 (.binOp .add 3 (.tmp 49) (.const (.int .i64 1)) 3) ((.int .i64 ((j1:Int)))) h0 ?_
      (try simp only[pq])
      refine tq 8 51 (.indexAddr 29 (.tmp 48) (.tmp 50)) ((.pointer (some ⟨xb,xo+j1*32,none⟩))) h0 ?_
      refine tz 9 52 (.load 33 (.tmp 51)) (.agg BB.toArray) h0 ?_ (y:=(yieldsIf_load_mid (by rfl) _ _ rfl _ _ rfl BB _ (fun V hV=>zab (uh HRB) hV (by simp)) Tryz.underlying33 rfl (uh HBB).info))
      (try simp only[pq])
      refine rd 10 (some 53) (.call { callee := .value (.func 26),args := #[(.tmp 43),(.tmp 47),(.tmp 52)],argTypes := #[24,33,33] }) (fun K9 hK9 => ?_)
      go_simp
      go_at_call 26
      refine (uh HFab _ h0).mono ?_
      rintro e q1 ⟨y1,rfl,hy1,g1⟩
      obtain rfl:y1=true:=hy1.2 p1
      have h1:=tn h0 g1
      clear hy1 g1
      go_wp2_with fail
      refine hK9.out _ _ h1 (fun _ => ?_)
      clear hK9 K9
      refine tq 11 54 (.move (.tmp 53)) ((.bool true)) h1 ?_
      refine tq 12 55 (.move (.tmp 5)) ((.pointer (some ⟨sb,0,none⟩))) h1 ?_
      refine tq 13 56 (.move (.tmp 8)) ((.slice (some ⟨xb,xo,none⟩) xn xc)) h1 ?_
      (try simp only[pq])
      refine tq 14 57 (.move (.tmp 9)) ((.int .i64 ((j:Int)))) h1 ?_
      refine tq 15 58 (.binOp .add 3 (.tmp 57) (.const (.int .i64 1)) 3) ((.int .i64 ((j1:Int)))) h1 ?_
      refine tq 16 59 (.indexAddr 29 (.tmp 56) (.tmp 58)) ((.pointer (some ⟨xb,xo+j1*32,none⟩))) h1 ?_
      refine tz 17 60 (.load 33 (.tmp 59)) (.agg BB.toArray) h1 ?_ (y:=(yieldsIf_load_mid (by rfl) _ _ rfl _ _ rfl BB _ (fun V hV=>zab (uh HRB) hV (by simp)) Tryz.underlying33 rfl (uh HBB).info))
      (try simp only[pq])
      refine tq 18 61 (.move (.tmp 8)) ((.slice (some ⟨xb,xo,none⟩) xn xc)) h1 ?_
      refine tq 19 62 (.move (.tmp 9)) ((.int .i64 ((j:Int)))) h1 ?_
      refine tq 20 63 (.binOp .add 3 (.tmp 62) (.const (.int .i64 2)) 3) ((.int .i64 ((j2:Int)))) h1 ?_
      refine tq 21 64 (.indexAddr 29 (.tmp 61) (.tmp 63)) ((.pointer (some ⟨xb,xo+j2*32,none⟩))) h1 ?_
      (try simp only[pq])
      refine tz 22 65 (.load 33 (.tmp 64)) (.agg CB.toArray) h1 ?_ (y:=(yieldsIf_load_mid (by rfl) _ _ rfl _ _ rfl CB _ (fun V hV=>zab (uh HRC) hV (by simp)) Tryz.underlying33 rfl (uh HCB).info))
      (try simp only[pq])
      refine rd 23 (some 66) (.call { callee := .value (.func 26),args := #[(.tmp 55),(.tmp 60),(.tmp 65)],argTypes := #[24,33,33] }) (fun K9 hK9 => ?_)
      go_simp
      go_at_call 26
      refine (uh HFbc _ h1).mono ?_
      rintro e q2 ⟨y2,rfl,hy2,g2⟩
      obtain rfl:y2=false:=by cases y2 with | false=>rfl | true=>exact absurd (hy2.1 rfl) p2
      have h2:=tn h1 g2
      clear hy2 g2
      go_wp2_with fail
      refine hK9.out _ _ h2 (fun _ => ?_)
      clear hK9 K9
      refine tq 24 67 (.pick (.tmp 54) (.tmp 66) (.const (.bool false))) ((.bool false)) h2 ?_
      refine tq 25 68 (.move (.tmp 67)) ((.bool false)) h2 ?_
      refine tz 26 69 (.move (.tmp 5)) undef h2 ?_ (y:=(Or.inr ⟨by rfl,rfl⟩))
      (try simp only[pq])
      refine tz 27 70 (.move (.tmp 8)) undef h2 ?_ (y:=(Or.inr ⟨by rfl,rfl⟩))
      refine tz 28 71 (.move (.tmp 9)) undef h2 ?_ (y:=(Or.inr ⟨by rfl,rfl⟩))
      refine tz 29 72 (.indexAddr 29 (.tmp 70) (.tmp 71)) undef h2 ?_ (y:=(Or.inr ⟨by rfl,rfl⟩))
      refine tz 30 73 (.load 33 (.tmp 72)) undef h2 ?_ (y:=(Or.inr ⟨by rfl,rfl⟩))
      (try simp only[pq])
      refine tz 31 74 (.move (.tmp 8)) undef h2 ?_ (y:=(Or.inr ⟨by rfl,rfl⟩))
      refine tz 32 75 (.move (.tmp 9)) undef h2 ?_ (y:=(Or.inr ⟨by rfl,rfl⟩))
      refine tz 33 76 (.binOp .add 3 (.tmp 75) (.const (.int .i64 2)) 3) undef h2 ?_ (y:=(Or.inr ⟨by rfl,rfl⟩))
      refine tz 34 77 (.indexAddr 29 (.tmp 74) (.tmp 76)) undef h2 ?_ (y:=(Or.inr ⟨by rfl,rfl⟩))
      (try simp only[pq])
      refine tz 35 78 (.load 33 (.tmp 77)) undef h2 ?_ (y:=(Or.inr ⟨by rfl,rfl⟩))
      refine tz 36 79 (.call { callee := .value (.func 26),args := #[(.tmp 69),(.tmp 73),(.tmp 78)],argTypes := #[24,33,33] }) undef h2 ?_ (y:=(Or.inr ⟨by rfl,rfl⟩))
      refine tz 37 80 (.unOp .not 4 (.tmp 79)) undef h2 ?_ (y:=(Or.inr ⟨by rfl,rfl⟩))
      refine tq 38 81 (.pick (.tmp 68) (.tmp 80) (.const (.bool false))) ((.bool false)) h2 ?_
      (try simp only[pq])
      refine wpAnyH_done (by kernel_rfl) ?_ _
      refine NoPanic.normal ?_
      go_wp2_with fail
      go_meet
      case rel=>exact ⟨rfl,h2⟩
    ·have h00:=h0
     clear h00
     refine wp_region_noPanic ?_
     refine wp_region_held_drew (S:=fun V=>wr.grownBy V none) (by kernel_rfl) h0 (fun _ => ?_)
     refine tq 0 43 (.move (.tmp 5)) ((.pointer (some ⟨sb,0,none⟩))) h0 ?_
     refine tq 1 44 (.move (.tmp 8)) ((.slice (some ⟨xb,xo,none⟩) xn xc)) h0 ?_
     refine tq 2 45 (.move (.tmp 9)) ((.int .i64 ((j:Int)))) h0 ?_
     refine tq 3 46 (.indexAddr 29 (.tmp 44) (.tmp 45)) ((.pointer (some ⟨xb,xo+j*32,none⟩))) h0 ?_
     (try simp only[pq])
     refine tz 4 47 (.load 33 (.tmp 46)) (.agg AB.toArray) h0 ?_ (y:=(yieldsIf_load_mid (by rfl) _ _ rfl _ _ rfl AB _ (fun V hV=>zab (uh HRA) hV (by simp)) Tryz.underlying33 rfl (uh HAB).info))
     refine tq 5 48 (.move (.tmp 8)) ((.slice (some ⟨xb,xo,none⟩) xn xc)) h0 ?_
     refine tq 6 49 (.move (.tmp 9)) ((.int .i64 ((j:Int)))) h0 ?_
     refine tq 7 50 (.binOp .add 3 (.tmp 49) (.const (.int .i64 1)) 3) ((.int .i64 ((j1:Int)))) h0 ?_
     (try simp only[pq])
     refine tq 8 51 (.indexAddr 29 (.tmp 48) (.tmp 50)) ((.pointer (some ⟨xb,xo+j1*32,none⟩))) h0 ?_
     refine tz 9 52 (.load 33 (.tmp 51)) (.agg BB.toArray) h0 ?_ (y:=(yieldsIf_load_mid (by rfl) _ _ rfl _ _ rfl BB _ (fun V hV=>zab (uh HRB) hV (by simp)) Tryz.underlying33 rfl (uh HBB).info))
     (try simp only[pq])
     refine rd 10 (some 53) (.call { callee := .value (.func 26),args := #[(.tmp 43),(.tmp 47),(.tmp 52)],argTypes := #[24,33,33] }) (fun K9 hK9 => ?_)
     go_simp
     go_at_call 26
     refine (uh HFab _ h0).mono ?_
     rintro e q1 ⟨y1,rfl,hy1,g1⟩
     obtain rfl:y1=false:=by cases y1 with | false=>rfl | true=>exact absurd (hy1.1 rfl) p1
     have h1:=tn h0 g1
     clear hy1 g1
     go_wp2_with fail
     refine hK9.out _ _ h1 (fun _ => ?_)
     clear hK9 K9
     refine tq 11 54 (.move (.tmp 53)) ((.bool false)) h1 ?_
     refine tz 12 55 (.move (.tmp 5)) undef h1 ?_ (y:=(Or.inr ⟨by rfl,rfl⟩))
     refine tz 13 56 (.move (.tmp 8)) undef h1 ?_ (y:=(Or.inr ⟨by rfl,rfl⟩))
     (try simp only[pq])
     refine tz 14 57 (.move (.tmp 9)) undef h1 ?_ (y:=(Or.inr ⟨by rfl,rfl⟩))
     refine tz 15 58 (.binOp .add 3 (.tmp 57) (.const (.int .i64 1)) 3) undef h1 ?_ (y:=(Or.inr ⟨by rfl,rfl⟩))
     refine tz 16 59 (.indexAddr 29 (.tmp 56) (.tmp 58)) undef h1 ?_ (y:=(Or.inr ⟨by rfl,rfl⟩))
     refine tz 17 60 (.load 33 (.tmp 59)) undef h1 ?_ (y:=(Or.inr ⟨by rfl,rfl⟩))
     (try simp only[pq])
     refine tz 18 61 (.move (.tmp 8)) undef h1 ?_ (y:=(Or.inr ⟨by rfl,rfl⟩))
     refine tz 19 62 (.move (.tmp 9)) undef h1 ?_ (y:=(Or.inr ⟨by rfl,rfl⟩))
     refine tz 20 63 (.binOp .add 3 (.tmp 62) (.const (.int .i64 2)) 3) undef h1 ?_ (y:=(Or.inr ⟨by rfl,rfl⟩))
     refine tz 21 64 (.indexAddr 29 (.tmp 61) (.tmp 63)) undef h1 ?_ (y:=(Or.inr ⟨by rfl,rfl⟩))
     (try simp only[pq])
     refine tz 22 65 (.load 33 (.tmp 64)) undef h1 ?_ (y:=(Or.inr ⟨by rfl,rfl⟩))
     refine tz 23 66 (.call { callee := .value (.func 26),args := #[(.tmp 55),(.tmp 60),(.tmp 65)],argTypes := #[24,33,33] }) undef h1 ?_ (y:=(Or.inr ⟨by rfl,rfl⟩))
     refine tq 24 67 (.pick (.tmp 54) (.tmp 66) (.const (.bool false))) ((.bool false)) h1 ?_
     refine tq 25 68 (.move (.tmp 67)) ((.bool false)) h1 ?_
     (try simp only[pq])
     refine tz 26 69 (.move (.tmp 5)) undef h1 ?_ (y:=(Or.inr ⟨by rfl,rfl⟩))
     refine tz 27 70 (.move (.tmp 8)) undef h1 ?_ (y:=(Or.inr ⟨by rfl,rfl⟩))
     refine tz 28 71 (.move (.tmp 9)) undef h1 ?_ (y:=(Or.inr ⟨by rfl,rfl⟩))
     refine tz 29 72 (.indexAddr 29 (.tmp 70) (.tmp 71)) undef h1 ?_ (y:=(Or.inr ⟨by rfl,rfl⟩))
     (try simp only[pq])
     refine tz 30 73 (.load 33 (.tmp 72)) undef h1 ?_ (y:=(Or.inr ⟨by rfl,rfl⟩))
     refine tz 31 74 (.move (.tmp 8)) undef h1 ?_ (y:=(Or.inr ⟨by rfl,rfl⟩))
     refine tz 32 75 (.move (.tmp 9)) undef h1 ?_ (y:=(Or.inr ⟨by rfl,rfl⟩))
     refine tz 33 76 (.binOp .add 3 (.tmp 75) (.const (.int .i64 2)) 3) undef h1 ?_ (y:=(Or.inr ⟨by rfl,rfl⟩))
     (try simp only[pq])
     refine tz 34 77 (.indexAddr 29 (.tmp 74) (.tmp 76)) undef h1 ?_ (y:=(Or.inr ⟨by rfl,rfl⟩))
     refine tz 35 78 (.load 33 (.tmp 77)) undef h1 ?_ (y:=(Or.inr ⟨by rfl,rfl⟩))
     refine tz 36 79 (.call { callee := .value (.func 26),args := #[(.tmp 69),(.tmp 73),(.tmp 78)],argTypes := #[24,33,33] }) undef h1 ?_ (y:=(Or.inr ⟨by rfl,rfl⟩))
     refine tz 37 80 (.unOp .not 4 (.tmp 79)) undef h1 ?_ (y:=(Or.inr ⟨by rfl,rfl⟩))
     (try simp only[pq])
     refine tq 38 81 (.pick (.tmp 68) (.tmp 80) (.const (.bool false))) ((.bool false)) h1 ?_
     (try simp only[pq])
     refine wpAnyH_done (by kernel_rfl) ?_ _
     refine NoPanic.normal ?_
     go_wp2_with fail
     go_meet
     case rel=>exact ⟨rfl,h1⟩
   case rest =>
    obtain ⟨rfl,hgx⟩:=hcut
    have hkc:=(uh HK).none hgx
    have HRAc:=hide (zab (uh HRA) hgx (by simp))
    obtain ⟨W5,hW5,hB5,g5⟩:=zaf wc 33 AB
    have hbs1:=zew a lA wc
    rw[← (uh HAB).e,← hW5] at hbs1
    have hIds:=zv9 (V:=W5) (p:=wc.heap.size) lA (by rw[← (uh HAB).e];exact hB5)
    have cr:Calls Tryz.prog 22 #[.pointer (some ⟨sb,0,none⟩),.slice (some ⟨wc.heap.size,0,none⟩) 1 1] W5 fun e w'=>∃ v1 v2 T M,e = .returned (.tuple #[v1,v2])∧Ris T∧Ris M∧(∀ x,x∈T↔Rch (nxS S) [a] x∧hasS S x=true)∧(∀ x,x∈M↔Rch (nxS S) [a] x∧hasS S x=false)∧Two w' W5.heap.size v1 v2 T M∧W5.grownBy w' none :=
     zlw W5 (some ⟨sb,0,none⟩) S (hkc.none g5).s.sat (some ⟨wc.heap.size,0,none⟩) 1 [a] hIds (fun ad e=>by cases e;exact hB5.lt) (by simp)
    have HBS:=hide hbs1
    have HK5:=hide (hkc.none g5)
    have HG5:=hide (tn hgx g5)
    clear hkc hgx hW5 hB5 g5 hbs1 hIds h0
    go_wp2_with (first
     | (refine wpList_load_mid rfl 33 _ rfl xb (xo+j*32) rfl AB _ (uh HRAc) Tryz.underlying33 rfl (uh HAB).info ?_)
     | (refine zaq rfl 29 _ rfl (.agg AB.toArray) _ rfl (uh HBS) ?_))
    refine cr.mono ?_
    rintro e w6 ⟨vt,vm,T,M,rfl,hTr,hMr,hTm,hMm,hTM,g6⟩
    clear cr
    have hXw:∀ x∈[a],x.length=32:=fun x hx=>by rw[List.mem_singleton.1 hx];exact lA
    have hN5:Nam w6 w.heap.size vt T:=⟨za5 hTM.one (uh HK5).g.size,fun x hx=>zom hXw ((hTm x).1 hx).1⟩
    have hN6:Nam w6 w.heap.size vm M:=⟨za5 hTM.two (uh HK5).g.size,fun x hx=>zom hXw ((hMm x).1 hx).1⟩
    obtain ⟨ta,tc9,rfl,-,-⟩:=hN5.open
    obtain ⟨ma,mc9,rfl,-,-⟩:=hN6.open
    have hk6:=(((uh HK5).none g6).add hN5).add hN6
    have hal:=zm8 (fun e=>zbh e.k e.d) (fun e=>ziy _ _) S (uh HSS) [a] (by simp)
    have hT9:T.length≤90000:=Nat.le_trans (zbk hTr.nodup (fun x hx=>zne ((hTm x).1 hx).1)) hal
    have hM9:M.length≤90000:=Nat.le_trans (zbk hMr.nodup (fun x hx=>zne ((hMm x).1 hx).1)) hal
    obtain ⟨tn9,htn⟩:∃ t,t=T.length:=⟨_,rfl⟩
    obtain ⟨mn9,hmn⟩:∃ t,t=M.length:=⟨_,rfl⟩
    rw[← htn] at hk6 hT9 ⊢
    rw[← hmn] at hk6 hM9 ⊢
    have hin:Rch (prS S) [a] b→b∈T∨b∈M:=fun p=>by
     have p4:=zs6 (uh HSS) p
     cases hh:hasS S b with
     | true=>exact Or.inl ((hTm b).2 ⟨p4,hh⟩)
     | false=>exact Or.inr ((hMm b).2 ⟨p4,hh⟩)
    obtain ⟨HIN,HTN,HMN,HK6⟩:=zh4 hin htn hmn hk6
    have G6:=tn (uh HG5) g6
    have HRA6:=hide (zab (uh HRA) G6 (by simp))
    have HRB6:=hide (zab (uh HRB) G6 (by simp))
    have HFab6:=hide (zfb hk6 (uh HAB) (uh HBB) lA lB)
    have h0:w6.grownBy w6.drew none:=zaj (zaa _ _)
    clear hTr hMr hTm hMm hTM g6 hXw hN5 hN6 hal hk6 htn hmn hin G6 HFab HFbc HFac HK5 HG5 HBS HRAc HRA HRB HRC HCB
    have hjw:IntKind.i64.wrap ((j:Int)+1)=(j:Int)+1:=by rw[IntKind.wrap_i64];omega
    have HJW:=hide hjw
    clear hjw
    go_upto_region 11 with fail
    by_cases p1:Rch (prS S) [a] b
    ·have p9:=uh HIN p1
     have HP9:=hide p9
     clear p9
     refine wp_region_noPanic ?_
     refine wp_region_held_drew (S:=fun V=>w6.grownBy V none) (by kernel_rfl) h0 (fun _ => ?_)
     refine tq 0 92 (.move (.tmp 5)) ((.pointer (some ⟨sb,0,none⟩))) h0 ?_
     refine tq 1 93 (.move (.tmp 8)) ((.slice (some ⟨xb,xo,none⟩) xn xc)) h0 ?_
     refine tq 2 94 (.move (.tmp 9)) ((.int .i64 ((j:Int)))) h0 ?_
     refine tq 3 95 (.indexAddr 29 (.tmp 93) (.tmp 94)) ((.pointer (some ⟨xb,xo+j*32,none⟩))) h0 ?_
     (try simp only[pq])
     refine tz 4 96 (.load 33 (.tmp 95)) (.agg AB.toArray) h0 ?_ (y:=(yieldsIf_load_mid (by rfl) _ _ rfl _ _ rfl AB _ (fun V hV=>zab (uh HRA6) hV (by simp)) Tryz.underlying33 rfl (uh HAB).info))
     refine tq 5 97 (.move (.tmp 8)) ((.slice (some ⟨xb,xo,none⟩) xn xc)) h0 ?_
     refine tq 6 98 (.move (.tmp 9)) ((.int .i64 ((j:Int)))) h0 ?_
     refine tq 7 99 (.binOp .add 3 (.tmp 98) (.const (.int .i64 1)) 3) ((.int .i64 ((j1:Int)))) h0 ?_
     (try simp only[pq])
     refine tq 8 100 (.indexAddr 29 (.tmp 97) (.tmp 99)) ((.pointer (some ⟨xb,xo+j1*32,none⟩))) h0 ?_
     refine tz 9 101 (.load 33 (.tmp 100)) (.agg BB.toArray) h0 ?_ (y:=(yieldsIf_load_mid (by rfl) _ _ rfl _ _ rfl BB _ (fun V hV=>zab (uh HRB6) hV (by simp)) Tryz.underlying33 rfl (uh HBB).info))
     (try simp only[pq])
     refine rd 10 (some 102) (.call { callee := .value (.func 26),args := #[(.tmp 92),(.tmp 96),(.tmp 101)],argTypes := #[24,33,33] }) (fun K9 hK9 => ?_)
     go_simp
     go_at_call 26
     refine (uh HFab6 _ h0).mono ?_
     rintro e q1 ⟨y1,rfl,hy1,g1⟩
     obtain rfl:y1=true:=hy1.2 p1
     have h1:=tn h0 g1
     clear hy1 g1
     go_wp2_with fail
     refine hK9.out _ _ h1 (fun _ => ?_)
     clear hK9 K9
     refine tq 11 103 (.unOp .not 4 (.tmp 102)) ((.bool false)) h1 ?_
     (try simp only[pq])
     refine wpAnyH_done (by kernel_rfl) ?_ _
     refine NoPanic.normal ?_
     have HK7:=hide ((uh HK6).none h1)
     have HRB7:=hide (zab (uh HRB6) h1 (by simp))
     clear h1 h0 HK6 HRA6 HRB6 HFab6 p1 HIN hw2 hl2 hl0
     go_wp2_with fail
     go_loopw [12,13] (fun inn kk wr=>∃ (y:Bool) (k:Nat),inn = .bool y∧kk = .int .i64 k∧k≤tn9∧(y=true↔False∨b∈T.take k)∧Gk w wr sb mb w1.heap.size (.slice a1 n1 c1) (.slice a2 n2 c2) S [(.slice ma mn9 mc9,M),(.slice ta tn9 tc9,T),(.slice (some ⟨xb,xo,none⟩) xn xc,X),(.slice ia IL.length ic,IL)]∧wr.rangeAt xb (xo+j1*32) BB) (fun _ kk _=>tn9 - (intOf kk).toNat)
     case atStart=>exact ⟨false,0,rfl,rfl,Nat.zero_le _,by simp,uh HK7,uh HRB7⟩
     case round =>
      clear HK7 HRB7
      obtain ⟨y,k,rfl,rfl,hk9,hy,hkk,hrb⟩:=hrel
      obtain ⟨HKk,HRBk⟩:=zh2 hkk hrb
      clear hkk hrb
      by_cases hlk:k<tn9
      ·have hkT:k<T.length:=by rw[← uh HTN];exact hlk
       obtain ⟨tb,tof,hta,hrE⟩:=((uh HKk).rows (.slice ta tn9 tc9,T) (by simp)).at k hkT
       have lE:=((uh HKk).rows (.slice ta tn9 tc9,T) (by simp)).wid _ (List.getElem_mem hkT)
       subst hta
       have hmt:(b∈T.take (k+1))↔b∈T.take k∨T[k]=b:=zl1 hkT
       obtain ⟨E,hE⟩:∃ E,E=T[k]:=⟨_,rfl⟩
       rw[← hE] at hrE lE hmt
       obtain ⟨EB,hEB⟩:=kyb E lE
       rw[← hEB.e] at hrE
       have heq:=ztm hEB (uh HBB) lE lB
       obtain ⟨HRE,HEB,HMT⟩:=zh3 hrE hEB hmt
       have hki:(k:Int)<(tn9:Int):=by omega
       have hkw:IntKind.i64.wrap ((k:Int)+1)=(k:Int)+1:=by rw[IntKind.wrap_i64];omega
       have h0:wr.grownBy wr.drew none:=zaj (zaa _ _)
       clear hkT hrE hE hEB hmt
       go_upto_region 16 with fail
       cases y with
       | true =>
        have hy2:False∨b∈T.take (k+1):=by
         rcases hy.1 rfl with hh | hh
         ·exact Or.inl hh
         ·exact Or.inr ((uh HMT).2 (Or.inl hh))
        have HY2:=hide hy2
        clear hy hy2 heq
        refine wp_region_noPanic ?_
        refine wp_region_held_drew (S:=fun V=>wr.grownBy V none) (by kernel_rfl) h0 (fun _ => ?_)
        refine tq 0 110 (.move (.tmp 12)) ((.bool true)) h0 ?_
        refine tq 1 111 (.move (.tmp 110)) ((.bool true)) h0 ?_
        refine tz 2 112 (.move (.tmp 10)) undef h0 ?_ (y:=(Or.inr ⟨by rfl,rfl⟩))
        refine tz 3 113 (.move (.tmp 13)) undef h0 ?_ (y:=(Or.inr ⟨by rfl,rfl⟩))
        (try simp only[pq])
        refine tz 4 114 (.indexAddr 29 (.tmp 112) (.tmp 113)) undef h0 ?_ (y:=(Or.inr ⟨by rfl,rfl⟩))
        refine tz 5 115 (.load 33 (.tmp 114)) undef h0 ?_ (y:=(Or.inr ⟨by rfl,rfl⟩))
        refine tz 6 116 (.move (.tmp 8)) undef h0 ?_ (y:=(Or.inr ⟨by rfl,rfl⟩))
        refine tz 7 117 (.move (.tmp 9)) undef h0 ?_ (y:=(Or.inr ⟨by rfl,rfl⟩))
        (try simp only[pq])
        refine tz 8 118 (.binOp .add 3 (.tmp 117) (.const (.int .i64 1)) 3) undef h0 ?_ (y:=(Or.inr ⟨by rfl,rfl⟩))
        refine tz 9 119 (.indexAddr 29 (.tmp 116) (.tmp 118)) undef h0 ?_ (y:=(Or.inr ⟨by rfl,rfl⟩))
        refine tz 10 120 (.load 33 (.tmp 119)) undef h0 ?_ (y:=(Or.inr ⟨by rfl,rfl⟩))
        refine tz 11 121 (.binOp .eql 33 (.tmp 115) (.tmp 120) 33) undef h0 ?_ (y:=(Or.inr ⟨by rfl,rfl⟩))
        (try simp only[pq])
        refine tq 12 122 (.pick (.tmp 111) (.const (.bool true)) (.tmp 121)) ((.bool true)) h0 ?_
        refine tq 13 12 (.assign (.tmp 122)) ((.bool true)) h0 ?_
        (try simp only[pq])
        refine wpAnyH_done (by kernel_rfl) ?_ _
        refine NoPanic.normal ?_
        go_wp2
        go_roundw
        case rel=>exact ⟨true,k+1,rfl,by go_num,by omega,⟨fun _=>uh HY2,fun _=>rfl⟩,(uh HKk).none h0,zab (uh HRBk) h0 (by simp)⟩
        case measure=>simp[intOf];omega
       | false =>
        have hn:¬ (False∨b∈T.take k):=fun hh=>by have:=hy.2 hh;cases this
        by_cases hEb:E=b
        ·have HEQ:Hid (∀ W,(binOp .eql 33 (.agg EB.toArray) (.agg BB.toArray)).run Tryz.prog W = .ok (.bool true) W):=fun W=>by
          have:=heq W
          rw[hEb,beq_self_eq_true] at this
          exact this
         have hy2:False∨b∈T.take (k+1):=Or.inr ((uh HMT).2 (Or.inr hEb))
         have HY2:=hide hy2
         clear hy hy2 heq hn hEb
         refine wp_region_noPanic ?_
         refine wp_region_held_drew (S:=fun V=>wr.grownBy V none) (by kernel_rfl) h0 (fun _ => ?_)
         refine tq 0 110 (.move (.tmp 12)) ((.bool false)) h0 ?_
         refine tq 1 111 (.move (.tmp 110)) ((.bool false)) h0 ?_
         refine tq 2 112 (.move (.tmp 10)) ((.slice (some ⟨tb,tof,none⟩) tn9 tc9)) h0 ?_
         refine tq 3 113 (.move (.tmp 13)) ((.int .i64 ((k:Int)))) h0 ?_
         (try simp only[pq])
         refine tq 4 114 (.indexAddr 29 (.tmp 112) (.tmp 113)) ((.pointer (some ⟨tb,tof+k*32,none⟩))) h0 ?_
         refine tz 5 115 (.load 33 (.tmp 114)) (.agg EB.toArray) h0 ?_ (y:=(yieldsIf_load_mid (by rfl) _ _ rfl _ _ rfl EB _ (fun V hV=>zab (uh HRE) hV (by simp)) Tryz.underlying33 rfl (uh HEB).info))
         refine tq 6 116 (.move (.tmp 8)) ((.slice (some ⟨xb,xo,none⟩) xn xc)) h0 ?_
         refine tq 7 117 (.move (.tmp 9)) ((.int .i64 ((j:Int)))) h0 ?_
         (try simp only[pq])
         refine tq 8 118 (.binOp .add 3 (.tmp 117) (.const (.int .i64 1)) 3) ((.int .i64 ((j1:Int)))) h0 ?_
         refine tq 9 119 (.indexAddr 29 (.tmp 116) (.tmp 118)) ((.pointer (some ⟨xb,xo+j1*32,none⟩))) h0 ?_
         refine tz 10 120 (.load 33 (.tmp 119)) (.agg BB.toArray) h0 ?_ (y:=(yieldsIf_load_mid (by rfl) _ _ rfl _ _ rfl BB _ (fun V hV=>zab (uh HRBk) hV (by simp)) Tryz.underlying33 rfl (uh HBB).info))
         refine tz 11 121 (.binOp .eql 33 (.tmp 115) (.tmp 120) 33) (.bool true) h0 ?_ (y:=(zbl (by rfl) _ _ _ _ rfl _ _ _ rfl rfl zck (uh HEQ)))
         (try simp only[pq])
         refine tq 12 122 (.pick (.tmp 111) (.const (.bool true)) (.tmp 121)) ((.bool true)) h0 ?_
         refine tq 13 12 (.assign (.tmp 122)) ((.bool true)) h0 ?_
         (try simp only[pq])
         refine wpAnyH_done (by kernel_rfl) ?_ _
         refine NoPanic.normal ?_
         go_wp2
         go_roundw
         case rel=>exact ⟨true,k+1,rfl,by go_num,by omega,⟨fun _=>uh HY2,fun _=>rfl⟩,(uh HKk).none h0,zab (uh HRBk) h0 (by simp)⟩
         case measure=>simp[intOf];omega
        ·have HEQ:Hid (∀ W,(binOp .eql 33 (.agg EB.toArray) (.agg BB.toArray)).run Tryz.prog W = .ok (.bool false) W):=fun W=>by
          have:=heq W
          rw[show (E == b)=false from by simpa using hEb] at this
          exact this
         have hy2:¬ (False∨b∈T.take (k+1)):=fun hh=>by
          rcases hh with hh | hh
          ·exact hn (Or.inl hh)
          ·rcases (uh HMT).1 hh with hh | hh
           ·exact hn (Or.inr hh)
           ·exact hEb hh
         have HY2:=hide hy2
         clear hy hy2 heq hn hEb
         refine wp_region_noPanic ?_
         refine wp_region_held_drew (S:=fun V=>wr.grownBy V none) (by kernel_rfl) h0 (fun _ => ?_)
         refine tq 0 110 (.move (.tmp 12)) ((.bool false)) h0 ?_
         refine tq 1 111 (.move (.tmp 110)) ((.bool false)) h0 ?_
         refine tq 2 112 (.move (.tmp 10)) ((.slice (some ⟨tb,tof,none⟩) tn9 tc9)) h0 ?_
         refine tq 3 113 (.move (.tmp 13)) ((.int .i64 ((k:Int)))) h0 ?_
         (try simp only[pq])
         refine tq 4 114 (.indexAddr 29 (.tmp 112) (.tmp 113)) ((.pointer (some ⟨tb,tof+k*32,none⟩))) h0 ?_
         refine tz 5 115 (.load 33 (.tmp 114)) (.agg EB.toArray) h0 ?_ (y:=(yieldsIf_load_mid (by rfl) _ _ rfl _ _ rfl EB _ (fun V hV=>zab (uh HRE) hV (by simp)) Tryz.underlying33 rfl (uh HEB).info))
         refine tq 6 116 (.move (.tmp 8)) ((.slice (some ⟨xb,xo,none⟩) xn xc)) h0 ?_
         refine tq 7 117 (.move (.tmp 9)) ((.int .i64 ((j:Int)))) h0 ?_
         (try simp only[pq])
         refine tq 8 118 (.binOp .add 3 (.tmp 117) (.const (.int .i64 1)) 3) ((.int .i64 ((j1:Int)))) h0 ?_
         refine tq 9 119 (.indexAddr 29 (.tmp 116) (.tmp 118)) ((.pointer (some ⟨xb,xo+j1*32,none⟩))) h0 ?_
         refine tz 10 120 (.load 33 (.tmp 119)) (.agg BB.toArray) h0 ?_ (y:=(yieldsIf_load_mid (by rfl) _ _ rfl _ _ rfl BB _ (fun V hV=>zab (uh HRBk) hV (by simp)) Tryz.underlying33 rfl (uh HBB).info))
         refine tz 11 121 (.binOp .eql 33 (.tmp 115) (.tmp 120) 33) (.bool false) h0 ?_ (y:=(zbl (by rfl) _ _ _ _ rfl _ _ _ rfl rfl zck (uh HEQ)))
         (try simp only[pq])
         refine tq 12 122 (.pick (.tmp 111) (.const (.bool true)) (.tmp 121)) ((.bool false)) h0 ?_
         refine tq 13 12 (.assign (.tmp 122)) ((.bool false)) h0 ?_
         (try simp only[pq])
         refine wpAnyH_done (by kernel_rfl) ?_ _
         refine NoPanic.normal ?_
         go_wp2
         go_roundw
         case rel=>exact ⟨false,k+1,rfl,by go_num,by omega,⟨fun h=>(by cases h),fun h=>absurd h (uh HY2)⟩,(uh HKk).none h0,zab (uh HRBk) h0 (by simp)⟩
         case measure=>simp[intOf];omega
      ·have hki:¬ (k:Int)<(tn9:Int):=by omega
       have hkn:k=T.length:=by rw[← uh HTN];omega
       have hyT:y=true↔False∨b∈T:=by rw[hkn,List.take_length] at hy;exact hy
       have HYT:=hide hyT
       have HK7:=hide (uh HKk)
       have HRB7:=hide (uh HRBk)
       clear hy hyT hkn HKk HRBk
       have hyT2:y=true↔b∈T:=by have:=uh HYT;simpa using this
       clear HYT
       have HYT:=hide hyT2
       clear hyT2
       go_wp2_with fail
       go_loopw [12,14] (fun inn kk wr=>∃ (y:Bool) (k:Nat),inn = .bool y∧kk = .int .i64 k∧k≤mn9∧(y=true↔b∈T∨b∈M.take k)∧Gk w wr sb mb w1.heap.size (.slice a1 n1 c1) (.slice a2 n2 c2) S [(.slice ma mn9 mc9,M),(.slice ta tn9 tc9,T),(.slice (some ⟨xb,xo,none⟩) xn xc,X),(.slice ia IL.length ic,IL)]∧wr.rangeAt xb (xo+j1*32) BB) (fun _ kk _=>mn9 - (intOf kk).toNat)
       case atStart=>exact ⟨y,0,rfl,rfl,Nat.zero_le _,by simpa using uh HYT,uh HK7,uh HRB7⟩
       case round =>
        clear HK7 HRB7
        obtain ⟨y,k,rfl,rfl,hk9,hy,hkk,hrb⟩:=hrel
        obtain ⟨HKk,HRBk⟩:=zh2 hkk hrb
        clear hkk hrb
        by_cases hlk:k<mn9
        ·have hkT:k<M.length:=by rw[← uh HMN];exact hlk
         obtain ⟨tb,tof,hta,hrE⟩:=((uh HKk).rows (.slice ma mn9 mc9,M) (by simp)).at k hkT
         have lE:=((uh HKk).rows (.slice ma mn9 mc9,M) (by simp)).wid _ (List.getElem_mem hkT)
         subst hta
         have hmt:(b∈M.take (k+1))↔b∈M.take k∨M[k]=b:=zl1 hkT
         obtain ⟨E,hE⟩:∃ E,E=M[k]:=⟨_,rfl⟩
         rw[← hE] at hrE lE hmt
         obtain ⟨EB,hEB⟩:=kyb E lE
         rw[← hEB.e] at hrE
         have heq:=ztm hEB (uh HBB) lE lB
         obtain ⟨HRE,HEB,HMT⟩:=zh3 hrE hEB hmt
         have hki:(k:Int)<(mn9:Int):=by omega
         have hkw:IntKind.i64.wrap ((k:Int)+1)=(k:Int)+1:=by rw[IntKind.wrap_i64];omega
         have h0:wr.grownBy wr.drew none:=zaj (zaa _ _)
         clear hkT hrE hE hEB hmt
         go_upto_region 20 with fail
         cases y with
         | true =>
          have hy2:b∈T∨b∈M.take (k+1):=by
           rcases hy.1 rfl with hh | hh
           ·exact Or.inl hh
           ·exact Or.inr ((uh HMT).2 (Or.inl hh))
          have HY2:=hide hy2
          clear hy hy2 heq
          refine wp_region_noPanic ?_
          refine wp_region_held_drew (S:=fun V=>wr.grownBy V none) (by kernel_rfl) h0 (fun _ => ?_)
          refine tq 0 129 (.move (.tmp 12)) ((.bool true)) h0 ?_
          refine tq 1 130 (.move (.tmp 129)) ((.bool true)) h0 ?_
          refine tz 2 131 (.move (.tmp 11)) undef h0 ?_ (y:=(Or.inr ⟨by rfl,rfl⟩))
          refine tz 3 132 (.move (.tmp 14)) undef h0 ?_ (y:=(Or.inr ⟨by rfl,rfl⟩))
          (try simp only[pq])
          refine tz 4 133 (.indexAddr 29 (.tmp 131) (.tmp 132)) undef h0 ?_ (y:=(Or.inr ⟨by rfl,rfl⟩))
          refine tz 5 134 (.load 33 (.tmp 133)) undef h0 ?_ (y:=(Or.inr ⟨by rfl,rfl⟩))
          refine tz 6 135 (.move (.tmp 8)) undef h0 ?_ (y:=(Or.inr ⟨by rfl,rfl⟩))
          refine tz 7 136 (.move (.tmp 9)) undef h0 ?_ (y:=(Or.inr ⟨by rfl,rfl⟩))
          (try simp only[pq])
          refine tz 8 137 (.binOp .add 3 (.tmp 136) (.const (.int .i64 1)) 3) undef h0 ?_ (y:=(Or.inr ⟨by rfl,rfl⟩))
          refine tz 9 138 (.indexAddr 29 (.tmp 135) (.tmp 137)) undef h0 ?_ (y:=(Or.inr ⟨by rfl,rfl⟩))
          refine tz 10 139 (.load 33 (.tmp 138)) undef h0 ?_ (y:=(Or.inr ⟨by rfl,rfl⟩))
          refine tz 11 140 (.binOp .eql 33 (.tmp 134) (.tmp 139) 33) undef h0 ?_ (y:=(Or.inr ⟨by rfl,rfl⟩))
          (try simp only[pq])
          refine tq 12 141 (.pick (.tmp 130) (.const (.bool true)) (.tmp 140)) ((.bool true)) h0 ?_
          refine tq 13 12 (.assign (.tmp 141)) ((.bool true)) h0 ?_
          (try simp only[pq])
          refine wpAnyH_done (by kernel_rfl) ?_ _
          refine NoPanic.normal ?_
          go_wp2
          go_roundw
          case rel=>exact ⟨true,k+1,rfl,by go_num,by omega,⟨fun _=>uh HY2,fun _=>rfl⟩,(uh HKk).none h0,zab (uh HRBk) h0 (by simp)⟩
          case measure=>simp[intOf];omega
         | false =>
          have hn:¬ (b∈T∨b∈M.take k):=fun hh=>by have:=hy.2 hh;cases this
          by_cases hEb:E=b
          ·have HEQ:Hid (∀ W,(binOp .eql 33 (.agg EB.toArray) (.agg BB.toArray)).run Tryz.prog W = .ok (.bool true) W):=fun W=>by
            have:=heq W
            rw[hEb,beq_self_eq_true] at this
            exact this
           have hy2:b∈T∨b∈M.take (k+1):=Or.inr ((uh HMT).2 (Or.inr hEb))
           have HY2:=hide hy2
           clear hy hy2 heq hn hEb
           refine wp_region_noPanic ?_
           refine wp_region_held_drew (S:=fun V=>wr.grownBy V none) (by kernel_rfl) h0 (fun _ => ?_)
           refine tq 0 129 (.move (.tmp 12)) ((.bool false)) h0 ?_
           refine tq 1 130 (.move (.tmp 129)) ((.bool false)) h0 ?_
           refine tq 2 131 (.move (.tmp 11)) ((.slice (some ⟨tb,tof,none⟩) mn9 mc9)) h0 ?_
           refine tq 3 132 (.move (.tmp 14)) ((.int .i64 ((k:Int)))) h0 ?_
           (try simp only[pq])
           refine tq 4 133 (.indexAddr 29 (.tmp 131) (.tmp 132)) ((.pointer (some ⟨tb,tof+k*32,none⟩))) h0 ?_
           refine tz 5 134 (.load 33 (.tmp 133)) (.agg EB.toArray) h0 ?_ (y:=(yieldsIf_load_mid (by rfl) _ _ rfl _ _ rfl EB _ (fun V hV=>zab (uh HRE) hV (by simp)) Tryz.underlying33 rfl (uh HEB).info))
           refine tq 6 135 (.move (.tmp 8)) ((.slice (some ⟨xb,xo,none⟩) xn xc)) h0 ?_
           refine tq 7 136 (.move (.tmp 9)) ((.int .i64 ((j:Int)))) h0 ?_
           (try simp only[pq])
           refine tq 8 137 (.binOp .add 3 (.tmp 136) (.const (.int .i64 1)) 3) ((.int .i64 ((j1:Int)))) h0 ?_
           refine tq 9 138 (.indexAddr 29 (.tmp 135) (.tmp 137)) ((.pointer (some ⟨xb,xo+j1*32,none⟩))) h0 ?_
           refine tz 10 139 (.load 33 (.tmp 138)) (.agg BB.toArray) h0 ?_ (y:=(yieldsIf_load_mid (by rfl) _ _ rfl _ _ rfl BB _ (fun V hV=>zab (uh HRBk) hV (by simp)) Tryz.underlying33 rfl (uh HBB).info))
           refine tz 11 140 (.binOp .eql 33 (.tmp 134) (.tmp 139) 33) (.bool true) h0 ?_ (y:=(zbl (by rfl) _ _ _ _ rfl _ _ _ rfl rfl zck (uh HEQ)))
           (try simp only[pq])
           refine tq 12 141 (.pick (.tmp 130) (.const (.bool true)) (.tmp 140)) ((.bool true)) h0 ?_
           refine tq 13 12 (.assign (.tmp 141)) ((.bool true)) h0 ?_
           (try simp only[pq])
           refine wpAnyH_done (by kernel_rfl) ?_ _
           refine NoPanic.normal ?_
           go_wp2
           go_roundw
           case rel=>exact ⟨true,k+1,rfl,by go_num,by omega,⟨fun _=>uh HY2,fun _=>rfl⟩,(uh HKk).none h0,zab (uh HRBk) h0 (by simp)⟩
           case measure=>simp[intOf];omega
          ·have HEQ:Hid (∀ W,(binOp .eql 33 (.agg EB.toArray) (.agg BB.toArray)).run Tryz.prog W = .ok (.bool false) W):=fun W=>by
            have:=heq W
            rw[show (E == b)=false from by simpa using hEb] at this
            exact this
           have hy2:¬ (b∈T∨b∈M.take (k+1)):=fun hh=>by
            rcases hh with hh | hh
            ·exact hn (Or.inl hh)
            ·rcases (uh HMT).1 hh with hh | hh
             ·exact hn (Or.inr hh)
             ·exact hEb hh
           have HY2:=hide hy2
           clear hy hy2 heq hn hEb
           refine wp_region_noPanic ?_
           refine wp_region_held_drew (S:=fun V=>wr.grownBy V none) (by kernel_rfl) h0 (fun _ => ?_)
           refine tq 0 129 (.move (.tmp 12)) ((.bool false)) h0 ?_
           refine tq 1 130 (.move (.tmp 129)) ((.bool false)) h0 ?_
           refine tq 2 131 (.move (.tmp 11)) ((.slice (some ⟨tb,tof,none⟩) mn9 mc9)) h0 ?_
           refine tq 3 132 (.move (.tmp 14)) ((.int .i64 ((k:Int)))) h0 ?_
           (try simp only[pq])
           refine tq 4 133 (.indexAddr 29 (.tmp 131) (.tmp 132)) ((.pointer (some ⟨tb,tof+k*32,none⟩))) h0 ?_
           refine tz 5 134 (.load 33 (.tmp 133)) (.agg EB.toArray) h0 ?_ (y:=(yieldsIf_load_mid (by rfl) _ _ rfl _ _ rfl EB _ (fun V hV=>zab (uh HRE) hV (by simp)) Tryz.underlying33 rfl (uh HEB).info))
           refine tq 6 135 (.move (.tmp 8)) ((.slice (some ⟨xb,xo,none⟩) xn xc)) h0 ?_
           refine tq 7 136 (.move (.tmp 9)) ((.int .i64 ((j:Int)))) h0 ?_
           (try simp only[pq])
           refine tq 8 137 (.binOp .add 3 (.tmp 136) (.const (.int .i64 1)) 3) ((.int .i64 ((j1:Int)))) h0 ?_
           refine tq 9 138 (.indexAddr 29 (.tmp 135) (.tmp 137)) ((.pointer (some ⟨xb,xo+j1*32,none⟩))) h0 ?_
           refine tz 10 139 (.load 33 (.tmp 138)) (.agg BB.toArray) h0 ?_ (y:=(yieldsIf_load_mid (by rfl) _ _ rfl _ _ rfl BB _ (fun V hV=>zab (uh HRBk) hV (by simp)) Tryz.underlying33 rfl (uh HBB).info))
           refine tz 11 140 (.binOp .eql 33 (.tmp 134) (.tmp 139) 33) (.bool false) h0 ?_ (y:=(zbl (by rfl) _ _ _ _ rfl _ _ _ rfl rfl zck (uh HEQ)))
           (try simp only[pq])
           refine tq 12 141 (.pick (.tmp 130) (.const (.bool true)) (.tmp 140)) ((.bool false)) h0 ?_
           refine tq 13 12 (.assign (.tmp 141)) ((.bool false)) h0 ?_
           (try simp only[pq])
           refine wpAnyH_done (by kernel_rfl) ?_ _
           refine NoPanic.normal ?_
           go_wp2
           go_roundw
           case rel=>exact ⟨false,k+1,rfl,by go_num,by omega,⟨fun h=>(by cases h),fun h=>absurd h (uh HY2)⟩,(uh HKk).none h0,zab (uh HRBk) h0 (by simp)⟩
           case measure=>simp[intOf];omega
        ·have hki:¬ (k:Int)<(mn9:Int):=by omega
         have hkn:k=M.length:=by rw[← uh HMN];omega
         have hyT:y=true↔b∈T∨b∈M:=by rw[hkn,List.take_length] at hy;exact hy
         have HYT:=hide hyT
         have HK7:=hide (uh HKk)
         have HRB7:=hide (uh HRBk)
         clear hy hyT hkn HKk HRBk
         have hyt:y=true:=(uh HYT).2 (uh HP9)
         subst hyt
         clear HYT
         have HK8:=hide (uh HK7)
         clear HK7 HRB7
         have hjw:=uh HJW
         go_wp2
         go_roundw
         case rel=>exact ⟨j+1,by go_num,by omega,⟨(uh HK8).s,(uh HK8).d,(uh HK8).b,(fun p hp=>(uh HK8).rows p (by simp at hp ⊢;rcases hp with h | h;exact Or.inr (Or.inr (Or.inl h));exact Or.inr (Or.inr (Or.inr h)))),(uh HK8).g⟩⟩
         case measure=>simp[intOf];omega
    ·clear HIN
     refine wp_region_noPanic ?_
     refine wp_region_held_drew (S:=fun V=>w6.grownBy V none) (by kernel_rfl) h0 (fun _ => ?_)
     refine tq 0 92 (.move (.tmp 5)) ((.pointer (some ⟨sb,0,none⟩))) h0 ?_
     refine tq 1 93 (.move (.tmp 8)) ((.slice (some ⟨xb,xo,none⟩) xn xc)) h0 ?_
     refine tq 2 94 (.move (.tmp 9)) ((.int .i64 ((j:Int)))) h0 ?_
     refine tq 3 95 (.indexAddr 29 (.tmp 93) (.tmp 94)) ((.pointer (some ⟨xb,xo+j*32,none⟩))) h0 ?_
     (try simp only[pq])
     refine tz 4 96 (.load 33 (.tmp 95)) (.agg AB.toArray) h0 ?_ (y:=(yieldsIf_load_mid (by rfl) _ _ rfl _ _ rfl AB _ (fun V hV=>zab (uh HRA6) hV (by simp)) Tryz.underlying33 rfl (uh HAB).info))
     refine tq 5 97 (.move (.tmp 8)) ((.slice (some ⟨xb,xo,none⟩) xn xc)) h0 ?_
     refine tq 6 98 (.move (.tmp 9)) ((.int .i64 ((j:Int)))) h0 ?_
     refine tq 7 99 (.binOp .add 3 (.tmp 98) (.const (.int .i64 1)) 3) ((.int .i64 ((j1:Int)))) h0 ?_
     (try simp only[pq])
     refine tq 8 100 (.indexAddr 29 (.tmp 97) (.tmp 99)) ((.pointer (some ⟨xb,xo+j1*32,none⟩))) h0 ?_
     refine tz 9 101 (.load 33 (.tmp 100)) (.agg BB.toArray) h0 ?_ (y:=(yieldsIf_load_mid (by rfl) _ _ rfl _ _ rfl BB _ (fun V hV=>zab (uh HRB6) hV (by simp)) Tryz.underlying33 rfl (uh HBB).info))
     (try simp only[pq])
     refine rd 10 (some 102) (.call { callee := .value (.func 26),args := #[(.tmp 92),(.tmp 96),(.tmp 101)],argTypes := #[24,33,33] }) (fun K9 hK9 => ?_)
     go_simp
     go_at_call 26
     refine (uh HFab6 _ h0).mono ?_
     rintro e q1 ⟨y1,rfl,hy1,g1⟩
     obtain rfl:y1=false:=by cases y1 with | false=>rfl | true=>exact absurd (hy1.1 rfl) p1
     have h1:=tn h0 g1
     clear hy1 g1
     go_wp2_with fail
     refine hK9.out _ _ h1 (fun _ => ?_)
     clear hK9 K9
     refine tq 11 103 (.unOp .not 4 (.tmp 102)) ((.bool true)) h1 ?_
     (try simp only[pq])
     refine wpAnyH_done (by kernel_rfl) ?_ _
     refine NoPanic.normal ?_
     have HK7:=hide ((uh HK6).none h1)
     clear h1 h0 HK6 HRA6 HRB6 HFab6 p1 hw2 hl2 hl0
     have hjw:=uh HJW
     go_wp2
     go_roundw
     case rel=>exact ⟨j+1,by go_num,by omega,⟨(uh HK7).s,(uh HK7).d,(uh HK7).b,(fun p hp=>(uh HK7).rows p (by simp at hp ⊢;rcases hp with h | h;exact Or.inr (Or.inr (Or.inl h));exact Or.inr (Or.inr (Or.inr h)))),(uh HK7).g⟩⟩
     case measure=>simp[intOf];omega
  ·have hlti:¬ (j:Int)+2<(xn:Int):=by omega
   clear hjw2
   have hjw2:IntKind.i64.wrap ((j:Int)+2)=(j:Int)+2:=by rw[IntKind.wrap_i64];omega
   by_cases hx1:1<xn
   ·have hx1i:(1:Int)<(xn:Int):=by omega
    have hA:0<X.length:=by rw[← uh HXN];omega
    have hB:1<X.length:=by rw[← uh HXN];omega
    obtain ⟨xb,xo,hxa,hrA⟩:=((uh HK).rows (.slice xa xn xc,X) (by simp)).at 0 hA
    have hwid:=((uh HK).rows (.slice xa xn xc,X) (by simp)).wid
    subst hxa
    obtain ⟨xb1,xo1,e1,hrB⟩:=((uh HK).rows (.slice (some ⟨xb,xo,none⟩) xn xc,X) (by simp)).at 1 hB
    cases e1
    have lA:=hwid _ (List.getElem_mem hA)
    have lB:=hwid _ (List.getElem_mem hB)
    obtain ⟨a,ha⟩:∃ a,a=X[0]:=⟨_,rfl⟩
    obtain ⟨b,hb⟩:∃ b,b=X[1]:=⟨_,rfl⟩
    rw[← ha] at hrA lA
    rw[← hb] at hrB lB
    rw[Nat.zero_mul,Nat.add_zero] at hrA
    rw[Nat.one_mul] at hrB
    obtain ⟨AB,hAB⟩:=kyb a lA
    obtain ⟨BB,hBB⟩:=kyb b lB
    rw[← hAB.e] at hrA
    rw[← hBB.e] at hrB
    have cdr:=zsx w wr sb mb S (uh HK).s a lA
    rw[hAB.key] at cdr
    obtain ⟨rr,hrr⟩:∃ r:Int,r=(if hasS S a=true then 0 else 13):=⟨_,rfl⟩
    rw[← hrr] at cdr
    have heq:=ztm hAB hBB lA lB
    obtain ⟨HRA,HRB,HAB,HBB⟩:=zh4 hrA hrB hAB hBB
    have HA0:Hid (X[0]? = some a):=by rw[ha];exact List.getElem?_eq_getElem hA
    have HB0:Hid (X[1]? = some b):=by rw[hb];exact List.getElem?_eq_getElem hB
    clear hA hB hrA hrB ha hb hAB hBB hwid hrr
    go_wp2_with (refine wpList_load_mid rfl 33 _ rfl xb xo rfl AB _ (uh HRA) Tryz.underlying33 rfl (uh HAB).info ?_)
    refine cdr.mono ?_
    rintro e w8 ⟨rfl,hS8,g8⟩
    clear cdr
    have hN8:=((uh HK).rows (.slice (some ⟨xb,xo,none⟩) xn xc,X) (by simp)).setk (uh HK).s g8
    obtain ⟨xb1,xo1,e1,hrA8⟩:=hN8.at 0 (by rw[← uh HXN];omega)
    cases e1
    obtain ⟨xb2,xo2,e2,hrB8⟩:=hN8.at 1 (by rw[← uh HXN];omega)
    cases e2
    have hl0:0<X.length:=by rw[← uh HXN];omega
    have hl1:1<X.length:=by rw[← uh HXN];omega
    have ea:X[0]=a:=by have h:=uh HA0;rw[List.getElem?_eq_getElem hl0] at h;exact Option.some.inj h
    have eb:X[1]=b:=by have h:=uh HB0;rw[List.getElem?_eq_getElem hl1] at h;exact Option.some.inj h
    rw[Nat.zero_mul,Nat.add_zero,ea,← (uh HAB).e] at hrA8
    rw[Nat.one_mul,eb,← (uh HBB).e] at hrB8
    obtain ⟨HRA8,HRB8⟩:=zh2 hrA8 hrB8
    clear hN8 hrA8 hrB8 ea eb hl0 hl1
    have hp8:=zvw (uh HSS) a b
    have HFab8:Hid (∀ V',w8.grownBy V' none→Calls Tryz.prog 26 #[.pointer (some ⟨sb,0,none⟩),.agg AB.toArray,.agg BB.toArray] V' fun e w'=>∃ y,e = .returned (.bool y)∧(y=true↔a=b)∧V'.grownBy w' none):=fun V' g=>by
     have:=zfq V' (some ⟨sb,0,none⟩) (zes S a) (hS8.none g).sat a b lA lB
     rw[(uh HAB).key,(uh HBB).key] at this
     refine this.mono ?_
     rintro e w' ⟨y,h1,h2,h3⟩
     exact ⟨y,h1,by rw[h2,hp8],h3⟩
    have HLOG:Hid (∀ V',w8.grownBy V' none→Calls Tryz.prog 28 #[.pointer (some ⟨sb,0,none⟩),.agg AB.toArray] V' fun e w'=>∃ la lc,e = .returned (.slice la 0 lc)∧V'.grownBy w' none):=fun V' g=>by
     have:=zoi V' (some ⟨sb,0,none⟩) (zes S a) (hS8.none g).sat a lA
     rw[(uh HAB).key] at this
     refine this.mono ?_
     rintro e w' ⟨v,T,h1,h2,h3,h4⟩
     have hT0:=zvv (uh HSS) h2
     subst hT0
     obtain ⟨la,lc,rfl⟩:=zbj h3
     exact ⟨la,lc,h1,h4⟩
    have HG8:Hid (w.grownBy w8 none):=zad (uh HK).g g8 (fun x e=>by cases e;exact Or.inl (uh HK).s.nm)
    have h0:w8.grownBy w8.drew none:=zaj (zaa _ _)
    have hx0:¬ xn=0:=by omega
    have hx00:0<xn:=by omega
    clear hS8 g8 hp8 HRA HRB
    go_upto_region 25 with fail
    by_cases hab:a=b
    ·have HEQ:Hid (∀ W,(binOp .eql 33 (.agg AB.toArray) (.agg BB.toArray)).run Tryz.prog W = .ok (.bool true) W):=fun W=>by
      have:=heq W
      rw[show (a == b)=true from by simpa using hab] at this
      exact this
     have HP8:=hide hab
     clear heq hab
     refine wp_region_noPanic ?_
     refine wp_region_held_drew (S:=fun V=>w8.grownBy V none) (by kernel_rfl) h0 (fun _ => ?_)
     refine tq 0 152 (.move (.tmp 5)) ((.pointer (some ⟨sb,0,none⟩))) h0 ?_
     refine tq 1 153 (.move (.tmp 8)) ((.slice (some ⟨xb,xo,none⟩) xn xc)) h0 ?_
     refine tq 2 154 (.indexAddr 29 (.tmp 153) (.const (.int .i64 0))) ((.pointer (some ⟨xb,xo,none⟩))) h0 ?_
     refine tz 3 155 (.load 33 (.tmp 154)) (.agg AB.toArray) h0 ?_ (y:=(yieldsIf_load_mid (by rfl) _ _ rfl _ _ rfl AB _ (fun V hV=>zab (uh HRA8) hV (by simp)) Tryz.underlying33 rfl (uh HAB).info))
     (try simp only[pq])
     refine rd 4 (some 156) (.call { callee := .value (.func 28),args := #[(.tmp 152),(.tmp 155)],argTypes := #[24,33] }) (fun K9 hK9 => ?_)
     go_simp
     go_at_call 28
     refine (uh HLOG _ h0).mono ?_
     rintro e q1 ⟨la,lc,rfl,g1⟩
     have h1:=tn h0 g1
     go_wp2_with fail
     refine hK9.out _ _ h1 (fun _ => ?_)
     clear hK9 K9
     refine tq 5 157 (.call { callee := .builtin .len,args := #[(.tmp 156)],argTypes := #[29] }) ((.int .i64 (0:Int))) h1 ?_
     refine tq 6 158 (.binOp .neq 3 (.tmp 157) (.const (.int .i64 0)) 3) ((.bool false)) h1 ?_
     refine tq 7 159 (.move (.tmp 158)) ((.bool false)) h1 ?_
     (try simp only[pq])
     refine tq 8 160 (.move (.tmp 5)) ((.pointer (some ⟨sb,0,none⟩))) h1 ?_
     refine tq 9 161 (.move (.tmp 8)) ((.slice (some ⟨xb,xo,none⟩) xn xc)) h1 ?_
     refine tq 10 162 (.indexAddr 29 (.tmp 161) (.const (.int .i64 0))) ((.pointer (some ⟨xb,xo,none⟩))) h1 ?_
     refine tz 11 163 (.load 33 (.tmp 162)) (.agg AB.toArray) h1 ?_ (y:=(yieldsIf_load_mid (by rfl) _ _ rfl _ _ rfl AB _ (fun V hV=>zab (uh HRA8) hV (by simp)) Tryz.underlying33 rfl (uh HAB).info))
     (try simp only[pq])
     refine tq 12 164 (.move (.tmp 8)) ((.slice (some ⟨xb,xo,none⟩) xn xc)) h1 ?_
     refine tq 13 165 (.indexAddr 29 (.tmp 164) (.const (.int .i64 1))) ((.pointer (some ⟨xb,xo+32,none⟩))) h1 ?_
     refine tz 14 166 (.load 33 (.tmp 165)) (.agg BB.toArray) h1 ?_ (y:=(yieldsIf_load_mid (by rfl) _ _ rfl _ _ rfl BB _ (fun V hV=>zab (uh HRB8) hV (by simp)) Tryz.underlying33 rfl (uh HBB).info))
     refine tq 16 168 (.move (.tmp 8)) ((.slice (some ⟨xb,xo,none⟩) xn xc)) h1 ?_
     (try simp only[pq])
     refine tq 17 169 (.indexAddr 29 (.tmp 168) (.const (.int .i64 0))) ((.pointer (some ⟨xb,xo,none⟩))) h1 ?_
     refine tz 18 170 (.load 33 (.tmp 169)) (.agg AB.toArray) h1 ?_ (y:=(yieldsIf_load_mid (by rfl) _ _ rfl _ _ rfl AB _ (fun V hV=>zab (uh HRA8) hV (by simp)) Tryz.underlying33 rfl (uh HAB).info))
     refine tq 19 171 (.move (.tmp 8)) ((.slice (some ⟨xb,xo,none⟩) xn xc)) h1 ?_
     refine tq 20 172 (.indexAddr 29 (.tmp 171) (.const (.int .i64 1))) ((.pointer (some ⟨xb,xo+32,none⟩))) h1 ?_
     (try simp only[pq])
     refine tz 21 173 (.load 33 (.tmp 172)) (.agg BB.toArray) h1 ?_ (y:=(yieldsIf_load_mid (by rfl) _ _ rfl _ _ rfl BB _ (fun V hV=>zab (uh HRB8) hV (by simp)) Tryz.underlying33 rfl (uh HBB).info))
     refine tz 22 174 (.binOp .eql 33 (.tmp 170) (.tmp 173) 33) (.bool true) h1 ?_ (y:=(zbl (by rfl) _ _ _ _ rfl _ _ _ rfl rfl zck (uh HEQ)))
     (try simp only[pq])
     refine rd 15 (some 167) (.call { callee := .value (.func 26),args := #[(.tmp 160),(.tmp 163),(.tmp 166)],argTypes := #[24,33,33] }) (fun K9 hK9 => ?_)
     go_simp
     go_at_call 26
     refine (uh HFab8 _ h1).mono ?_
     rintro e q2 ⟨y2,rfl,hy2,g2⟩
     obtain rfl:y2=true:=hy2.2 (uh HP8)
     have h2:=tn h1 g2
     clear hy2 g2
     go_wp2_with fail
     refine hK9.out _ _ h2 (fun _ => ?_)
     clear hK9 K9
     refine tq 23 175 (.binOp .neq 4 (.tmp 167) (.tmp 174) 4) ((.bool false)) h2 ?_
     refine tq 24 176 (.pick (.tmp 159) (.const (.bool true)) (.tmp 175)) ((.bool false)) h2 ?_
     (try simp only[pq])
     refine wpAnyH_done (by kernel_rfl) ?_ _
     refine NoPanic.normal ?_
     go_wp2_with fail
     refine (zhr _ ((uh HT).kept0 (tn (uh HG8) h2))).mono ?_
     rintro e w9 ⟨rfl,g9⟩
     go_wp2
     go_ret
     exact ⟨rfl,tn (tn (uh HG8) h2) g9⟩
    ·have HEQ:Hid (∀ W,(binOp .eql 33 (.agg AB.toArray) (.agg BB.toArray)).run Tryz.prog W = .ok (.bool false) W):=fun W=>by
      have:=heq W
      rw[show (a == b)=false from by simpa using hab] at this
      exact this
     have HP8:=hide hab
     clear heq hab
     refine wp_region_noPanic ?_
     refine wp_region_held_drew (S:=fun V=>w8.grownBy V none) (by kernel_rfl) h0 (fun _ => ?_)
     refine tq 0 152 (.move (.tmp 5)) ((.pointer (some ⟨sb,0,none⟩))) h0 ?_
     refine tq 1 153 (.move (.tmp 8)) ((.slice (some ⟨xb,xo,none⟩) xn xc)) h0 ?_
     refine tq 2 154 (.indexAddr 29 (.tmp 153) (.const (.int .i64 0))) ((.pointer (some ⟨xb,xo,none⟩))) h0 ?_
     refine tz 3 155 (.load 33 (.tmp 154)) (.agg AB.toArray) h0 ?_ (y:=(yieldsIf_load_mid (by rfl) _ _ rfl _ _ rfl AB _ (fun V hV=>zab (uh HRA8) hV (by simp)) Tryz.underlying33 rfl (uh HAB).info))
     (try simp only[pq])
     refine rd 4 (some 156) (.call { callee := .value (.func 28),args := #[(.tmp 152),(.tmp 155)],argTypes := #[24,33] }) (fun K9 hK9 => ?_)
     go_simp
     go_at_call 28
     refine (uh HLOG _ h0).mono ?_
     rintro e q1 ⟨la,lc,rfl,g1⟩
     have h1:=tn h0 g1
     go_wp2_with fail
     refine hK9.out _ _ h1 (fun _ => ?_)
     clear hK9 K9
     refine tq 5 157 (.call { callee := .builtin .len,args := #[(.tmp 156)],argTypes := #[29] }) ((.int .i64 (0:Int))) h1 ?_
     refine tq 6 158 (.binOp .neq 3 (.tmp 157) (.const (.int .i64 0)) 3) ((.bool false)) h1 ?_
     refine tq 7 159 (.move (.tmp 158)) ((.bool false)) h1 ?_
     (try simp only[pq])
     refine tq 8 160 (.move (.tmp 5)) ((.pointer (some ⟨sb,0,none⟩))) h1 ?_
     refine tq 9 161 (.move (.tmp 8)) ((.slice (some ⟨xb,xo,none⟩) xn xc)) h1 ?_
     refine tq 10 162 (.indexAddr 29 (.tmp 161) (.const (.int .i64 0))) ((.pointer (some ⟨xb,xo,none⟩))) h1 ?_
     refine tz 11 163 (.load 33 (.tmp 162)) (.agg AB.toArray) h1 ?_ (y:=(yieldsIf_load_mid (by rfl) _ _ rfl _ _ rfl AB _ (fun V hV=>zab (uh HRA8) hV (by simp)) Tryz.underlying33 rfl (uh HAB).info))
     (try simp only[pq])
     refine tq 12 164 (.move (.tmp 8)) ((.slice (some ⟨xb,xo,none⟩) xn xc)) h1 ?_
     refine tq 13 165 (.indexAddr 29 (.tmp 164) (.const (.int .i64 1))) ((.pointer (some ⟨xb,xo+32,none⟩))) h1 ?_
     refine tz 14 166 (.load 33 (.tmp 165)) (.agg BB.toArray) h1 ?_ (y:=(yieldsIf_load_mid (by rfl) _ _ rfl _ _ rfl BB _ (fun V hV=>zab (uh HRB8) hV (by simp)) Tryz.underlying33 rfl (uh HBB).info))
     refine tq 16 168 (.move (.tmp 8)) ((.slice (some ⟨xb,xo,none⟩) xn xc)) h1 ?_
     (try simp only[pq])
     refine tq 17 169 (.indexAddr 29 (.tmp 168) (.const (.int .i64 0))) ((.pointer (some ⟨xb,xo,none⟩))) h1 ?_
     refine tz 18 170 (.load 33 (.tmp 169)) (.agg AB.toArray) h1 ?_ (y:=(yieldsIf_load_mid (by rfl) _ _ rfl _ _ rfl AB _ (fun V hV=>zab (uh HRA8) hV (by simp)) Tryz.underlying33 rfl (uh HAB).info))
     refine tq 19 171 (.move (.tmp 8)) ((.slice (some ⟨xb,xo,none⟩) xn xc)) h1 ?_
     refine tq 20 172 (.indexAddr 29 (.tmp 171) (.const (.int .i64 1))) ((.pointer (some ⟨xb,xo+32,none⟩))) h1 ?_
     (try simp only[pq])
     refine tz 21 173 (.load 33 (.tmp 172)) (.agg BB.toArray) h1 ?_ (y:=(yieldsIf_load_mid (by rfl) _ _ rfl _ _ rfl BB _ (fun V hV=>zab (uh HRB8) hV (by simp)) Tryz.underlying33 rfl (uh HBB).info))
     refine tz 22 174 (.binOp .eql 33 (.tmp 170) (.tmp 173) 33) (.bool false) h1 ?_ (y:=(zbl (by rfl) _ _ _ _ rfl _ _ _ rfl rfl zck (uh HEQ)))
     (try simp only[pq])
     refine rd 15 (some 167) (.call { callee := .value (.func 26),args := #[(.tmp 160),(.tmp 163),(.tmp 166)],argTypes := #[24,33,33] }) (fun K9 hK9 => ?_)
     go_simp
     go_at_call 26
     refine (uh HFab8 _ h1).mono ?_
     rintro e q2 ⟨y2,rfl,hy2,g2⟩
     obtain rfl:y2=false:=by cases y2 with | false=>rfl | true=>exact absurd (hy2.1 rfl) (uh HP8)
     have h2:=tn h1 g2
     clear hy2 g2
     go_wp2_with fail
     refine hK9.out _ _ h2 (fun _ => ?_)
     clear hK9 K9
     refine tq 23 175 (.binOp .neq 4 (.tmp 167) (.tmp 174) 4) ((.bool false)) h2 ?_
     refine tq 24 176 (.pick (.tmp 159) (.const (.bool true)) (.tmp 175)) ((.bool false)) h2 ?_
     (try simp only[pq])
     refine wpAnyH_done (by kernel_rfl) ?_ _
     refine NoPanic.normal ?_
     go_wp2_with fail
     refine (zhr _ ((uh HT).kept0 (tn (uh HG8) h2))).mono ?_
     rintro e w9 ⟨rfl,g9⟩
     go_wp2
     go_ret
     exact ⟨rfl,tn (tn (uh HG8) h2) g9⟩
   ·have hx1i:¬ (1:Int)<(xn:Int):=by omega
    go_wp2_with fail
    refine (zhr _ ((uh HT).kept0 (uh HK).g)).mono ?_
    rintro e w9 ⟨rfl,g9⟩
    go_wp2
    go_ret
    exact ⟨rfl,tn (uh HK).g g9⟩
end Go.Proofs.YthhnfloohbdaiaaGreatDoor
