/- Lemmas. -/
import Derived.Test.YtegbbkgmiklhcaaGreatDoorMGrd
import Derived.Test.YtegbbkgmiklhcaaGreatDoorMNeq
namespace Go.Proofs.YtegbbkgmiklhcaaGreatDoor
open Go.RowKit
theorem zgv (s:List UInt8 × Int) (j:Nat):(runE s j).1.length=j:=by
 induction j with
 | zero=>rfl
 | succ j ih=>rw[runE,zj9];simp[ih]
theorem znk (s:List UInt8 × Int) (j:Nat):∀ e∈(runE s j).1,e.id.length=32:=by
 induction j with
 | zero=>intro e he;simp[runE] at he
 | succ j ih =>
  intro e he
  rw[runE,zj9] at he
  simp only[List.mem_append,List.mem_singleton] at he
  rcases he with he | rfl
  ·exact ih e he
  ·exact zbj _ _
theorem zfh (s:List UInt8 × Int) (j:Nat):(runE s j).2.1.length≤s.1.length:=by
 induction j with
 | zero=>exact Nat.le_refl _
 | succ j ih =>
  rw[runE,zj9]
  exact Nat.le_trans (zcg _ _ _) (Nat.le_trans (zbb _ _) (Nat.le_trans (zbc _ _ _) ih))
theorem zkd (s:List UInt8 × Int) (j:Nat):∀ e∈(runE s j).1,e.name.length≤s.1.length:=by
 induction j with
 | zero=>intro e he;simp[runE] at he
 | succ j ih =>
  intro e he
  have h0:=zfh s j
  rw[runE,zj9] at he
  simp only[List.mem_append,List.mem_singleton] at he
  rcases he with he | rfl
  ·exact ih e he
  ·exact Nat.le_trans (zco _ _) (Nat.le_trans (zbc _ _ _) h0)
theorem zf7 {s:List UInt8 × Int} {j:Nat} {es:List EntL} {l' : List UInt8} {e' : Int} (h:runE s j=(es,l',e')) {v1:Nat} {l1:List UInt8} {e1:Int} (h1:numS l' e' 1=(v1,l1,e1)) {x l2:List UInt8} {e2:Int} (h2:zak l1 e1=(x,l2,e2)) {y l3:List UInt8} {e3:Int} (h3:rawS l2 e2 32=(y,l3,e3)) :
  runE s (j+1)=(es++[⟨x,decide (v1=1),zb1 y⟩],l3,e3):=by
 rw[runE,h,zj9]
 simp only[h1,h2,h3]
set_option maxRecDepth 100000 in
set_option maxHeartbeats 4000000 in
theorem zhi (w:World) (rb:Nat) (d:List UInt8) (hl:d.length≤1000000) (h:Rd w rb d 0) :
  Calls Tryz.prog 117 #[.pointer (some ⟨rb,0,none⟩)] w fun e w'=>∃ v,e = .returned v∧w'.ownsRow w.heap.size 154 34 v (zb6 d).length ((zb6 d).flatMap enC)∧w.grownBy w' (some rb):=by
 have hrb:=h.lt
 have cn:=zc1 w rb d 0 2 h
 have hll:=zbc d 0 2
 have hn6:=znd d 0
 have hRT:zb6 d=(runE (numS d 0 2).2 (min (numS d 0 2).1 32)).1:=rfl
 obtain ⟨⟨n0,l0,e0⟩,ha⟩:∃ a,a=numS d 0 2:=⟨_,rfl⟩
 rw[← ha] at cn hll hn6 hRT
 simp only at cn hll hn6 hRT
 obtain ⟨m,hm⟩:∃ m,m=min n0 32:=⟨_,rfl⟩
 have hm32:m≤32:=by omega
 rw[← hm] at hRT
 have HRT:=hide hRT
 have HLL:=hide (Nat.le_trans hll hl)
 have hcase:(32<n0∧m=32)∨n0=m:=by omega
 clear ha hRT hll hl h hm
 rcases hcase with ⟨hc,hm⟩ | hm
 ·have hci:(32:Int)<(n0:Int):=by omega
  have h32:Value.int IntKind.u64 32=Value.int IntKind.u64 (m:Int):=by rw[hm];rfl
  have H32:=hide h32
  clear h32 hm hc
  go_enter Tryz.func117,Tryz.ntmps117
  go_wp2_with fail
  refine cn.mono ?_
  rintro e w1 ⟨rfl,hR1,g1⟩
  clear cn
  go_wp2
  rw[uh H32]
  clear H32 hci
  go_loopw [3,8] (fun v i wr=>∃ (j:Nat) (es:List EntL) (l' : List UInt8) (e' : Int),j≤m∧i = .int .u64 (j:Int)∧Hid (runE (l0,e0) j=(es,l',e'))∧wr.ownsRow w.heap.size 154 34 v es.length (es.flatMap enC)∧Rd wr rb l' e'∧w.grownBy wr (some rb)) (fun _ i _=>m - (intOf i).toNat)
  case atStart=>exact ⟨0,[],l0,e0,Nat.zero_le _,rfl,rfl,World.ownsRow_nil _ _ _ _,hR1,g1⟩
  case round =>
   obtain ⟨j,es,l',e',hj,rfl,HE,ho,hR,hg⟩:=hrel
   by_cases hlt:j<m
   ·have hel:es.length=j:=by have:=zgv (l0,e0) j;rw[uh HE] at this;exact this
    have hlf:l'.length≤1000000:=by have:=zfh (l0,e0) j;rw[uh HE] at this;exact Nat.le_trans this (uh HLL)
    have cn:=zc1 wr rb l' e' 1 hR
    have hl1:=zbc l' e' 1
    have hsl1:∀ l1 e1,(zak l1 e1).2.1.length≤l1.length:=zbb
    obtain ⟨⟨v1,l1,e1⟩,ha⟩:∃ a,a=numS l' e' 1:=⟨_,rfl⟩
    rw[← ha] at cn hl1
    simp only at cn hl1
    have H1:=hide ha.symm
    clear ha
    go_wp2_with fail
    refine cn.mono ?_
    rintro e w2 ⟨rfl,hR2,g2⟩
    have ho2:=zbh ho g2 (fun x e=>by cases e;omega)
    have G2:w.grownBy w2 (some rb):=zac hg g2 (fun x e=>Or.inr e)
    clear cn hR hg ho g2
    go_upto_region 5 with fail
    have cs:∀ V,Rd V rb l1 e1→Calls Tryz.prog 38 #[.pointer (some ⟨rb,0,none⟩)] V fun e w'=>∃ v,e = .returned v∧NewB V w' v (zak l1 e1).1∧Rd w' rb (zak l1 e1).2.1 (zak l1 e1).2.2∧V.grownBy w' (some rb):=fun V hV=>zb0 V rb l1 e1 (by omega) hV
    have hsz1:=zbb l1 e1
    obtain ⟨⟨x,l2,e2⟩,ha⟩:∃ a,a=zak l1 e1:=⟨_,rfl⟩
    rw[← ha] at cs hsz1
    simp only at cs hsz1
    have H2:=hide ha.symm
    clear ha
    have ci:∀ V,Rd V rb l2 e2→Calls Tryz.prog 134 #[.pointer (some ⟨rb,0,none⟩)] V fun e w'=>e = .returned (.agg ((zb1 (rawS l2 e2 32).1).map bv).toArray)∧Rd w' rb (rawS l2 e2 32).2.1 (rawS l2 e2 32).2.2∧V.grownBy w' (some rb):=fun V hV=>zca V rb l2 e2 (by omega) hV
    have hy32:=zbj l2 e2
    obtain ⟨⟨y,l3,e3⟩,ha⟩:∃ a,a=rawS l2 e2 32:=⟨_,rfl⟩
    rw[← ha] at ci hy32
    simp only at ci hy32
    have H3:=hide ha.symm
    clear ha
    obtain ⟨D,hD⟩:∃ D,D=decide (v1=1):=⟨_,rfl⟩
    have hD2:((v1:Int) == 1)=D:=by rw[hD];by_cases q:v1=1 <;> simp[q] <;> omega
    have hrd:=zf7 (uh HE) (uh H1) (uh H2) (uh H3)
    rw[← hD] at hrd
    obtain ⟨I,hI⟩:∃ I,I=zb1 y:=⟨_,rfl⟩
    rw[← hI] at ci hy32 hrd
    have hbt:=zhh (str x) D I hy32
    have hbs:=zou (str x) D I hy32
    obtain ⟨IV,hIV⟩:∃ V,V=Value.agg (I.map bv).toArray:=⟨_,rfl⟩
    rw[← hIV] at ci hbt
    obtain ⟨EC,hEC⟩:∃ L,L=(Value.string (str x)::Value.bool D::I.map bv):=⟨_,rfl⟩
    rw[← hEC] at hbt hbs
    have hEe:EC=enC ⟨x,D,I⟩:=hEC
    have hEl:EC.length=34:=by rw[hEe];exact zeb _ hy32
    have hE1:∀ u∈EC,u.oneCell'=true:=by rw[hEe];exact zff _
    have hfl:(es++[(⟨x,D,I⟩:EntL)]).flatMap enC=es.flatMap enC++EC:=by rw[hEe];simp
    obtain ⟨N,hN⟩:∃ N,N=str x:=⟨_,rfl⟩
    rw[← hN] at hbt
    obtain ⟨HN,HBT,HEL,HE1,HFL,HRD⟩:=zh6 hN hbt hEl hE1 hfl hrd
    have h0:w.grownBy w2.drew (some rb):=zas G2
    have hRd:Rd w2.drew rb l1 e1:=hR2.kept (zas (zab _ none)) (Or.inl rfl)
    have hod:w2.drew.ownsRow w.heap.size 154 34 u3 es.length (es.flatMap enC):=zbh ho2 (zas (zab _ none)) (fun x e=>by cases e)
    have hj100:es.length≤100000:=by omega
    clear hD hI hIV hEC hEe hEl hE1 hfl hN hbt hrd hy32 hsz1 hl1 hsl1 ho2 hR2 G2 HE H1 H2 H3 hlf hel
    try rw[hD2]
    clear hD2
    refine wp_region_noPanic ?_
    refine wp_region_held_drew (S:=fun V=>w.grownBy V (some rb)) (by kernel_rfl) h0 (fun _ => ?_)
    refine tq 0 13 (.move (.tmp 3)) u3 h0 ?_
    refine tq 1 14 (.move (.tmp 0)) (.pointer (some ⟨rb,0,none⟩)) h0 ?_
    refine tq 4 17 (.move (.tmp 4)) (.bool D) h0 ?_
    refine tq 5 18 (.move (.tmp 0)) (.pointer (some ⟨rb,0,none⟩)) h0 ?_
    (try simp only[pq])
    refine rdq 2 (some 15) (.call { callee := .value (.func 38),args := #[(.tmp 14)],argTypes := #[84] }) (fun K9 hK9 => ?_)
    go_simp
    go_at_call 38
    refine (cs _ hRd).mono ?_
    rintro e w3 ⟨v3,rfl,⟨ao,c,rfl,hb3,hn3⟩,hR3,g3⟩
    have G3:w.grownBy w3 (some rb):=zac h0 g3 (fun x e=>Or.inr e)
    go_wp2_with fail
    refine hK9.out _ _ G3 (fun _ => ?_)
    clear hK9 K9
    (try simp only[pq])
    have hs0:w.heap.size≤w2.drew.heap.size:=h0.size
    have ho3:=zbh hod g3 (fun x e=>by cases e;exact hrb)
    have hof:Off ao rb:=fun ad e e2=>by have:=(hn3 ad e).1;omega
    clear hod g3 cs hRd hs0
    refine wpAnyH_ready (rs:=[3,6]) (by kernel_rfl) (by simp) ?_
    refine AllReadyH.cons (o:=⟨some 16,.convert 24 9 (.tmp 15),_,_,_,_⟩) rfl (fun K9 hK9 => ?_) (AllReadyH.cons (o:=⟨some 19,.call { callee := .value (.func 134),args := #[(.tmp 18)],argTypes := #[84] },_,_,_,_⟩) rfl (fun K9 hK9 => ?_) AllReadyH.nil)
    ·have hcv:=za6 hb3
     rw[← uh HN] at hcv
     go_simp
     refine hK9.out _ _ G3 (fun _ => ?_)
     clear hK9 K9 hcv
     (try simp only[pq])
     refine rdq 6 (some 19) (.call { callee := .value (.func 134),args := #[(.tmp 18)],argTypes := #[84] }) (fun K9 hK9 => ?_)
     go_simp
     go_at_call 134
     refine (ci _ hR3).mono ?_
     rintro e w4 ⟨rfl,hR4,g4⟩
     have G4:w.grownBy w4 (some rb):=zac G3 g4 (fun x e=>Or.inr e)
     go_wp2_with fail
     refine hK9.out _ _ G4 (fun _ => ?_)
     clear hK9 K9
     (try simp only[pq])
     have ho4:=zbh ho3 g4 (fun x e=>by cases e;exact hrb)
     clear ci hR3 ho3 g4
     refine tz 7 20 (.build 154 #[(0,(.tmp 16)),(1,(.tmp 17)),(2,(.tmp 19))]) (.agg EC.toArray) G4 ?_ (y:=(zbk (by rfl) _ _ rfl _ (Eq.trans (b:=Tryz.prog.built 154 [(0,.string N),(1,.bool D),(2,IV)]) (by kernel_rfl) (uh HBT))))
     (try simp only[pq])
     refine rdq 8 (some 21) (.buildSlice 150 1 #[(0,(.tmp 20))]) (fun K9 hK9 => ?_)
     obtain ⟨w5,hw5,hB5,g5⟩:=zah w4 154 EC
     refine za4 (by rfl) _ _ rfl _ _ rfl (hbs w4) ?_
     rw[← hw5]
     have G5:=tn G4 g5
     refine hK9.out _ _ G5 (fun _ => ?_)
     clear hK9 K9 hw5
     (try simp only[pq])
     have ho5:=zbh ho4 g5 (fun x e=>by cases e)
     have hR5:=hR4.kept g5 (Or.inl rfl)
     refine rdq 9 (some 22) (.call { callee := .builtin .append,args := #[(.tmp 13),(.tmp 21)],argTypes := #[150,150] }) (fun K9 hK9 => ?_)
     refine zbt (by rfl) _ _ rfl w.heap.size u3 _ _ rfl ho5 _ EC hB5 (uh HEL) (uh HE1) rfl hj100 G5.size ?_
     intro v6 w6 ho6 g6
     have G6:w.grownBy w6 (some rb):=zac G5 g6 (fun x e=>Or.inl (ho5.lt x e).1)
     have hR6:Rd w6 rb l3 e3:=hR5.keptTyp g6 (fun x e=>⟨by have:=(ho5.lt x e).1;omega,zbx ho5 e (by decide)⟩)
     refine hK9.out _ _ G6 (fun _ => ?_)
     clear hK9 K9 g6 ho5 hR5 hB5 g5
     refine tq 10 3 (.assign (.tmp 22)) v6 G6 ?_
     (try simp only[pq])
     refine wpAnyH_done (by kernel_rfl) ?_ _
     refine NoPanic.normal ?_
     obtain ⟨HR6,HO6⟩:=zh2 hR6 ho6
     clear hR6 ho6
     go_wp2
     go_roundw
     case rel =>
      refine ⟨j+1,_,l3,e3,by omega,by go_num,HRD,?_,uh HR6,G6⟩
      rw[List.length_append,uh HFL]
      exact uh HO6
     case measure=>simp[intOf];omega
    ·go_simp
     go_at_call 134
     refine (ci _ hR3).mono ?_
     rintro e w4 ⟨rfl,hR4,g4⟩
     have G4:w.grownBy w4 (some rb):=zac G3 g4 (fun x e=>Or.inr e)
     go_wp2_with fail
     refine hK9.out _ _ G4 (fun _ => ?_)
     clear hK9 K9
     (try simp only[pq])
     have ho4:=zbh ho3 g4 (fun x e=>by cases e;exact hrb)
     have hb4:=hb3.kept g4 (fun x e=>by cases e;exact hof)
     clear ci hR3 ho3 g4
     refine rdq 3 (some 16) (.convert 24 9 (.tmp 15)) (fun K9 hK9 => ?_)
     have hcv:=za6 hb4
     rw[← uh HN] at hcv
     go_simp
     refine hK9.out _ _ G4 (fun _ => ?_)
     clear hK9 K9 hcv
     refine tz 7 20 (.build 154 #[(0,(.tmp 16)),(1,(.tmp 17)),(2,(.tmp 19))]) (.agg EC.toArray) G4 ?_ (y:=(zbk (by rfl) _ _ rfl _ (Eq.trans (b:=Tryz.prog.built 154 [(0,.string N),(1,.bool D),(2,IV)]) (by kernel_rfl) (uh HBT))))
     (try simp only[pq])
     refine rdq 8 (some 21) (.buildSlice 150 1 #[(0,(.tmp 20))]) (fun K9 hK9 => ?_)
     obtain ⟨w5,hw5,hB5,g5⟩:=zah w4 154 EC
     refine za4 (by rfl) _ _ rfl _ _ rfl (hbs w4) ?_
     rw[← hw5]
     have G5:=tn G4 g5
     refine hK9.out _ _ G5 (fun _ => ?_)
     clear hK9 K9 hw5
     (try simp only[pq])
     have ho5:=zbh ho4 g5 (fun x e=>by cases e)
     have hR5:=hR4.kept g5 (Or.inl rfl)
     refine rdq 9 (some 22) (.call { callee := .builtin .append,args := #[(.tmp 13),(.tmp 21)],argTypes := #[150,150] }) (fun K9 hK9 => ?_)
     refine zbt (by rfl) _ _ rfl w.heap.size u3 _ _ rfl ho5 _ EC hB5 (uh HEL) (uh HE1) rfl hj100 G5.size ?_
     intro v6 w6 ho6 g6
     have G6:w.grownBy w6 (some rb):=zac G5 g6 (fun x e=>Or.inl (ho5.lt x e).1)
     have hR6:Rd w6 rb l3 e3:=hR5.keptTyp g6 (fun x e=>⟨by have:=(ho5.lt x e).1;omega,zbx ho5 e (by decide)⟩)
     refine hK9.out _ _ G6 (fun _ => ?_)
     clear hK9 K9 g6 ho5 hR5 hB5 g5
     refine tq 10 3 (.assign (.tmp 22)) v6 G6 ?_
     (try simp only[pq])
     refine wpAnyH_done (by kernel_rfl) ?_ _
     refine NoPanic.normal ?_
     obtain ⟨HR6,HO6⟩:=zh2 hR6 ho6
     clear hR6 ho6
     go_wp2
     go_roundw
     case rel =>
      refine ⟨j+1,_,l3,e3,by omega,by go_num,HRD,?_,uh HR6,G6⟩
      rw[List.length_append,uh HFL]
      exact uh HO6
     case measure=>simp[intOf];omega
   ·have hjm:j=m:=by omega
    have hfin:zb6 d=es:=by
     rw[uh HRT,← hjm,uh HE]
    have HF:=hide hfin
    clear hfin hjm
    go_wp2
    go_ret
    exact ⟨_,rfl,by rw[uh HF];exact ho,hg⟩
 ·subst n0
  have hci:¬ (32:Int)<(m:Int):=by omega
  go_enter Tryz.func117,Tryz.ntmps117
  go_wp2_with fail
  refine cn.mono ?_
  rintro e w1 ⟨rfl,hR1,g1⟩
  clear cn
  go_wp2
  clear hci
  go_loopw [3,8] (fun v i wr=>∃ (j:Nat) (es:List EntL) (l' : List UInt8) (e' : Int),j≤m∧i = .int .u64 (j:Int)∧Hid (runE (l0,e0) j=(es,l',e'))∧wr.ownsRow w.heap.size 154 34 v es.length (es.flatMap enC)∧Rd wr rb l' e'∧w.grownBy wr (some rb)) (fun _ i _=>m - (intOf i).toNat)
  case atStart=>exact ⟨0,[],l0,e0,Nat.zero_le _,rfl,rfl,World.ownsRow_nil _ _ _ _,hR1,g1⟩
  case round =>
   obtain ⟨j,es,l',e',hj,rfl,HE,ho,hR,hg⟩:=hrel
   by_cases hlt:j<m
   ·have hel:es.length=j:=by have:=zgv (l0,e0) j;rw[uh HE] at this;exact this
    have hlf:l'.length≤1000000:=by have:=zfh (l0,e0) j;rw[uh HE] at this;exact Nat.le_trans this (uh HLL)
    have cn:=zc1 wr rb l' e' 1 hR
    have hl1:=zbc l' e' 1
    have hsl1:∀ l1 e1,(zak l1 e1).2.1.length≤l1.length:=zbb
    obtain ⟨⟨v1,l1,e1⟩,ha⟩:∃ a,a=numS l' e' 1:=⟨_,rfl⟩
    rw[← ha] at cn hl1
    simp only at cn hl1
    have H1:=hide ha.symm
    clear ha
    go_wp2_with fail
    refine cn.mono ?_
    rintro e w2 ⟨rfl,hR2,g2⟩
    have ho2:=zbh ho g2 (fun x e=>by cases e;omega)
    have G2:w.grownBy w2 (some rb):=zac hg g2 (fun x e=>Or.inr e)
    clear cn hR hg ho g2
    go_upto_region 5 with fail
    have cs:∀ V,Rd V rb l1 e1→Calls Tryz.prog 38 #[.pointer (some ⟨rb,0,none⟩)] V fun e w'=>∃ v,e = .returned v∧NewB V w' v (zak l1 e1).1∧Rd w' rb (zak l1 e1).2.1 (zak l1 e1).2.2∧V.grownBy w' (some rb):=fun V hV=>zb0 V rb l1 e1 (by omega) hV
    have hsz1:=zbb l1 e1
    obtain ⟨⟨x,l2,e2⟩,ha⟩:∃ a,a=zak l1 e1:=⟨_,rfl⟩
    rw[← ha] at cs hsz1
    simp only at cs hsz1
    have H2:=hide ha.symm
    clear ha
    have ci:∀ V,Rd V rb l2 e2→Calls Tryz.prog 134 #[.pointer (some ⟨rb,0,none⟩)] V fun e w'=>e = .returned (.agg ((zb1 (rawS l2 e2 32).1).map bv).toArray)∧Rd w' rb (rawS l2 e2 32).2.1 (rawS l2 e2 32).2.2∧V.grownBy w' (some rb):=fun V hV=>zca V rb l2 e2 (by omega) hV
    have hy32:=zbj l2 e2
    obtain ⟨⟨y,l3,e3⟩,ha⟩:∃ a,a=rawS l2 e2 32:=⟨_,rfl⟩
    rw[← ha] at ci hy32
    simp only at ci hy32
    have H3:=hide ha.symm
    clear ha
    obtain ⟨D,hD⟩:∃ D,D=decide (v1=1):=⟨_,rfl⟩
    have hD2:((v1:Int) == 1)=D:=by rw[hD];by_cases q:v1=1 <;> simp[q] <;> omega
    have hrd:=zf7 (uh HE) (uh H1) (uh H2) (uh H3)
    rw[← hD] at hrd
    obtain ⟨I,hI⟩:∃ I,I=zb1 y:=⟨_,rfl⟩
    rw[← hI] at ci hy32 hrd
    have hbt:=zhh (str x) D I hy32
    have hbs:=zou (str x) D I hy32
    obtain ⟨IV,hIV⟩:∃ V,V=Value.agg (I.map bv).toArray:=⟨_,rfl⟩
    rw[← hIV] at ci hbt
    obtain ⟨EC,hEC⟩:∃ L,L=(Value.string (str x)::Value.bool D::I.map bv):=⟨_,rfl⟩
    rw[← hEC] at hbt hbs
    have hEe:EC=enC ⟨x,D,I⟩:=hEC
    have hEl:EC.length=34:=by rw[hEe];exact zeb _ hy32
    have hE1:∀ u∈EC,u.oneCell'=true:=by rw[hEe];exact zff _
    have hfl:(es++[(⟨x,D,I⟩:EntL)]).flatMap enC=es.flatMap enC++EC:=by rw[hEe];simp
    obtain ⟨N,hN⟩:∃ N,N=str x:=⟨_,rfl⟩
    rw[← hN] at hbt
    obtain ⟨HN,HBT,HEL,HE1,HFL,HRD⟩:=zh6 hN hbt hEl hE1 hfl hrd
    have h0:w.grownBy w2.drew (some rb):=zas G2
    have hRd:Rd w2.drew rb l1 e1:=hR2.kept (zas (zab _ none)) (Or.inl rfl)
    have hod:w2.drew.ownsRow w.heap.size 154 34 u3 es.length (es.flatMap enC):=zbh ho2 (zas (zab _ none)) (fun x e=>by cases e)
    have hj100:es.length≤100000:=by omega
    clear hD hI hIV hEC hEe hEl hE1 hfl hN hbt hrd hy32 hsz1 hl1 hsl1 ho2 hR2 G2 HE H1 H2 H3 hlf hel
    try rw[hD2]
    clear hD2
    refine wp_region_noPanic ?_
    refine wp_region_held_drew (S:=fun V=>w.grownBy V (some rb)) (by kernel_rfl) h0 (fun _ => ?_)
    refine tq 0 13 (.move (.tmp 3)) u3 h0 ?_
    refine tq 1 14 (.move (.tmp 0)) (.pointer (some ⟨rb,0,none⟩)) h0 ?_
    refine tq 4 17 (.move (.tmp 4)) (.bool D) h0 ?_
    refine tq 5 18 (.move (.tmp 0)) (.pointer (some ⟨rb,0,none⟩)) h0 ?_
    (try simp only[pq])
    refine rdq 2 (some 15) (.call { callee := .value (.func 38),args := #[(.tmp 14)],argTypes := #[84] }) (fun K9 hK9 => ?_)
    go_simp
    go_at_call 38
    refine (cs _ hRd).mono ?_
    rintro e w3 ⟨v3,rfl,⟨ao,c,rfl,hb3,hn3⟩,hR3,g3⟩
    have G3:w.grownBy w3 (some rb):=zac h0 g3 (fun x e=>Or.inr e)
    go_wp2_with fail
    refine hK9.out _ _ G3 (fun _ => ?_)
    clear hK9 K9
    (try simp only[pq])
    have hs0:w.heap.size≤w2.drew.heap.size:=h0.size
    have ho3:=zbh hod g3 (fun x e=>by cases e;exact hrb)
    have hof:Off ao rb:=fun ad e e2=>by have:=(hn3 ad e).1;omega
    clear hod g3 cs hRd hs0
    refine wpAnyH_ready (rs:=[3,6]) (by kernel_rfl) (by simp) ?_
    refine AllReadyH.cons (o:=⟨some 16,.convert 24 9 (.tmp 15),_,_,_,_⟩) rfl (fun K9 hK9 => ?_) (AllReadyH.cons (o:=⟨some 19,.call { callee := .value (.func 134),args := #[(.tmp 18)],argTypes := #[84] },_,_,_,_⟩) rfl (fun K9 hK9 => ?_) AllReadyH.nil)
    ·have hcv:=za6 hb3
     rw[← uh HN] at hcv
     go_simp
     refine hK9.out _ _ G3 (fun _ => ?_)
     clear hK9 K9 hcv
     (try simp only[pq])
     refine rdq 6 (some 19) (.call { callee := .value (.func 134),args := #[(.tmp 18)],argTypes := #[84] }) (fun K9 hK9 => ?_)
     go_simp
     go_at_call 134
     refine (ci _ hR3).mono ?_
     rintro e w4 ⟨rfl,hR4,g4⟩
     have G4:w.grownBy w4 (some rb):=zac G3 g4 (fun x e=>Or.inr e)
     go_wp2_with fail
     refine hK9.out _ _ G4 (fun _ => ?_)
     clear hK9 K9
     (try simp only[pq])
     have ho4:=zbh ho3 g4 (fun x e=>by cases e;exact hrb)
     clear ci hR3 ho3 g4
     refine tz 7 20 (.build 154 #[(0,(.tmp 16)),(1,(.tmp 17)),(2,(.tmp 19))]) (.agg EC.toArray) G4 ?_ (y:=(zbk (by rfl) _ _ rfl _ (Eq.trans (b:=Tryz.prog.built 154 [(0,.string N),(1,.bool D),(2,IV)]) (by kernel_rfl) (uh HBT))))
     (try simp only[pq])
     refine rdq 8 (some 21) (.buildSlice 150 1 #[(0,(.tmp 20))]) (fun K9 hK9 => ?_)
     obtain ⟨w5,hw5,hB5,g5⟩:=zah w4 154 EC
     refine za4 (by rfl) _ _ rfl _ _ rfl (hbs w4) ?_
     rw[← hw5]
     have G5:=tn G4 g5
     refine hK9.out _ _ G5 (fun _ => ?_)
     clear hK9 K9 hw5
     (try simp only[pq])
     have ho5:=zbh ho4 g5 (fun x e=>by cases e)
     have hR5:=hR4.kept g5 (Or.inl rfl)
     refine rdq 9 (some 22) (.call { callee := .builtin .append,args := #[(.tmp 13),(.tmp 21)],argTypes := #[150,150] }) (fun K9 hK9 => ?_)
     refine zbt (by rfl) _ _ rfl w.heap.size u3 _ _ rfl ho5 _ EC hB5 (uh HEL) (uh HE1) rfl hj100 G5.size ?_
     intro v6 w6 ho6 g6
     have G6:w.grownBy w6 (some rb):=zac G5 g6 (fun x e=>Or.inl (ho5.lt x e).1)
     have hR6:Rd w6 rb l3 e3:=hR5.keptTyp g6 (fun x e=>⟨by have:=(ho5.lt x e).1;omega,zbx ho5 e (by decide)⟩)
     refine hK9.out _ _ G6 (fun _ => ?_)
     clear hK9 K9 g6 ho5 hR5 hB5 g5
     refine tq 10 3 (.assign (.tmp 22)) v6 G6 ?_
     (try simp only[pq])
     refine wpAnyH_done (by kernel_rfl) ?_ _
     refine NoPanic.normal ?_
     obtain ⟨HR6,HO6⟩:=zh2 hR6 ho6
     clear hR6 ho6
     go_wp2
     go_roundw
     case rel =>
      refine ⟨j+1,_,l3,e3,by omega,by go_num,HRD,?_,uh HR6,G6⟩
      rw[List.length_append,uh HFL]
      exact uh HO6
     case measure=>simp[intOf];omega
    ·go_simp
     go_at_call 134
     refine (ci _ hR3).mono ?_
     rintro e w4 ⟨rfl,hR4,g4⟩
     have G4:w.grownBy w4 (some rb):=zac G3 g4 (fun x e=>Or.inr e)
     go_wp2_with fail
     refine hK9.out _ _ G4 (fun _ => ?_)
     clear hK9 K9
     (try simp only[pq])
     have ho4:=zbh ho3 g4 (fun x e=>by cases e;exact hrb)
     have hb4:=hb3.kept g4 (fun x e=>by cases e;exact hof)
     clear ci hR3 ho3 g4
     refine rdq 3 (some 16) (.convert 24 9 (.tmp 15)) (fun K9 hK9 => ?_)
     have hcv:=za6 hb4
     rw[← uh HN] at hcv
     go_simp
     refine hK9.out _ _ G4 (fun _ => ?_)
     clear hK9 K9 hcv
     refine tz 7 20 (.build 154 #[(0,(.tmp 16)),(1,(.tmp 17)),(2,(.tmp 19))]) (.agg EC.toArray) G4 ?_ (y:=(zbk (by rfl) _ _ rfl _ (Eq.trans (b:=Tryz.prog.built 154 [(0,.string N),(1,.bool D),(2,IV)]) (by kernel_rfl) (uh HBT))))
     (try simp only[pq])
     refine rdq 8 (some 21) (.buildSlice 150 1 #[(0,(.tmp 20))]) (fun K9 hK9 => ?_)
     obtain ⟨w5,hw5,hB5,g5⟩:=zah w4 154 EC
     refine za4 (by rfl) _ _ rfl _ _ rfl (hbs w4) ?_
     rw[← hw5]
     have G5:=tn G4 g5
     refine hK9.out _ _ G5 (fun _ => ?_)
     clear hK9 K9 hw5
     (try simp only[pq])
     have ho5:=zbh ho4 g5 (fun x e=>by cases e)
     have hR5:=hR4.kept g5 (Or.inl rfl)
     refine rdq 9 (some 22) (.call { callee := .builtin .append,args := #[(.tmp 13),(.tmp 21)],argTypes := #[150,150] }) (fun K9 hK9 => ?_)
     refine zbt (by rfl) _ _ rfl w.heap.size u3 _ _ rfl ho5 _ EC hB5 (uh HEL) (uh HE1) rfl hj100 G5.size ?_
     intro v6 w6 ho6 g6
     have G6:w.grownBy w6 (some rb):=zac G5 g6 (fun x e=>Or.inl (ho5.lt x e).1)
     have hR6:Rd w6 rb l3 e3:=hR5.keptTyp g6 (fun x e=>⟨by have:=(ho5.lt x e).1;omega,zbx ho5 e (by decide)⟩)
     refine hK9.out _ _ G6 (fun _ => ?_)
     clear hK9 K9 g6 ho5 hR5 hB5 g5
     refine tq 10 3 (.assign (.tmp 22)) v6 G6 ?_
     (try simp only[pq])
     refine wpAnyH_done (by kernel_rfl) ?_ _
     refine NoPanic.normal ?_
     obtain ⟨HR6,HO6⟩:=zh2 hR6 ho6
     clear hR6 ho6
     go_wp2
     go_roundw
     case rel =>
      refine ⟨j+1,_,l3,e3,by omega,by go_num,HRD,?_,uh HR6,G6⟩
      rw[List.length_append,uh HFL]
      exact uh HO6
     case measure=>simp[intOf];omega
   ·have hjm:j=m:=by omega
    have hfin:zb6 d=es:=by
     rw[uh HRT,← hjm,uh HE]
    have HF:=hide hfin
    clear hfin hjm
    go_wp2
    go_ret
    exact ⟨_,rfl,by rw[uh HF];exact ho,hg⟩
end Go.Proofs.YtegbbkgmiklhcaaGreatDoor
