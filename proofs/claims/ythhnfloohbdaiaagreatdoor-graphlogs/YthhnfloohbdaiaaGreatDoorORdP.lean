/- Lemmas. -/
import Derived.Test.YthhnfloohbdaiaaGreatDoorORdId
import Derived.Test.YthhnfloohbdaiaaGreatDoorOApp
import Derived.Test.YthhnfloohbdaiaaGreatDoorREq
namespace Go.Proofs.YthhnfloohbdaiaaGreatDoor
open Go.RowKit
set_option maxRecDepth 100000
theorem zka (s:List UInt8 × Int) (j:Nat):(runE s j).1.length=j:=by
 induction j with
 | zero=>rfl
 | succ j ih=>rw[runE,zfj];simp[ih]
theorem zuk (s:List UInt8 × Int) (j:Nat):∀ e∈(runE s j).1,e.id.length=32:=by
 induction j with
 | zero=>intro e he;simp[runE] at he
 | succ j ih =>
  intro e he
  rw[runE,zfj] at he
  simp only[List.mem_append,List.mem_singleton] at he
  rcases he with he | rfl
  ·exact ih e he
  ·exact zbu _ _
theorem zh8 (s:List UInt8 × Int) (j:Nat):(runE s j).2.1.length≤s.1.length:=by
 induction j with
 | zero=>exact Nat.le_refl _
 | succ j ih =>
  rw[runE,zfj]
  exact Nat.le_trans (zcu _ _ _) (Nat.le_trans (zbk _ _) (Nat.le_trans (zbr _ _ _) ih))
theorem zo1 (s:List UInt8 × Int) (j:Nat):∀ e∈(runE s j).1,e.name.length≤s.1.length:=by
 induction j with
 | zero=>intro e he;simp[runE] at he
 | succ j ih =>
  intro e he
  have h0:=zh8 s j
  rw[runE,zfj] at he
  simp only[List.mem_append,List.mem_singleton] at he
  rcases he with he | rfl
  ·exact ih e he
  ·exact Nat.le_trans (zcr _ _) (Nat.le_trans (zbr _ _ _) h0)
theorem zjh {s:List UInt8 × Int} {j:Nat} {es:List EntL} {l' : List UInt8} {e' : Int} (h:runE s j=(es,l',e')) {v1:Nat} {l1:List UInt8} {e1:Int} (h1:numS l' e' 1=(v1,l1,e1)) {x l2:List UInt8} {e2:Int} (h2:zap l1 e1=(x,l2,e2)) {y l3:List UInt8} {e3:Int} (h3:rawS l2 e2 32=(y,l3,e3)) :
  runE s (j+1)=(es++[⟨x,decide (v1=1),zc1 y⟩],l3,e3):=by
 rw[runE,h,zfj]
 simp only[h1,h2,h3]
set_option maxHeartbeats 4000000 in
theorem zk9 (w:World) (rb:Nat) (d:List UInt8) (hl:d.length≤1000000) (h:Rd w rb d 0) :
  Calls Tryz.prog 148 #[.pointer (some ⟨rb,0,none⟩)] w fun e w'=>∃ v,e = .returned v∧w'.ownsRow w.heap.size 123 34 v (zbz d).length ((zbz d).flatMap enC)∧w.grownBy w' (some rb):=by
 have hrb:=h.lt
 have cn:=zg6 w rb d 0 2 h
 have hll:=zbr d 0 2
 have hn6:=znn d 0
 have hRT:zbz d=(runE (numS d 0 2).2 (min (numS d 0 2).1 32)).1:=rfl
 obtain ⟨⟨n0,l0,e0⟩,ha⟩:∃ a,a=numS d 0 2:=⟨_,rfl⟩
 rw[← ha] at cn hll hn6 hRT
 simp only at cn hll hn6 hRT
 obtain ⟨m,hm⟩:∃ m,m=min n0 32:=⟨_,rfl⟩
 have hm32:m≤32:=by omega
 rw[← hm] at hRT
 have HRT:=hide hRT
 have HLL:=hide (Nat.le_trans hll hl)
 have hcase:(32<n0∧m=32)∨n0=m:=by omega
 clear ha hRT hll hl h hm
 rcases hcase with ⟨hc,hm⟩ | hm
 ·have hci:(32:Int)<(n0:Int):=by omega
  have h32:Value.int IntKind.u64 32=Value.int IntKind.u64 (m:Int):=by rw[hm];rfl
  have H32:=hide h32
  clear h32 hm hc
  go_enter Tryz.func148,Tryz.ntmps148
  go_wp2_with fail
  refine cn.mono ?_
  rintro e w1 ⟨rfl,hR1,g1⟩
  clear cn
  go_wp2
  rw[uh H32]
  clear H32 hci
  go_loopw [3,8] (fun v i wr=>∃ (j:Nat) (es:List EntL) (l' : List UInt8) (e' : Int),j≤m∧i = .int .u64 (j:Int)∧Hid (runE (l0,e0) j=(es,l',e'))∧wr.ownsRow w.heap.size 123 34 v es.length (es.flatMap enC)∧Rd wr rb l' e'∧w.grownBy wr (some rb)) (fun _ i _=>m - (intOf i).toNat)
  case atStart=>exact ⟨0,[],l0,e0,Nat.zero_le _,rfl,rfl,World.ownsRow_nil _ _ _ _,hR1,g1⟩
  case round =>
   obtain ⟨j,es,l',e',hj,rfl,HE,ho,hR,hg⟩:=hrel
   by_cases hlt:j<m
   ·have hel:es.length=j:=by have:=zka (l0,e0) j;rw[uh HE] at this;exact this
    have hlf:l'.length≤1000000:=by have:=zh8 (l0,e0) j;rw[uh HE] at this;exact Nat.le_trans this (uh HLL)
    have cn:=zg6 wr rb l' e' 1 hR
    have hl1:=zbr l' e' 1
    have hsl1:∀ l1 e1,(zap l1 e1).2.1.length≤l1.length:=zbk
    obtain ⟨⟨v1,l1,e1⟩,ha⟩:∃ a,a=numS l' e' 1:=⟨_,rfl⟩
    rw[← ha] at cn hl1
    simp only at cn hl1
    have H1:=hide ha.symm
    clear ha
    go_wp2_with fail
    refine cn.mono ?_
    rintro e w2 ⟨rfl,hR2,g2⟩
    have ho2:=zck ho g2 (fun x e=>by cases e;omega)
    have G2:w.grownBy w2 (some rb):=zae hg g2 (fun x e=>Or.inr e)
    clear cn hR hg ho g2
    go_upto_region 5 with fail
    have cs:∀ V,Rd V rb l1 e1→Calls Tryz.prog 90 #[.pointer (some ⟨rb,0,none⟩)] V fun e w'=>∃ v,e = .returned v∧NewB V w' v (zap l1 e1).1∧Rd w' rb (zap l1 e1).2.1 (zap l1 e1).2.2∧V.grownBy w' (some rb):=fun V hV=>zdu V rb l1 e1 (by omega) hV
    have hsz1:=zbk l1 e1
    obtain ⟨⟨x,l2,e2⟩,ha⟩:∃ a,a=zap l1 e1:=⟨_,rfl⟩
    rw[← ha] at cs hsz1
    simp only at cs hsz1
    have H2:=hide ha.symm
    clear ha
    have ci:∀ V,Rd V rb l2 e2→Calls Tryz.prog 88 #[.pointer (some ⟨rb,0,none⟩)] V fun e w'=>e = .returned (.agg ((zc1 (rawS l2 e2 32).1).map bv).toArray)∧Rd w' rb (rawS l2 e2 32).2.1 (rawS l2 e2 32).2.2∧V.grownBy w' (some rb):=fun V hV=>zdn V rb l2 e2 (by omega) hV
    have hy32:=zbu l2 e2
    obtain ⟨⟨y,l3,e3⟩,ha⟩:∃ a,a=rawS l2 e2 32:=⟨_,rfl⟩
    rw[← ha] at ci hy32
    simp only at ci hy32
    have H3:=hide ha.symm
    clear ha
    obtain ⟨D,hD⟩:∃ D,D=decide (v1=1):=⟨_,rfl⟩
    have hD2:((v1:Int) == 1)=D:=by rw[hD];by_cases q:v1=1 <;> simp[q] <;> omega
    have hrd:=zjh (uh HE) (uh H1) (uh H2) (uh H3)
    rw[← hD] at hrd
    obtain ⟨I,hI⟩:∃ I,I=zc1 y:=⟨_,rfl⟩
    rw[← hI] at ci hy32 hrd
    have hbt:=zk7 (str x) D I hy32
    have hbs:=zre (str x) D I hy32
    obtain ⟨IV,hIV⟩:∃ V,V=Value.agg (I.map bv).toArray:=⟨_,rfl⟩
    rw[← hIV] at ci hbt
    obtain ⟨EC,hEC⟩:∃ L,L=(Value.string (str x)::Value.bool D::I.map bv):=⟨_,rfl⟩
    rw[← hEC] at hbt hbs
    have hEe:EC=enC ⟨x,D,I⟩:=hEC
    have hEl:EC.length=34:=by rw[hEe];exact zgt _ hy32
    have hE1:∀ u∈EC,u.oneCell'=true:=by rw[hEe];exact zgu _
    have hfl:(es++[(⟨x,D,I⟩:EntL)]).flatMap enC=es.flatMap enC++EC:=by rw[hEe];simp
    obtain ⟨N,hN⟩:∃ N,N=str x:=⟨_,rfl⟩
    rw[← hN] at hbt
    obtain ⟨HN,HBT,HEL,HE1,HFL,HRD⟩:=zh6 hN hbt hEl hE1 hfl hrd
    have h0:w.grownBy w2.drew (some rb):=zak G2
    have hRd:Rd w2.drew rb l1 e1:=hR2.kept (zak (zab _ none)) (Or.inl rfl)
    have hod:w2.drew.ownsRow w.heap.size 123 34 u3 es.length (es.flatMap enC):=zck ho2 (zak (zab _ none)) (fun x e=>by cases e)
    have hj100:es.length≤100000:=by omega
    clear hD hI hIV hEC hEe hEl hE1 hfl hN hbt hrd hy32 hsz1 hl1 hsl1 ho2 hR2 G2 HE H1 H2 H3 hlf hel
    try rw[hD2]
    clear hD2
    refine wp_region_noPanic ?_
    refine wp_region_held_drew (S:=fun V=>w.grownBy V (some rb)) (by kernel_rfl) h0 (fun _ => ?_)
    refine tq 0 13 (.move (.tmp 3)) u3 h0 ?_
    refine tq 1 14 (.move (.tmp 0)) (.pointer (some ⟨rb,0,none⟩)) h0 ?_
    refine tq 4 17 (.move (.tmp 4)) (.bool D) h0 ?_
    refine tq 5 18 (.move (.tmp 0)) (.pointer (some ⟨rb,0,none⟩)) h0 ?_
    (try simp only[pq])
    refine rd 2 (some 15) (.call { callee := .value (.func 90),args := #[(.tmp 14)],argTypes := #[115] }) (fun K9 hK9 => ?_)
    go_simp
    go_at_call 90
    refine (cs _ hRd).mono ?_
    rintro e w3 ⟨v3,rfl,⟨ao,c,rfl,hb3,hn3⟩,hR3,g3⟩
    have G3:w.grownBy w3 (some rb):=zae h0 g3 (fun x e=>Or.inr e)
    go_wp2_with fail
    refine hK9.out _ _ G3 (fun _ => ?_)
    clear hK9 K9
    (try simp only[pq])
    have hs0:w.heap.size≤w2.drew.heap.size:=h0.size
    have ho3:=zck hod g3 (fun x e=>by cases e;exact hrb)
    have hof:Off ao rb:=fun ad e e2=>by have:=(hn3 ad e).1;omega
    clear hod g3 cs hRd hs0
    refine wpAnyH_ready (rs:=[3,6]) (by kernel_rfl) (by simp) ?_
    refine AllReadyH.cons (o:=⟨some 16,.convert 37 9 (.tmp 15),_,_,_,_⟩) rfl (fun K9 hK9 => ?_) (AllReadyH.cons (o:=⟨some 19,.call { callee := .value (.func 88),args := #[(.tmp 18)],argTypes := #[115] },_,_,_,_⟩) rfl (fun K9 hK9 => ?_) AllReadyH.nil)
    ·have hcv:=zaz hb3
     rw[← uh HN] at hcv
     go_simp
     refine hK9.out _ _ G3 (fun _ => ?_)
     clear hK9 K9 hcv
     (try simp only[pq])
     refine rd 6 (some 19) (.call { callee := .value (.func 88),args := #[(.tmp 18)],argTypes := #[115] }) (fun K9 hK9 => ?_)
     go_simp
     go_at_call 88
     refine (ci _ hR3).mono ?_
     rintro e w4 ⟨rfl,hR4,g4⟩
     have G4:w.grownBy w4 (some rb):=zae G3 g4 (fun x e=>Or.inr e)
     go_wp2_with fail
     refine hK9.out _ _ G4 (fun _ => ?_)
     clear hK9 K9
     (try simp only[pq])
     have ho4:=zck ho3 g4 (fun x e=>by cases e;exact hrb)
     clear ci hR3 ho3 g4
     refine tz 7 20 (.build 123 #[(0,(.tmp 16)),(1,(.tmp 17)),(2,(.tmp 19))]) (.agg EC.toArray) G4 ?_ (y:=(zbe (by rfl) _ _ rfl _ (Eq.trans (b:=Tryz.prog.built 123 [(0,.string N),(1,.bool D),(2,IV)]) (by kernel_rfl) (uh HBT))))
     (try simp only[pq])
     refine rd 8 (some 21) (.buildSlice 121 1 #[(0,(.tmp 20))]) (fun K9 hK9 => ?_)
     obtain ⟨w5,hw5,hB5,g5⟩:=zag w4 123 EC
     refine zar (by rfl) _ _ rfl _ _ rfl (hbs w4) ?_
     rw[← hw5]
     have G5:=tn G4 g5
     refine hK9.out _ _ G5 (fun _ => ?_)
     clear hK9 K9 hw5
     (try simp only[pq])
     have ho5:=zck ho4 g5 (fun x e=>by cases e)
     have hR5:=hR4.kept g5 (Or.inl rfl)
     refine rd 9 (some 22) (.call { callee := .builtin .append,args := #[(.tmp 13),(.tmp 21)],argTypes := #[121,121] }) (fun K9 hK9 => ?_)
     refine zcj (by rfl) _ _ rfl w.heap.size u3 _ _ rfl ho5 _ EC hB5 (uh HEL) (uh HE1) rfl hj100 G5.size ?_
     intro v6 w6 ho6 g6
     have G6:w.grownBy w6 (some rb):=zae G5 g6 (fun x e=>Or.inl (ho5.lt x e).1)
     have hR6:Rd w6 rb l3 e3:=hR5.keptTyp g6 (fun x e=>⟨by have:=(ho5.lt x e).1;omega,zcw ho5 e (by decide)⟩)
     refine hK9.out _ _ G6 (fun _ => ?_)
     clear hK9 K9 g6 ho5 hR5 hB5 g5
     refine tq 10 3 (.assign (.tmp 22)) v6 G6 ?_
     (try simp only[pq])
     refine wpAnyH_done (by kernel_rfl) ?_ _
     refine NoPanic.normal ?_
     obtain ⟨HR6,HO6⟩:=zh2 hR6 ho6
     clear hR6 ho6
     go_wp2
     go_roundw
     case rel =>
      refine ⟨j+1,_,l3,e3,by omega,by go_num,HRD,?_,uh HR6,G6⟩
      rw[List.length_append,uh HFL]
      exact uh HO6
     case measure=>simp[intOf];omega
    ·go_simp
     go_at_call 88
     refine (ci _ hR3).mono ?_
     rintro e w4 ⟨rfl,hR4,g4⟩
     have G4:w.grownBy w4 (some rb):=zae G3 g4 (fun x e=>Or.inr e)
     go_wp2_with fail
     refine hK9.out _ _ G4 (fun _ => ?_)
     clear hK9 K9
     (try simp only[pq])
     have ho4:=zck ho3 g4 (fun x e=>by cases e;exact hrb)
     have hb4:=hb3.kept g4 (fun x e=>by cases e;exact hof)
     clear ci hR3 ho3 g4
     refine rd 3 (some 16) (.convert 37 9 (.tmp 15)) (fun K9 hK9 => ?_)
     have hcv:=zaz hb4
     rw[← uh HN] at hcv
     go_simp
     refine hK9.out _ _ G4 (fun _ => ?_)
     clear hK9 K9 hcv
     refine tz 7 20 (.build 123 #[(0,(.tmp 16)),(1,(.tmp 17)),(2,(.tmp 19))]) (.agg EC.toArray) G4 ?_ (y:=(zbe (by rfl) _ _ rfl _ (Eq.trans (b:=Tryz.prog.built 123 [(0,.string N),(1,.bool D),(2,IV)]) (by kernel_rfl) (uh HBT))))
     (try simp only[pq])
     refine rd 8 (some 21) (.buildSlice 121 1 #[(0,(.tmp 20))]) (fun K9 hK9 => ?_)
     obtain ⟨w5,hw5,hB5,g5⟩:=zag w4 123 EC
     refine zar (by rfl) _ _ rfl _ _ rfl (hbs w4) ?_
     rw[← hw5]
     have G5:=tn G4 g5
     refine hK9.out _ _ G5 (fun _ => ?_)
     clear hK9 K9 hw5
     (try simp only[pq])
     have ho5:=zck ho4 g5 (fun x e=>by cases e)
     have hR5:=hR4.kept g5 (Or.inl rfl)
     refine rd 9 (some 22) (.call { callee := .builtin .append,args := #[(.tmp 13),(.tmp 21)],argTypes := #[121,121] }) (fun K9 hK9 => ?_)
     refine zcj (by rfl) _ _ rfl w.heap.size u3 _ _ rfl ho5 _ EC hB5 (uh HEL) (uh HE1) rfl hj100 G5.size ?_
     intro v6 w6 ho6 g6
     have G6:w.grownBy w6 (some rb):=zae G5 g6 (fun x e=>Or.inl (ho5.lt x e).1)
     have hR6:Rd w6 rb l3 e3:=hR5.keptTyp g6 (fun x e=>⟨by have:=(ho5.lt x e).1;omega,zcw ho5 e (by decide)⟩)
     refine hK9.out _ _ G6 (fun _ => ?_)
     clear hK9 K9 g6 ho5 hR5 hB5 g5
     refine tq 10 3 (.assign (.tmp 22)) v6 G6 ?_
     (try simp only[pq])
     refine wpAnyH_done (by kernel_rfl) ?_ _
     refine NoPanic.normal ?_
     obtain ⟨HR6,HO6⟩:=zh2 hR6 ho6
     clear hR6 ho6
     go_wp2
     go_roundw
     case rel =>
      refine ⟨j+1,_,l3,e3,by omega,by go_num,HRD,?_,uh HR6,G6⟩
      rw[List.length_append,uh HFL]
      exact uh HO6
     case measure=>simp[intOf];omega
   ·have hjm:j=m:=by omega
    have hfin:zbz d=es:=by
     rw[uh HRT,← hjm,uh HE]
    have HF:=hide hfin
    clear hfin hjm
    go_wp2
    go_ret
    exact ⟨_,rfl,by rw[uh HF];exact ho,hg⟩
 ·subst n0
  have hci:¬ (32:Int)<(m:Int):=by omega
  go_enter Tryz.func148,Tryz.ntmps148
  go_wp2_with fail
  refine cn.mono ?_
  rintro e w1 ⟨rfl,hR1,g1⟩
  clear cn
  go_wp2
  clear hci
  go_loopw [3,8] (fun v i wr=>∃ (j:Nat) (es:List EntL) (l' : List UInt8) (e' : Int),j≤m∧i = .int .u64 (j:Int)∧Hid (runE (l0,e0) j=(es,l',e'))∧wr.ownsRow w.heap.size 123 34 v es.length (es.flatMap enC)∧Rd wr rb l' e'∧w.grownBy wr (some rb)) (fun _ i _=>m - (intOf i).toNat)
  case atStart=>exact ⟨0,[],l0,e0,Nat.zero_le _,rfl,rfl,World.ownsRow_nil _ _ _ _,hR1,g1⟩
  case round =>
   obtain ⟨j,es,l',e',hj,rfl,HE,ho,hR,hg⟩:=hrel
   by_cases hlt:j<m
   ·have hel:es.length=j:=by have:=zka (l0,e0) j;rw[uh HE] at this;exact this
    have hlf:l'.length≤1000000:=by have:=zh8 (l0,e0) j;rw[uh HE] at this;exact Nat.le_trans this (uh HLL)
    have cn:=zg6 wr rb l' e' 1 hR
    have hl1:=zbr l' e' 1
    have hsl1:∀ l1 e1,(zap l1 e1).2.1.length≤l1.length:=zbk
    obtain ⟨⟨v1,l1,e1⟩,ha⟩:∃ a,a=numS l' e' 1:=⟨_,rfl⟩
    rw[← ha] at cn hl1
    simp only at cn hl1
    have H1:=hide ha.symm
    clear ha
    go_wp2_with fail
    refine cn.mono ?_
    rintro e w2 ⟨rfl,hR2,g2⟩
    have ho2:=zck ho g2 (fun x e=>by cases e;omega)
    have G2:w.grownBy w2 (some rb):=zae hg g2 (fun x e=>Or.inr e)
    clear cn hR hg ho g2
    go_upto_region 5 with fail
    have cs:∀ V,Rd V rb l1 e1→Calls Tryz.prog 90 #[.pointer (some ⟨rb,0,none⟩)] V fun e w'=>∃ v,e = .returned v∧NewB V w' v (zap l1 e1).1∧Rd w' rb (zap l1 e1).2.1 (zap l1 e1).2.2∧V.grownBy w' (some rb):=fun V hV=>zdu V rb l1 e1 (by omega) hV
    have hsz1:=zbk l1 e1
    obtain ⟨⟨x,l2,e2⟩,ha⟩:∃ a,a=zap l1 e1:=⟨_,rfl⟩
    rw[← ha] at cs hsz1
    simp only at cs hsz1
    have H2:=hide ha.symm
    clear ha
    have ci:∀ V,Rd V rb l2 e2→Calls Tryz.prog 88 #[.pointer (some ⟨rb,0,none⟩)] V fun e w'=>e = .returned (.agg ((zc1 (rawS l2 e2 32).1).map bv).toArray)∧Rd w' rb (rawS l2 e2 32).2.1 (rawS l2 e2 32).2.2∧V.grownBy w' (some rb):=fun V hV=>zdn V rb l2 e2 (by omega) hV
    have hy32:=zbu l2 e2
    obtain ⟨⟨y,l3,e3⟩,ha⟩:∃ a,a=rawS l2 e2 32:=⟨_,rfl⟩
    rw[← ha] at ci hy32
    simp only at ci hy32
    have H3:=hide ha.symm
    clear ha
    obtain ⟨D,hD⟩:∃ D,D=decide (v1=1):=⟨_,rfl⟩
    have hD2:((v1:Int) == 1)=D:=by rw[hD];by_cases q:v1=1 <;> simp[q] <;> omega
    have hrd:=zjh (uh HE) (uh H1) (uh H2) (uh H3)
    rw[← hD] at hrd
    obtain ⟨I,hI⟩:∃ I,I=zc1 y:=⟨_,rfl⟩
    rw[← hI] at ci hy32 hrd
    have hbt:=zk7 (str x) D I hy32
    have hbs:=zre (str x) D I hy32
    obtain ⟨IV,hIV⟩:∃ V,V=Value.agg (I.map bv).toArray:=⟨_,rfl⟩
    rw[← hIV] at ci hbt
    obtain ⟨EC,hEC⟩:∃ L,L=(Value.string (str x)::Value.bool D::I.map bv):=⟨_,rfl⟩
    rw[← hEC] at hbt hbs
    have hEe:EC=enC ⟨x,D,I⟩:=hEC
    have hEl:EC.length=34:=by rw[hEe];exact zgt _ hy32
    have hE1:∀ u∈EC,u.oneCell'=true:=by rw[hEe];exact zgu _
    have hfl:(es++[(⟨x,D,I⟩:EntL)]).flatMap enC=es.flatMap enC++EC:=by rw[hEe];simp
    obtain ⟨N,hN⟩:∃ N,N=str x:=⟨_,rfl⟩
    rw[← hN] at hbt
    obtain ⟨HN,HBT,HEL,HE1,HFL,HRD⟩:=zh6 hN hbt hEl hE1 hfl hrd
    have h0:w.grownBy w2.drew (some rb):=zak G2
    have hRd:Rd w2.drew rb l1 e1:=hR2.kept (zak (zab _ none)) (Or.inl rfl)
    have hod:w2.drew.ownsRow w.heap.size 123 34 u3 es.length (es.flatMap enC):=zck ho2 (zak (zab _ none)) (fun x e=>by cases e)
    have hj100:es.length≤100000:=by omega
    clear hD hI hIV hEC hEe hEl hE1 hfl hN hbt hrd hy32 hsz1 hl1 hsl1 ho2 hR2 G2 HE H1 H2 H3 hlf hel
    try rw[hD2]
    clear hD2
    refine wp_region_noPanic ?_
    refine wp_region_held_drew (S:=fun V=>w.grownBy V (some rb)) (by kernel_rfl) h0 (fun _ => ?_)
    refine tq 0 13 (.move (.tmp 3)) u3 h0 ?_
    refine tq 1 14 (.move (.tmp 0)) (.pointer (some ⟨rb,0,none⟩)) h0 ?_
    refine tq 4 17 (.move (.tmp 4)) (.bool D) h0 ?_
    refine tq 5 18 (.move (.tmp 0)) (.pointer (some ⟨rb,0,none⟩)) h0 ?_
    (try simp only[pq])
    refine rd 2 (some 15) (.call { callee := .value (.func 90),args := #[(.tmp 14)],argTypes := #[115] }) (fun K9 hK9 => ?_)
    go_simp
    go_at_call 90
    refine (cs _ hRd).mono ?_
    rintro e w3 ⟨v3,rfl,⟨ao,c,rfl,hb3,hn3⟩,hR3,g3⟩
    have G3:w.grownBy w3 (some rb):=zae h0 g3 (fun x e=>Or.inr e)
    go_wp2_with fail
    refine hK9.out _ _ G3 (fun _ => ?_)
    clear hK9 K9
    (try simp only[pq])
    have hs0:w.heap.size≤w2.drew.heap.size:=h0.size
    have ho3:=zck hod g3 (fun x e=>by cases e;exact hrb)
    have hof:Off ao rb:=fun ad e e2=>by have:=(hn3 ad e).1;omega
    clear hod g3 cs hRd hs0
    refine wpAnyH_ready (rs:=[3,6]) (by kernel_rfl) (by simp) ?_
    refine AllReadyH.cons (o:=⟨some 16,.convert 37 9 (.tmp 15),_,_,_,_⟩) rfl (fun K9 hK9 => ?_) (AllReadyH.cons (o:=⟨some 19,.call { callee := .value (.func 88),args := #[(.tmp 18)],argTypes := #[115] },_,_,_,_⟩) rfl (fun K9 hK9 => ?_) AllReadyH.nil)
    ·have hcv:=zaz hb3
     rw[← uh HN] at hcv
     go_simp
     refine hK9.out _ _ G3 (fun _ => ?_)
     clear hK9 K9 hcv
     (try simp only[pq])
     refine rd 6 (some 19) (.call { callee := .value (.func 88),args := #[(.tmp 18)],argTypes := #[115] }) (fun K9 hK9 => ?_)
     go_simp
     go_at_call 88
     refine (ci _ hR3).mono ?_
     rintro e w4 ⟨rfl,hR4,g4⟩
     have G4:w.grownBy w4 (some rb):=zae G3 g4 (fun x e=>Or.inr e)
     go_wp2_with fail
     refine hK9.out _ _ G4 (fun _ => ?_)
     clear hK9 K9
     (try simp only[pq])
     have ho4:=zck ho3 g4 (fun x e=>by cases e;exact hrb)
     clear ci hR3 ho3 g4
     refine tz 7 20 (.build 123 #[(0,(.tmp 16)),(1,(.tmp 17)),(2,(.tmp 19))]) (.agg EC.toArray) G4 ?_ (y:=(zbe (by rfl) _ _ rfl _ (Eq.trans (b:=Tryz.prog.built 123 [(0,.string N),(1,.bool D),(2,IV)]) (by kernel_rfl) (uh HBT))))
     (try simp only[pq])
     refine rd 8 (some 21) (.buildSlice 121 1 #[(0,(.tmp 20))]) (fun K9 hK9 => ?_)
     obtain ⟨w5,hw5,hB5,g5⟩:=zag w4 123 EC
     refine zar (by rfl) _ _ rfl _ _ rfl (hbs w4) ?_
     rw[← hw5]
     have G5:=tn G4 g5
     refine hK9.out _ _ G5 (fun _ => ?_)
     clear hK9 K9 hw5
     (try simp only[pq])
     have ho5:=zck ho4 g5 (fun x e=>by cases e)
     have hR5:=hR4.kept g5 (Or.inl rfl)
     refine rd 9 (some 22) (.call { callee := .builtin .append,args := #[(.tmp 13),(.tmp 21)],argTypes := #[121,121] }) (fun K9 hK9 => ?_)
     refine zcj (by rfl) _ _ rfl w.heap.size u3 _ _ rfl ho5 _ EC hB5 (uh HEL) (uh HE1) rfl hj100 G5.size ?_
     intro v6 w6 ho6 g6
     have G6:w.grownBy w6 (some rb):=zae G5 g6 (fun x e=>Or.inl (ho5.lt x e).1)
     have hR6:Rd w6 rb l3 e3:=hR5.keptTyp g6 (fun x e=>⟨by have:=(ho5.lt x e).1;omega,zcw ho5 e (by decide)⟩)
     refine hK9.out _ _ G6 (fun _ => ?_)
     clear hK9 K9 g6 ho5 hR5 hB5 g5
     refine tq 10 3 (.assign (.tmp 22)) v6 G6 ?_
     (try simp only[pq])
     refine wpAnyH_done (by kernel_rfl) ?_ _
     refine NoPanic.normal ?_
     obtain ⟨HR6,HO6⟩:=zh2 hR6 ho6
     clear hR6 ho6
     go_wp2
     go_roundw
     case rel =>
      refine ⟨j+1,_,l3,e3,by omega,by go_num,HRD,?_,uh HR6,G6⟩
      rw[List.length_append,uh HFL]
      exact uh HO6
     case measure=>simp[intOf];omega
    ·go_simp
     go_at_call 88
     refine (ci _ hR3).mono ?_
     rintro e w4 ⟨rfl,hR4,g4⟩
     have G4:w.grownBy w4 (some rb):=zae G3 g4 (fun x e=>Or.inr e)
     go_wp2_with fail
     refine hK9.out _ _ G4 (fun _ => ?_)
     clear hK9 K9
     (try simp only[pq])
     have ho4:=zck ho3 g4 (fun x e=>by cases e;exact hrb)
     have hb4:=hb3.kept g4 (fun x e=>by cases e;exact hof)
     clear ci hR3 ho3 g4
     refine rd 3 (some 16) (.convert 37 9 (.tmp 15)) (fun K9 hK9 => ?_)
     have hcv:=zaz hb4
     rw[← uh HN] at hcv
     go_simp
     refine hK9.out _ _ G4 (fun _ => ?_)
     clear hK9 K9 hcv
     refine tz 7 20 (.build 123 #[(0,(.tmp 16)),(1,(.tmp 17)),(2,(.tmp 19))]) (.agg EC.toArray) G4 ?_ (y:=(zbe (by rfl) _ _ rfl _ (Eq.trans (b:=Tryz.prog.built 123 [(0,.string N),(1,.bool D),(2,IV)]) (by kernel_rfl) (uh HBT))))
     (try simp only[pq])
     refine rd 8 (some 21) (.buildSlice 121 1 #[(0,(.tmp 20))]) (fun K9 hK9 => ?_)
     obtain ⟨w5,hw5,hB5,g5⟩:=zag w4 123 EC
     refine zar (by rfl) _ _ rfl _ _ rfl (hbs w4) ?_
     rw[← hw5]
     have G5:=tn G4 g5
     refine hK9.out _ _ G5 (fun _ => ?_)
     clear hK9 K9 hw5
     (try simp only[pq])
     have ho5:=zck ho4 g5 (fun x e=>by cases e)
     have hR5:=hR4.kept g5 (Or.inl rfl)
     refine rd 9 (some 22) (.call { callee := .builtin .append,args := #[(.tmp 13),(.tmp 21)],argTypes := #[121,121] }) (fun K9 hK9 => ?_)
     refine zcj (by rfl) _ _ rfl w.heap.size u3 _ _ rfl ho5 _ EC hB5 (uh HEL) (uh HE1) rfl hj100 G5.size ?_
     intro v6 w6 ho6 g6
     have G6:w.grownBy w6 (some rb):=zae G5 g6 (fun x e=>Or.inl (ho5.lt x e).1)
     have hR6:Rd w6 rb l3 e3:=hR5.keptTyp g6 (fun x e=>⟨by have:=(ho5.lt x e).1;omega,zcw ho5 e (by decide)⟩)
     refine hK9.out _ _ G6 (fun _ => ?_)
     clear hK9 K9 g6 ho5 hR5 hB5 g5
     refine tq 10 3 (.assign (.tmp 22)) v6 G6 ?_
     (try simp only[pq])
     refine wpAnyH_done (by kernel_rfl) ?_ _
     refine NoPanic.normal ?_
     obtain ⟨HR6,HO6⟩:=zh2 hR6 ho6
     clear hR6 ho6
     go_wp2
     go_roundw
     case rel =>
      refine ⟨j+1,_,l3,e3,by omega,by go_num,HRD,?_,uh HR6,G6⟩
      rw[List.length_append,uh HFL]
      exact uh HO6
     case measure=>simp[intOf];omega
   ·have hjm:j=m:=by omega
    have hfin:zbz d=es:=by
     rw[uh HRT,← hjm,uh HE]
    have HF:=hide hfin
    clear hfin hjm
    go_wp2
    go_ret
    exact ⟨_,rfl,by rw[uh HF];exact ho,hg⟩
def chR (t:List UInt8) (v:Value) (n:Nat) (a x:List UInt8):List Value:=t.map bv++[v,.int .u64 (n:Int),.string (str a),.string (str x)]
theorem zxb (c:ChgL) (po:Option Addr) (pc:Nat):chC c po pc=chR c.tree (.slice po c.pars.length pc) c.time c.author c.text:=rfl
theorem zgv (t:List UInt8) (v:Value) (n:Nat) (a x:List UInt8) (h:t.length=32):(chR t v n a x).length=36:=by simp[chR,h]
theorem zcs (t:List UInt8) (v:Value) (n:Nat) (a x:List UInt8) (h:t.length=32):(chR t v n a x)[32]? = some v∧(chR t v n a x)[33]? = some (.int .u64 (n:Int))∧(chR t v n a x)[34]? = some (.string (str a))∧(chR t v n a x)[35]? = some (.string (str x)):=by
 have hl:(t.map bv).length=32:=by simp[h]
 unfold chR
 refine ⟨?_,?_,?_,?_⟩ <;> rw[List.getElem?_append_right (by omega),hl] <;> rfl
theorem zc0 (t:List UInt8) (v v' : Value) (n n' : Nat) (a a' x x' : List UInt8) (h:t.length=32):(chR t v n a x).set 32 v'=chR t v' n a x∧(chR t v n a x).set 33 (.int .u64 (n' : Int))=chR t v n' a x∧(chR t v n a x).set 34 (.string (str a'))=chR t v n a' x∧(chR t v n a x).set 35 (.string (str x'))=chR t v n a x':=by
 have hl:(t.map bv).length=32:=by simp[h]
 unfold chR
 refine ⟨?_,?_,?_,?_⟩ <;> rw[List.set_append_right _ _ (by omega),hl] <;> rfl
theorem zgw (t:List UInt8) (v:Value) (n:Nat) (a x:List UInt8) (hv:v.oneCell'=true):∀ u∈chR t v n a x,u.oneCell'=true:=by
 intro u hu
 simp only[chR,List.mem_append,List.mem_cons,List.not_mem_nil,or_false] at hu
 rcases hu with hu | rfl | rfl | rfl | rfl
 ·exact za6 _ u hu
 ·exact hv
 all_goals rfl
theorem Rd.blk {w:World} {rb p:Nat} {l:List UInt8} {e:Int} {cs:List Value} {t:TypeId} (h:Rd w rb l e) (hB:Blk w p t cs) (ht:t≠5) (hp:p≠rb) (j:Nat) (v:Value):Rd (w.setCell ⟨p,j,none⟩ v) rb l e :=
 h.keptTyp (zcp w p j v) (fun x e=>by cases e;exact ⟨hp,hB.typ ht⟩)
theorem zkb (s:List UInt8 × Int) (j:Nat):(runP s j).1.length=j:=by
 induction j with
 | zero=>rfl
 | succ j ih=>rw[runP,zj3];simp[ih]
theorem zul (s:List UInt8 × Int) (j:Nat):∀ x∈(runP s j).1,x.length=32:=by
 induction j with
 | zero=>intro e he;simp[runP] at he
 | succ j ih =>
  intro e he
  rw[runP,zj3] at he
  simp only[List.mem_append,List.mem_singleton] at he
  rcases he with he | rfl
  ·exact ih e he
  ·exact zbu _ _
theorem zex (s:List UInt8 × Int) (j:Nat):(runP s j).2.1.length≤s.1.length:=by
 induction j with
 | zero=>exact Nat.le_refl _
 | succ j ih =>
  rw[runP,zj3]
  exact Nat.le_trans (zcu _ _ _) ih
theorem zji {s:List UInt8 × Int} {j:Nat} {ps:List (List UInt8)} {l' : List UInt8} {e' : Int} (h:runP s j=(ps,l',e')) {y l3:List UInt8} {e3:Int} (h3:rawS l' e' 32=(y,l3,e3)):runP s (j+1)=(ps++[zc1 y],l3,e3):=by
 rw[runP,h,zj3]
 simp only[h3]
theorem zh9 (w:World):(zeroValue 70).run Tryz.prog w = .ok (.agg (chR (List.replicate 32 0) (.slice none 0 0) 0 [] []).toArray) w:=by kernel_rfl
set_option maxHeartbeats 4000000 in
theorem zmf (w:World) (rb:Nat) (d:List UInt8) (hl:d.length≤1000000) (h:Rd w rb d 0) :
  Calls Tryz.prog 62 #[.int .i64 4,.pointer (some ⟨rb,0,none⟩)] w fun e w'=>e = .returned (.agg (chR (zb2 d).target (.slice none 0 0) 0 (zb2 d).name (zb2 d).text).toArray)∧w.grownBy w' (some rb):=by
 have hRM:zb2 d=⟨zc1 (rawS d 0 32).1,(zap (rawS d 0 32).2.1 (rawS d 0 32).2.2).1,(zap (zap (rawS d 0 32).2.1 (rawS d 0 32).2.2).2.1 (zap (rawS d 0 32).2.1 (rawS d 0 32).2.2).2.2).1⟩:=rfl
 rw[hRM]
 clear hRM
 simp only
 have hrb:=h.lt
 obtain ⟨Z,hZ⟩:∃ Z:List Value,Z=chR (List.replicate 32 0) (.slice none 0 0) 0 [] []:=⟨_,rfl⟩
 have hzv:∀ w,(zeroValue 70).run Tryz.prog w = .ok (.agg Z.toArray) w:=fun w=>by rw[hZ];exact zh9 w
 have hZl:Z.length=36:=by rw[hZ];rfl
 obtain ⟨W1,hW1,hB1,g1⟩:∃ W1,W1=w.alloc (.cells Z.toArray 70)∧Blk W1 w.heap.size 70 Z∧w.grownBy W1 none:=zag w _ _
 have ci:=zdn W1 rb d 0 (by omega) (h.kept g1 (Or.inl rfl))
 have hl1:=zcu d 0 32
 have hT32:=zbu d 0
 obtain ⟨⟨t0,l1,e1⟩,ha⟩:∃ a,a=rawS d 0 32:=⟨_,rfl⟩
 rw[← ha] at ci hl1 hT32 ⊢
 simp only at ci hl1 hT32 ⊢
 clear ha
 obtain ⟨T,hT⟩:∃ T,T=zc1 t0:=⟨_,rfl⟩
 rw[← hT] at ci hT32 ⊢
 have hbt:Tryz.prog.built 70 [(0,.agg (T.map bv).toArray)]=some (chR T (.slice none 0 0) 0 [] []).toArray:=zjg T hT32
 obtain ⟨TV,hTV⟩:∃ V,V=Value.agg (T.map bv).toArray:=⟨_,rfl⟩
 rw[← hTV] at ci hbt
 obtain ⟨CB,hCB⟩:∃ L,L=chR T (.slice none 0 0) 0 [] []:=⟨_,rfl⟩
 rw[← hCB] at hbt
 have hCl:CB.length=36:=by rw[hCB];exact zgv _ _ _ _ _ hT32
 have hCo:CB.toArray.all (·.oneCell')=true:=by rw[hCB];exact all_oneCell_toArray (zgw _ _ _ _ _ rfl)
 obtain ⟨HW1,HB1,HG1,HZL,HBT,HCB⟩:=zh6 hW1 hB1 g1 hZl hbt hCB
 obtain ⟨HCO,HCL,HT32⟩:=zh3 hCo hCl hT32
 clear hZ hZl hW1 hB1 g1 hT hbt hTV hCB hCl hCo hT32 h
 obtain ⟨la,hla⟩:∃ l,l=l1:=⟨_,rfl⟩
 obtain ⟨ea,hea⟩:∃ e,e=e1:=⟨_,rfl⟩
 rw[← hla] at hl1
 rw[← hla,← hea] at ci ⊢
 clear hla hea
 obtain ⟨⟨nm,lb1,eb1⟩,hnm⟩:∃ a,a=zap la ea:=⟨_,rfl⟩
 have hlb:=zbk la ea
 rw[← hnm] at hlb ⊢
 simp only at hlb ⊢
 obtain ⟨⟨tx,lc1,ec1⟩,htx⟩:∃ a,a=zap lb1 eb1:=⟨_,rfl⟩
 rw[← htx]
 simp only
 obtain ⟨HNM,HTX⟩:=zh2 hnm htx
 clear hnm htx
 go_enter Tryz.func62,Tryz.ntmps62
 go_wp2_with (rw[← uh HW1])
 refine ci.mono ?_
 rintro e w2 ⟨rfl,hR2,g2⟩
 clear ci
 obtain ⟨W3,hW3,hB3,g3⟩:=zbl w2 70 Z.toArray CB
 have G2:w.grownBy w2 (some rb):=zae (zaw _ (uh HG1)) g2 (fun x e=>Or.inr e)
 have hA2:=(uh HB1).kept g2 (by simp;omega)
 have HA3:=hide (hA2.kept g3 (by simp))
 have HR3:=hide (hR2.kept g3 (Or.inl rfl))
 have HG3:=hide (tn G2 g3)
 have hps:w.heap.size<w2.heap.size:=hA2.lt
 have hp2:rb<w2.heap.size:=hR2.lt
 obtain ⟨p,hp⟩:∃ p,p=w2.heap.size:=⟨_,rfl⟩
 rw[← hp] at hB3 hps hp2 hW3
 have HB3:Hid (Blk W3 p 70 (chR T (.slice none 0 0) 0 [] [])):=by rw[← uh HCB];exact hB3
 obtain ⟨HP,HW3⟩:=zh2 hp hW3
 have hi36:(Tryz.prog.info? 70).map (·.size)=some CB.toArray.size:=by rw[show CB.toArray.size=36 by simpa using uh HCL];exact zbv
 have HI36:=hide hi36
 have hZ36:Z.toArray.size=CB.toArray.size:=by rw[show CB.toArray.size=36 by simpa using uh HCL];simpa using uh HZL
 have HZ36:=hide hZ36
 clear hW3 hB3 g3 G2 hA2 hR2 g2 hp hi36 hZ36
 go_wp2_with (first
  | (refine za4 rfl 70 _ rfl CB.toArray ?hbs ?_)
  | (refine wpList_store_row rfl 70 _ _ rfl w2.heap.size CB.toArray rfl rfl _ _ (heap_alloc_new _ _) (uh HI36) (uh HZ36) (uh HCO) ?_;rw[← uh HP,← uh HW3]))
 case hbs=>simpa using uh HBT
 obtain ⟨wa,hwa⟩:∃ V,V=W3:=⟨_,rfl⟩
 obtain ⟨TM,hTM⟩:∃ n:Nat,n=0:=⟨_,rfl⟩
 obtain ⟨PV,hPV⟩:∃ V:Value,V = .slice none 0 0:=⟨_,rfl⟩
 have hPo:PV.oneCell'=true:=by rw[hPV];rfl
 have hBa:Blk wa p 70 (chR T PV TM [] []):=by rw[hwa,hTM,hPV];exact uh HB3
 have hAa:Blk wa w.heap.size 70 Z:=by rw[hwa];exact uh HA3
 have hRa:Rd wa rb la ea:=by rw[hwa];exact uh HR3
 have Ga:w.grownBy wa (some rb):=by rw[hwa];exact uh HG3
 obtain ⟨HWA,HTM,HPV⟩:=zh3 hwa hTM hPV
 clear hwa hTM hPV HB3 HA3 HR3 HG3
 have cs1:=zdu wa rb la ea (by omega) hRa
 rw[← uh HWA]
 rw[← uh HNM] at cs1
 simp only at cs1
 refine cs1.mono ?_
 rintro e wb1 ⟨v1,rfl,⟨ao1,k1,rfl,hb1,hn1⟩,hR1,g1⟩
 have hcv1:=zaz hb1
 have hBb1:=hBa.kept g1 (by simp;omega)
 have hAb1:=hAa.kept g1 (by simp;omega)
 have Gb1:w.grownBy wb1 (some rb):=zae Ga g1 (fun x e=>Or.inr e)
 have hc1:=hBb1.cell 34
 rw[(zcs _ _ _ _ _ (uh HT32)).2.2.1] at hc1
 have hf1:=hBb1.fz 34
 obtain ⟨wc1,hwc1⟩:∃ V,V=wb1.setCell ⟨p,34,none⟩ (.string (str nm)):=⟨_,rfl⟩
 have hBc1:Blk wc1 p 70 (chR T PV TM nm []):=by
  have:=hBb1.set 34 (.string (str nm))
  rw[(zc0 _ _ (.slice none 0 0) _ 0 _ nm _ nm (uh HT32)).2.2.1] at this
  rw[hwc1];exact this
 have hAc1:Blk wc1 w.heap.size 70 Z:=by rw[hwc1];exact hAb1.other _ _ (by simp;omega)
 have hRc1:Rd wc1 rb lb1 eb1:=by rw[hwc1];exact hR1.blk hBb1 (by decide) (by omega) 34 _
 have Gc1:w.grownBy wc1 (some rb):=by rw[hwc1];exact zad Gb1 _ _ (Or.inl (by simp;omega))
 have HWC1:=hide hwc1
 clear cs1 hb1 hn1 hR1 g1 hBb1 hAb1 Gb1 hwc1 hBa hAa Ga hRa
 have cs2:=zdu wc1 rb lb1 eb1 (by omega) hRc1
 rw[← uh HTX] at cs2
 simp only at cs2
 have hBc1':=hide hBc1
 go_wp2_with (rw[← uh HWC1])
 clear hcv1 hc1 hf1
 refine cs2.mono ?_
 rintro e wb2 ⟨v2,rfl,⟨ao2,k2,rfl,hb2,hn2⟩,hR2,g2⟩
 have hcv2:=zaz hb2
 have hBb2:=hBc1.kept g2 (by simp;omega)
 have hAb2:=hAc1.kept g2 (by simp;omega)
 have Gb2:w.grownBy wb2 (some rb):=zae Gc1 g2 (fun x e=>Or.inr e)
 have hc2:=hBb2.cell 35
 rw[(zcs _ _ _ _ _ (uh HT32)).2.2.2] at hc2
 have hf2:=hBb2.fz 35
 obtain ⟨wc2,hwc2⟩:∃ V,V=wb2.setCell ⟨p,35,none⟩ (.string (str tx)):=⟨_,rfl⟩
 have hBc2:Blk wc2 p 70 (chR T PV TM nm tx):=by
  have:=hBb2.set 35 (.string (str tx))
  rw[(zc0 _ _ (.slice none 0 0) _ 0 _ tx _ tx (uh HT32)).2.2.2] at this
  rw[hwc2];exact this
 have hAc2:Blk wc2 w.heap.size 70 Z:=by rw[hwc2];exact hAb2.other _ _ (by simp;omega)
 have hRc2:Rd wc2 rb lc1 ec1:=by rw[hwc2];exact hR2.blk hBb2 (by decide) (by omega) 35 _
 have Gc2:w.grownBy wc2 (some rb):=by rw[hwc2];exact zad Gb2 _ _ (Or.inl (by simp;omega))
 have HWC2:=hide hwc2
 clear cs2 hb2 hn2 hR2 g2 hBb2 hAb2 Gb2 hwc2 hBc1 hAc1 Gc1 hRc1
 have hrF:=zal hBc2
 obtain ⟨FC,hFC⟩:∃ L,L=chR T PV TM nm tx:=⟨_,rfl⟩
 have hF36:FC.length=36:=by rw[hFC];exact zgv _ _ _ _ _ (uh HT32)
 have hFo:FC.toArray.all (·.oneCell')=true:=by rw[hFC];exact all_oneCell_toArray (zgw _ _ _ _ _ hPo)
 rw[← hFC] at hrF
 have hiF:(Tryz.prog.info? 70).map (·.size)=some FC.length:=by rw[hF36];exact zbv
 have hiF2:(Tryz.prog.info? 70).map (·.size)=some FC.toArray.size:=by simpa using hiF
 have hZF:Z.toArray.size=FC.toArray.size:=by have:=uh HZL;simp[this,hF36]
 obtain ⟨HIF,HIF2,HZF,HFO,HFC⟩:=zh5 hiF hiF2 hZF hFo hFC
 clear hFC hF36 hFo hiF hiF2 hZF
 go_wp2_with (first
  | (rw[← uh HWC2];refine wpList_load_mid rfl 70 _ rfl p 0 rfl FC _ hrF Tryz.underlying70 rfl (uh HIF) ?_;clear hrF)
  | (refine wpList_store_row rfl 70 _ _ rfl w.heap.size FC.toArray rfl rfl _ _ hAc2 (uh HIF2) (uh HZF) (uh HFO) ?_))
 refine bodyPost_ret (results_cell_row rfl _ _ _ _ _ _ _ rfl (hAc2.row FC) Tryz.underlying70 rfl (uh HIF2)) rfl ?_
 have gF:=zam Gc2 FC.toArray (Or.inl (Nat.le_refl _))
 rw[uh HFC] at gF ⊢
 rw[uh HPV,uh HTM] at gF ⊢
 exact ⟨rfl,gF⟩
theorem zum {d t0 l1 l2 l3 l4 lb1 lc1 nm tx:List UInt8} {e1 e2 e3 e4 eb1 ec1:Int} {n0 tm:Nat} {ps:List (List UInt8)} (h1:rawS d 0 32=(t0,l1,e1)) (h2:numS l1 e1 1=(n0,l2,e2)) (h3:runP (l2,e2) (min n0 4)=(ps,l3,e3)) (h4:numS l3 e3 8=(tm,l4,e4)) (h5:zap l4 e4=(nm,lb1,eb1)) (h6:zap lb1 eb1=(tx,lc1,ec1)):zbh d=⟨zc1 t0,ps,tm,nm,tx⟩:=by
 unfold zbh
 simp only[h1,h2,h3,h4,h5,h6]
theorem zey {w:World} {base k n:Nat} {t:TypeId} {v:Value} {xs:List Value} (h:w.ownsRow base t k v n xs):v.oneCell'=true:=by
 rcases h.2 with ⟨rfl,_⟩ | ⟨g,cap,cur,rfl,_⟩ <;> rfl
theorem zbd {w:World} {base k n:Nat} {t:TypeId} {v:Value} {xs:List Value} (h:w.ownsRow base t k v n xs):∃ ao c,v = .slice ao n c:=by
 rcases h.2 with ⟨rfl,h2⟩ | ⟨g,cap,cur,rfl,_⟩
 ·exact ⟨_,_,by rw[h2]⟩
 ·exact ⟨_,_,rfl⟩
theorem zay {V:World} {base k n:Nat} {v:Value} {xs cs:List Value} {p:Nat} {t e:TypeId} (h:V.ownsRow base e k v n xs) (hB:Blk V p t cs) (ht:t≠e):some p≠v.ownBlock:=by
 rcases h.2 with ⟨rfl,_⟩ | ⟨g,cap,cur,rfl,hg,hh,_⟩
 ·intro e;cases e
 ·intro e2
  have:p=g:=by simpa[Value.ownBlock] using e2
  subst this
  unfold Blk at hB
  rw[hB] at hh
  injection hh with h3
  injection h3 with _ h4
  exact ht h4
theorem zan {V:World} {base k n:Nat} {v:Value} {xs cs:List Value} {p:Nat} {t e:TypeId} (h:V.ownsRow base e k v n xs) (hB:Blk V p t cs) (ht:t≠e) (j:Nat) (u:Value):(V.setCell ⟨p,j,none⟩ u).ownsRow base e k v n xs :=
 h.kept (zcp V p j u) (Or.inr fun e=>zay h hB ht e.symm)
theorem zb3 {V:World} {base k n:Nat} {v:Value} {xs cs:List Value} {p:Nat} {t e:TypeId} (h:V.ownsRow base e k v n xs) (hB:Blk V p t cs) (ht:t≠e) (u:Array Value):(V.setRow p u).ownsRow base e k v n xs :=
 h.kept (zam (zab _ (some p)) u (Or.inr rfl)) (Or.inr fun e=>zay h hB ht e.symm)
theorem znu (qs:List (List UInt8)) (I:List UInt8):(qs++[I]).flatMap (·.map bv)=qs.flatMap (·.map bv)++I.map bv:=by simp
set_option maxHeartbeats 8000000 in
theorem zmg (w:World) (rb:Nat) (d:List UInt8) (hl:d.length≤1000000) (h:Rd w rb d 0) :
  Calls Tryz.prog 62 #[.int .i64 3,.pointer (some ⟨rb,0,none⟩)] w fun e w'=>∃ v,e = .returned (.agg (chR (zbh d).tree v (zbh d).time (zbh d).author (zbh d).text).toArray)∧w'.ownsRow w.heap.size 33 32 v (zbh d).pars.length ((zbh d).pars.flatMap (·.map bv))∧w.grownBy w' (some rb):=by
 obtain ⟨⟨t0,l1,e1⟩,h1⟩:∃ a,rawS d 0 32=a:=⟨_,rfl⟩
 obtain ⟨⟨n0,l2,e2⟩,h2⟩:∃ a,numS l1 e1 1=a:=⟨_,rfl⟩
 obtain ⟨⟨ps,l3,e3⟩,h3⟩:∃ a,runP (l2,e2) (min n0 4)=a:=⟨_,rfl⟩
 obtain ⟨⟨tm,la,ea⟩,h4⟩:∃ a,numS l3 e3 8=a:=⟨_,rfl⟩
 obtain ⟨⟨nm,lb1,eb1⟩,h5⟩:∃ a,zap la ea=a:=⟨_,rfl⟩
 obtain ⟨⟨tx,lc1,ec1⟩,h6⟩:∃ a,zap lb1 eb1=a:=⟨_,rfl⟩
 rw[zum h1 h2 h3 h4 h5 h6]
 simp only
 have hrb:=h.lt
 obtain ⟨Z,hZ⟩:∃ Z:List Value,Z=chR (List.replicate 32 0) (.slice none 0 0) 0 [] []:=⟨_,rfl⟩
 have hzv:∀ w,(zeroValue 70).run Tryz.prog w = .ok (.agg Z.toArray) w:=fun w=>by rw[hZ];exact zh9 w
 have hZl:Z.length=36:=by rw[hZ];rfl
 obtain ⟨W1,hW1,hB1,g1⟩:∃ W1,W1=w.alloc (.cells Z.toArray 70)∧Blk W1 w.heap.size 70 Z∧w.grownBy W1 none:=zag w _ _
 have ci:=zdn W1 rb d 0 (by omega) (h.kept g1 (Or.inl rfl))
 have hl1:=zcu d 0 32
 have hT32:=zbu d 0
 rw[h1] at ci hl1 hT32
 simp only at ci hl1 hT32
 obtain ⟨T,hT⟩:∃ T,T=zc1 t0:=⟨_,rfl⟩
 rw[← hT] at ci hT32 ⊢
 have hbt:Tryz.prog.built 70 [(0,.agg (T.map bv).toArray)]=some (chR T (.slice none 0 0) 0 [] []).toArray:=zjg T hT32
 obtain ⟨TV,hTV⟩:∃ V,V=Value.agg (T.map bv).toArray:=⟨_,rfl⟩
 rw[← hTV] at ci hbt
 obtain ⟨CB,hCB⟩:∃ L,L=chR T (.slice none 0 0) 0 [] []:=⟨_,rfl⟩
 rw[← hCB] at hbt
 have hCl:CB.length=36:=by rw[hCB];exact zgv _ _ _ _ _ hT32
 have hCo:CB.toArray.all (·.oneCell')=true:=by rw[hCB];exact all_oneCell_toArray (zgw _ _ _ _ _ rfl)
 obtain ⟨HW1,HB1,HG1,HZL,HBT,HCB⟩:=zh6 hW1 hB1 g1 hZl hbt hCB
 obtain ⟨HCO,HCL,HT32⟩:=zh3 hCo hCl hT32
 clear hZ hZl hW1 hB1 g1 hT hbt hTV hCB hCl hCo hT32 h
 have hl2:=zbr l1 e1 1
 rw[h2] at hl2
 have hl3:=zex (l2,e2) (min n0 4)
 rw[h3] at hl3
 have hla:=zbr l3 e3 8
 rw[h4] at hla
 have hlb:=zbk la ea
 rw[h5] at hlb
 simp only at hl2 hl3 hla hlb
 have h2a:l2.length≤1000000:=by omega
 obtain ⟨m,hm⟩:∃ m,m=min n0 4:=⟨_,rfl⟩
 have hm4:m≤4:=by omega
 rw[← hm] at h3
 have hcase:(4<n0∧m=4)∨n0=m:=by omega
 obtain ⟨H2,H3,H4⟩:=zh3 h2 h3 h4
 have HNM:=hide h5.symm
 have HTX:=hide h6.symm
 have H2A:=hide h2a
 have h3a:l3.length≤1000000:=by omega
 have haa:la.length≤1000000:=by omega
 have hba:lb1.length≤1000000:=by omega
 clear h1 h2 h3 h4 h5 h6 hm hl2 hl3 hla hlb h2a
 go_enter Tryz.func62,Tryz.ntmps62
 go_wp2_with (rw[← uh HW1])
 refine ci.mono ?_
 rintro e w2 ⟨rfl,hR2,g2⟩
 clear ci
 obtain ⟨W3,hW3,hB3,g3⟩:=zbl w2 70 Z.toArray CB
 have G2:w.grownBy w2 (some rb):=zae (zaw _ (uh HG1)) g2 (fun x e=>Or.inr e)
 have hA2:=(uh HB1).kept g2 (by simp;omega)
 have HA3:=hide (hA2.kept g3 (by simp))
 have HR3:=hide (hR2.kept g3 (Or.inl rfl))
 have HG3:=hide (tn G2 g3)
 have hps:w.heap.size<w2.heap.size:=hA2.lt
 have hp2:rb<w2.heap.size:=hR2.lt
 obtain ⟨p,hp⟩:∃ p,p=w2.heap.size:=⟨_,rfl⟩
 rw[← hp] at hB3 hps hp2 hW3
 have HB3:Hid (Blk W3 p 70 (chR T (.slice none 0 0) 0 [] [])):=by rw[← uh HCB];exact hB3
 obtain ⟨HP,HW3⟩:=zh2 hp hW3
 have hi36:(Tryz.prog.info? 70).map (·.size)=some CB.toArray.size:=by rw[show CB.toArray.size=36 by simpa using uh HCL];exact zbv
 have HI36:=hide hi36
 have hZ36:Z.toArray.size=CB.toArray.size:=by rw[show CB.toArray.size=36 by simpa using uh HCL];simpa using uh HZL
 have HZ36:=hide hZ36
 clear hW3 hB3 g3 G2 hA2 hR2 g2 hp hi36 hZ36
 go_wp2_with (first
  | (refine za4 rfl 70 _ rfl CB.toArray ?hbs ?_)
  | (refine wpList_store_row rfl 70 _ _ rfl w2.heap.size CB.toArray rfl rfl _ _ (heap_alloc_new _ _) (uh HI36) (uh HZ36) (uh HCO) ?_;rw[← uh HP,← uh HW3]))
 case hbs=>simpa using uh HBT
 have cn:=zg6 W3 rb l1 e1 1 (uh HR3)
 rw[uh H2] at cn
 simp only at cn
 refine cn.mono ?_
 rintro e w4 ⟨rfl,hR4,g4⟩
 have HB4:=hide ((uh HB3).kept g4 (by simp;omega))
 have HA4:=hide ((uh HA3).kept g4 (by simp;omega))
 have HG4:=hide (zae (uh HG3) g4 (fun x e=>Or.inr e))
 clear cn g4 HB3 HA3 HR3 HG3 H2
 rcases hcase with ⟨hc,hm⟩ | hm
 ·have hci:(4:Int)<(n0:Int):=by omega
  have h32:Value.int IntKind.u64 4=Value.int IntKind.u64 (m:Int):=by rw[hm];rfl
  have H32:=hide h32
  clear h32 hm hc
  go_wp2
  rw[uh H32]
  clear H32 hci
  go_loopw [17] (fun i wr=>∃ (j:Nat) (qs:List (List UInt8)) (l' : List UInt8) (e' : Int) (v:Value),j≤m∧i = .int .u64 (j:Int)∧Hid (runP (l2,e2) j=(qs,l',e'))∧Hid (Blk wr p 70 (chR T v 0 [] []))∧wr.ownsRow w.heap.size 33 32 v qs.length (qs.flatMap (·.map bv))∧Hid (Blk wr w.heap.size 70 Z)∧Rd wr rb l' e'∧w.grownBy wr (some rb)) (fun i _=>m - (intOf i).toNat)
  case atStart=>exact ⟨0,[],l2,e2,.slice none 0 0,Nat.zero_le _,rfl,rfl,HB4,World.ownsRow_nil _ _ _ _,HA4,hR4,uh HG4⟩
  case round =>
   obtain ⟨j,qs,l',e',v,hj,rfl,HE,HB,hO,HA,hR,hg⟩:=hrel
   by_cases hlt:j<m
   ·have hel:qs.length=j:=by have:=zkb (l2,e2) j;rw[uh HE] at this;exact this
    have hlf:l'.length≤1000000:=by have:=zex (l2,e2) j;rw[uh HE] at this;exact Nat.le_trans this (uh H2A)
    have ci:∀ V,Rd V rb l' e'→Calls Tryz.prog 88 #[.pointer (some ⟨rb,0,none⟩)] V fun e w'=>e = .returned (.agg ((zc1 (rawS l' e' 32).1).map bv).toArray)∧Rd w' rb (rawS l' e' 32).2.1 (rawS l' e' 32).2.2∧V.grownBy w' (some rb):=fun V hV=>zdn V rb l' e' (by omega) hV
    have hI32:=zbu l' e'
    obtain ⟨⟨y,l5,e5⟩,ha⟩:∃ a,a=rawS l' e' 32:=⟨_,rfl⟩
    rw[← ha] at ci hI32
    simp only at ci hI32
    have hrd:=zji (uh HE) ha.symm
    clear ha
    obtain ⟨I,hI⟩:∃ I,I=zc1 y:=⟨_,rfl⟩
    rw[← hI] at ci hI32 hrd
    have hbs:=zfl I hI32
    have hfl:=znu qs I
    obtain ⟨HFL,HRD⟩:=zh2 hfl hrd
    have h0:w.grownBy wr.drew (some rb):=zak hg
    have hRd:Rd wr.drew rb l' e':=hR.kept (zak (zab _ none)) (Or.inl rfl)
    have hOd:=zbg hO (zak (zab wr none)) (fun x e=>by cases e)
    have hBd:=(uh HB).drew
    have hAd:=(uh HA).drew
    have hj100:qs.length≤100000:=by omega
    clear hI hfl hrd hO hR hg HE hlf hel HB HA
    go_upto_region 7 with fail
    refine wp_region_noPanic ?_
    refine wp_region_held_drew (S:=fun V=>w.grownBy V (some rb)) (by kernel_rfl) h0 (fun _ => ?_)
    refine tq 0 19 (.fieldAddr 70 (.tmp 5) 1) (.pointer (some ⟨p,32,none⟩)) h0 ?_
    refine tq 2 21 (.move (.tmp 1)) (.pointer (some ⟨rb,0,none⟩)) h0 ?_
    (try simp only[pq])
    refine wpAnyH_ready (rs:=[1,3]) (by kernel_rfl) (by simp) ?_
    refine AllReadyH.cons (o:=⟨some 20,.load 29 (.tmp 19),_,_,_,_⟩) rfl (fun K9 hK9 => ?_) (AllReadyH.cons (o:=⟨some 22,.call { callee := .value (.func 88),args := #[(.tmp 21)],argTypes := #[115] },_,_,_,_⟩) rfl (fun K9 hK9 => ?_) AllReadyH.nil)
    ·have hc4:=hBd.cell 32
     rw[(zcs _ _ _ _ _ (uh HT32)).1] at hc4
     go_simp
     clear hc4
     refine hK9.out _ _ h0 (fun _ => ?_)
     clear hK9 K9
     (try simp only[pq])
     refine rd 3 (some 22) (.call { callee := .value (.func 88),args := #[(.tmp 21)],argTypes := #[115] }) (fun K9 hK9 => ?_)
     go_simp
     go_at_call 88
     refine (ci _ hRd).mono ?_
     rintro e w4 ⟨rfl,hR4,g4⟩
     have G4:w.grownBy w4 (some rb):=zae h0 g4 (fun x e=>Or.inr e)
     go_wp2_with fail
     refine hK9.out _ _ G4 (fun _ => ?_)
     clear hK9 K9
     (try simp only[pq])
     have hB4:=hBd.kept g4 (by simp;omega)
     have hA4:=hAd.kept g4 (by simp;omega)
     have hO4:=zbg hOd g4 (fun x e=>by cases e;exact hrb)
     clear ci hRd hBd hAd hOd g4
     refine rd 4 (some 23) (.buildSlice 29 1 #[(0,(.tmp 22))]) (fun K9 hK9 => ?_)
     obtain ⟨w5,hw5,hE5,g5⟩:=zag w4 33 (I.map bv)
     refine zar (by rfl) _ _ rfl _ _ rfl (hbs w4) ?_
     rw[← hw5]
     have G5:=tn G4 g5
     refine hK9.out _ _ G5 (fun _ => ?_)
     clear hK9 K9 hw5
     (try simp only[pq])
     have hO5:=zbg hO4 g5 (fun x e=>by cases e)
     have hR5:=hR4.kept g5 (Or.inl rfl)
     have hB5:=hB4.kept g5 (by simp)
     have hA5:=hA4.kept g5 (by simp)
     refine rd 5 (some 24) (.call { callee := .builtin .append,args := #[(.tmp 20),(.tmp 23)],argTypes := #[29,29] }) (fun K9 hK9 => ?_)
     refine zbp (by rfl) _ _ rfl w.heap.size v _ _ rfl hO5 _ (I.map bv) hE5 (by simpa using hI32) (za6 _) rfl hj100 G5.size ?_
     intro v6 w6 hO6 g6
     obtain ⟨q6,k6,e6⟩:=zbd hO6
     subst e6
     have G6:w.grownBy w6 (some rb):=zae G5 g6 (fun x e=>Or.inl (hO5.lt x e).1)
     have hR6:Rd w6 rb l5 e5:=hR5.keptTyp g6 (fun x e=>⟨by have:=(hO5.lt x e).1;omega,zcw hO5 e (by decide)⟩)
     have hB6:=hB5.kept g6 (zay hO5 hB5 (by decide))
     have hA6:=hA5.kept g6 (zay hO5 hA5 (by decide))
     refine hK9.out _ _ G6 (fun _ => ?_)
     clear hK9 K9 g6 hO5 hR5 hB5 hA5 hE5 g5
     refine tq 6 25 (.fieldAddr 70 (.tmp 5) 1) (.pointer (some ⟨p,32,none⟩)) G6 ?_
     (try simp only[pq])
     have hc6:=hB6.cell 32
     rw[(zcs _ _ _ _ _ (uh HT32)).1] at hc6
     have hf6:=hB6.fz 32
     obtain ⟨w7,hw7⟩:∃ V,V=w6.setCell ⟨p,32,none⟩ (.slice q6 (qs.length+1) k6):=⟨_,rfl⟩
     have hB7:Blk w7 p 70 (chR T (.slice q6 (qs.length+1) k6) 0 [] []):=by
      have:=hB6.set 32 (.slice q6 (qs.length+1) k6)
      rw[(zc0 _ _ (.slice q6 (qs.length+1) k6) _ 0 _ [] _ [] (uh HT32)).1] at this
      rw[hw7];exact this
     have hA7:Blk w7 w.heap.size 70 Z:=by rw[hw7];exact hA6.other _ _ (by simp;omega)
     have hR7:Rd w7 rb l5 e5:=by rw[hw7];exact hR6.blk hB6 (by decide) (by omega) 32 _
     have G7:w.grownBy w7 (some rb):=by rw[hw7];exact zad G6 _ _ (Or.inl (by simp;omega))
     have hO7:=(show w7.ownsRow w.heap.size 33 32 (.slice q6 (qs.length+1) k6) _ _ by rw[hw7];exact zan hO6 hB6 (by decide) 32 _)
     have h1c:=zey hO7
     refine rd 7 none (.store 29 (.tmp 25) (.tmp 24)) (fun K9 hK9 => ?_)
     go_simp
     rw[← hw7]
     refine hK9.out _ _ G7 (fun _ => ?_)
     clear hK9 K9 hw7 hc6 hf6 hB6 hA6 hR6 hO6 G6
     (try simp only[pq])
     refine wpAnyH_done (by kernel_rfl) ?_ _
     refine NoPanic.normal ?_
     obtain ⟨HB7,HO7,HA7⟩:=zh3 hB7 hO7 hA7
     clear hB7 hO7 hA7 h1c
     go_wp2
     go_roundw
     case rel =>
      refine ⟨j+1,_,l5,e5,_,by omega,by go_num,HRD,HB7,?_,HA7,hR7,G7⟩
      rw[List.length_append,uh HFL]
      exact uh HO7
     case measure=>simp[intOf];omega
    ·go_simp
     go_at_call 88
     refine (ci _ hRd).mono ?_
     rintro e w4 ⟨rfl,hR4,g4⟩
     have G4:w.grownBy w4 (some rb):=zae h0 g4 (fun x e=>Or.inr e)
     go_wp2_with fail
     refine hK9.out _ _ G4 (fun _ => ?_)
     clear hK9 K9
     (try simp only[pq])
     have hB4:=hBd.kept g4 (by simp;omega)
     have hA4:=hAd.kept g4 (by simp;omega)
     have hO4:=zbg hOd g4 (fun x e=>by cases e;exact hrb)
     clear ci hRd hBd hAd hOd g4
     refine wpAnyH_ready (rs:=[1,4]) (by kernel_rfl) (by simp) ?_
     refine AllReadyH.cons (o:=⟨some 20,.load 29 (.tmp 19),_,_,_,_⟩) rfl (fun K9 hK9 => ?_) (AllReadyH.cons (o:=⟨some 23,.buildSlice 29 1 #[(0,(.tmp 22))],_,_,_,_⟩) rfl (fun K9 hK9 => ?_) AllReadyH.nil)
     ·have hc4:=hB4.cell 32
      rw[(zcs _ _ _ _ _ (uh HT32)).1] at hc4
      go_simp
      clear hc4
      refine hK9.out _ _ G4 (fun _ => ?_)
      clear hK9 K9
      (try simp only[pq])
      refine rd 4 (some 23) (.buildSlice 29 1 #[(0,(.tmp 22))]) (fun K9 hK9 => ?_)
      obtain ⟨w5,hw5,hE5,g5⟩:=zag w4 33 (I.map bv)
      refine zar (by rfl) _ _ rfl _ _ rfl (hbs w4) ?_
      rw[← hw5]
      have G5:=tn G4 g5
      refine hK9.out _ _ G5 (fun _ => ?_)
      clear hK9 K9 hw5
      (try simp only[pq])
      have hO5:=zbg hO4 g5 (fun x e=>by cases e)
      have hR5:=hR4.kept g5 (Or.inl rfl)
      have hB5:=hB4.kept g5 (by simp)
      have hA5:=hA4.kept g5 (by simp)
      refine rd 5 (some 24) (.call { callee := .builtin .append,args := #[(.tmp 20),(.tmp 23)],argTypes := #[29,29] }) (fun K9 hK9 => ?_)
      refine zbp (by rfl) _ _ rfl w.heap.size v _ _ rfl hO5 _ (I.map bv) hE5 (by simpa using hI32) (za6 _) rfl hj100 G5.size ?_
      intro v6 w6 hO6 g6
      obtain ⟨q6,k6,e6⟩:=zbd hO6
      subst e6
      have G6:w.grownBy w6 (some rb):=zae G5 g6 (fun x e=>Or.inl (hO5.lt x e).1)
      have hR6:Rd w6 rb l5 e5:=hR5.keptTyp g6 (fun x e=>⟨by have:=(hO5.lt x e).1;omega,zcw hO5 e (by decide)⟩)
      have hB6:=hB5.kept g6 (zay hO5 hB5 (by decide))
      have hA6:=hA5.kept g6 (zay hO5 hA5 (by decide))
      refine hK9.out _ _ G6 (fun _ => ?_)
      clear hK9 K9 g6 hO5 hR5 hB5 hA5 hE5 g5
      refine tq 6 25 (.fieldAddr 70 (.tmp 5) 1) (.pointer (some ⟨p,32,none⟩)) G6 ?_
      (try simp only[pq])
      have hc6:=hB6.cell 32
      rw[(zcs _ _ _ _ _ (uh HT32)).1] at hc6
      have hf6:=hB6.fz 32
      obtain ⟨w7,hw7⟩:∃ V,V=w6.setCell ⟨p,32,none⟩ (.slice q6 (qs.length+1) k6):=⟨_,rfl⟩
      have hB7:Blk w7 p 70 (chR T (.slice q6 (qs.length+1) k6) 0 [] []):=by
       have:=hB6.set 32 (.slice q6 (qs.length+1) k6)
       rw[(zc0 _ _ (.slice q6 (qs.length+1) k6) _ 0 _ [] _ [] (uh HT32)).1] at this
       rw[hw7];exact this
      have hA7:Blk w7 w.heap.size 70 Z:=by rw[hw7];exact hA6.other _ _ (by simp;omega)
      have hR7:Rd w7 rb l5 e5:=by rw[hw7];exact hR6.blk hB6 (by decide) (by omega) 32 _
      have G7:w.grownBy w7 (some rb):=by rw[hw7];exact zad G6 _ _ (Or.inl (by simp;omega))
      have hO7:=(show w7.ownsRow w.heap.size 33 32 (.slice q6 (qs.length+1) k6) _ _ by rw[hw7];exact zan hO6 hB6 (by decide) 32 _)
      have h1c:=zey hO7
      refine rd 7 none (.store 29 (.tmp 25) (.tmp 24)) (fun K9 hK9 => ?_)
      go_simp
      rw[← hw7]
      refine hK9.out _ _ G7 (fun _ => ?_)
      clear hK9 K9 hw7 hc6 hf6 hB6 hA6 hR6 hO6 G6
      (try simp only[pq])
      refine wpAnyH_done (by kernel_rfl) ?_ _
      refine NoPanic.normal ?_
      obtain ⟨HB7,HO7,HA7⟩:=zh3 hB7 hO7 hA7
      clear hB7 hO7 hA7 h1c
      go_wp2
      go_roundw
      case rel =>
       refine ⟨j+1,_,l5,e5,_,by omega,by go_num,HRD,HB7,?_,HA7,hR7,G7⟩
       rw[List.length_append,uh HFL]
       exact uh HO7
      case measure=>simp[intOf];omega
     ·obtain ⟨w5,hw5,hE5,g5⟩:=zag w4 33 (I.map bv)
      refine zar (by rfl) _ _ rfl _ _ rfl (hbs w4) ?_
      rw[← hw5]
      have G5:=tn G4 g5
      refine hK9.out _ _ G5 (fun _ => ?_)
      clear hK9 K9 hw5
      (try simp only[pq])
      have hO5:=zbg hO4 g5 (fun x e=>by cases e)
      have hR5:=hR4.kept g5 (Or.inl rfl)
      have hB5:=hB4.kept g5 (by simp)
      have hA5:=hA4.kept g5 (by simp)
      refine rd 1 (some 20) (.load 29 (.tmp 19)) (fun K9 hK9 => ?_)
      have hc4:=hB5.cell 32
      rw[(zcs _ _ _ _ _ (uh HT32)).1] at hc4
      go_simp
      clear hc4
      refine hK9.out _ _ G5 (fun _ => ?_)
      clear hK9 K9
      (try simp only[pq])
      refine rd 5 (some 24) (.call { callee := .builtin .append,args := #[(.tmp 20),(.tmp 23)],argTypes := #[29,29] }) (fun K9 hK9 => ?_)
      refine zbp (by rfl) _ _ rfl w.heap.size v _ _ rfl hO5 _ (I.map bv) hE5 (by simpa using hI32) (za6 _) rfl hj100 G5.size ?_
      intro v6 w6 hO6 g6
      obtain ⟨q6,k6,e6⟩:=zbd hO6
      subst e6
      have G6:w.grownBy w6 (some rb):=zae G5 g6 (fun x e=>Or.inl (hO5.lt x e).1)
      have hR6:Rd w6 rb l5 e5:=hR5.keptTyp g6 (fun x e=>⟨by have:=(hO5.lt x e).1;omega,zcw hO5 e (by decide)⟩)
      have hB6:=hB5.kept g6 (zay hO5 hB5 (by decide))
      have hA6:=hA5.kept g6 (zay hO5 hA5 (by decide))
      refine hK9.out _ _ G6 (fun _ => ?_)
      clear hK9 K9 g6 hO5 hR5 hB5 hA5 hE5 g5
      refine tq 6 25 (.fieldAddr 70 (.tmp 5) 1) (.pointer (some ⟨p,32,none⟩)) G6 ?_
      (try simp only[pq])
      have hc6:=hB6.cell 32
      rw[(zcs _ _ _ _ _ (uh HT32)).1] at hc6
      have hf6:=hB6.fz 32
      obtain ⟨w7,hw7⟩:∃ V,V=w6.setCell ⟨p,32,none⟩ (.slice q6 (qs.length+1) k6):=⟨_,rfl⟩
      have hB7:Blk w7 p 70 (chR T (.slice q6 (qs.length+1) k6) 0 [] []):=by
       have:=hB6.set 32 (.slice q6 (qs.length+1) k6)
       rw[(zc0 _ _ (.slice q6 (qs.length+1) k6) _ 0 _ [] _ [] (uh HT32)).1] at this
       rw[hw7];exact this
      have hA7:Blk w7 w.heap.size 70 Z:=by rw[hw7];exact hA6.other _ _ (by simp;omega)
      have hR7:Rd w7 rb l5 e5:=by rw[hw7];exact hR6.blk hB6 (by decide) (by omega) 32 _
      have G7:w.grownBy w7 (some rb):=by rw[hw7];exact zad G6 _ _ (Or.inl (by simp;omega))
      have hO7:=(show w7.ownsRow w.heap.size 33 32 (.slice q6 (qs.length+1) k6) _ _ by rw[hw7];exact zan hO6 hB6 (by decide) 32 _)
      have h1c:=zey hO7
      refine rd 7 none (.store 29 (.tmp 25) (.tmp 24)) (fun K9 hK9 => ?_)
      go_simp
      rw[← hw7]
      refine hK9.out _ _ G7 (fun _ => ?_)
      clear hK9 K9 hw7 hc6 hf6 hB6 hA6 hR6 hO6 G6
      (try simp only[pq])
      refine wpAnyH_done (by kernel_rfl) ?_ _
      refine NoPanic.normal ?_
      obtain ⟨HB7,HO7,HA7⟩:=zh3 hB7 hO7 hA7
      clear hB7 hO7 hA7 h1c
      go_wp2
      go_roundw
      case rel =>
       refine ⟨j+1,_,l5,e5,_,by omega,by go_num,HRD,HB7,?_,HA7,hR7,G7⟩
       rw[List.length_append,uh HFL]
       exact uh HO7
      case measure=>simp[intOf];omega
   ·have hjm:j=m:=by omega
    have hq:qs=ps∧l'=l3∧e'=e3:=by
     have h1:=uh HE
     rw[hjm,uh H3] at h1
     injection h1 with h2 h4
     injection h4 with h5 h6
     exact ⟨h2.symm,h5.symm,h6.symm⟩
    obtain ⟨hq1,hq2,hq3⟩:=hq
    rw[hq1] at hO
    rw[hq2,hq3] at hR
    have cn:=zg6 wr rb l3 e3 8 hR
    rw[uh H4] at cn
    simp only at cn
    clear hjm hq1 hq2 hq3 HE hR
    go_wp2_with fail
    refine cn.mono ?_
    rintro e w5 ⟨rfl,hR5,g5⟩
    have hB5:=(uh HB).kept g5 (by simp;omega)
    have hA5:=(uh HA).kept g5 (by simp;omega)
    have G5:w.grownBy w5 (some rb):=zae hg g5 (fun x e=>Or.inr e)
    have hO5:=zbg hO g5 (fun x e=>by cases e;exact hrb)
    have hc5:=hB5.cell 33
    rw[(zcs _ _ _ _ _ (uh HT32)).2.1] at hc5
    have hf5:=hB5.fz 33
    obtain ⟨wa,hwa⟩:∃ V,V=w5.setCell ⟨p,33,none⟩ (.int .u64 (tm:Int)):=⟨_,rfl⟩
    obtain ⟨TM,hTM⟩:∃ n:Nat,n=tm:=⟨_,rfl⟩
    obtain ⟨PV,hPV⟩:∃ V:Value,V=v:=⟨_,rfl⟩
    obtain ⟨PN,hPN⟩:∃ n,n=ps.length:=⟨_,rfl⟩
    obtain ⟨PX,hPX⟩:∃ n,n=ps.flatMap (·.map bv):=⟨_,rfl⟩
    have hPo:PV.oneCell'=true:=by rw[hPV];exact zey hO5
    have hBa:Blk wa p 70 (chR T PV TM [] []):=by
     have:=hB5.set 33 (.int .u64 (tm:Int))
     rw[(zc0 _ _ v _ tm _ [] _ [] (uh HT32)).2.1] at this
     rw[hwa,hTM,hPV];exact this
    have hAa:Blk wa w.heap.size 70 Z:=by rw[hwa];exact hA5.other _ _ (by simp;omega)
    have hRa:Rd wa rb la ea:=by rw[hwa];exact hR5.blk hB5 (by decide) (by omega) 33 _
    have Ga:w.grownBy wa (some rb):=by rw[hwa];exact zad G5 _ _ (Or.inl (by simp;omega))
    have HOa:=hide (show wa.ownsRow w.heap.size 33 32 PV PN PX by rw[hwa,hPV,hPN,hPX];exact zan hO5 hB5 (by decide) 33 _)
    obtain ⟨HWA,HTM,HPV,HPN,HPX⟩:=zh5 hwa hTM hPV hPN hPX
    have cs1:=zdu wa rb la ea (by omega) hRa
    clear hwa hTM hPV hPN hPX HB HA hg hR5 g5 hB5 hA5 G5 hO5 hO cn
    go_wp2_with (rw[← uh HWA])
    clear hc5 hf5
    rw[← uh HNM] at cs1
    simp only at cs1
    refine cs1.mono ?_
    rintro e wb1 ⟨v1,rfl,⟨ao1,k1,rfl,hb1,hn1⟩,hR1,g1⟩
    have hcv1:=zaz hb1
    have hBb1:=hBa.kept g1 (by simp;omega)
    have hAb1:=hAa.kept g1 (by simp;omega)
    have Gb1:w.grownBy wb1 (some rb):=zae Ga g1 (fun x e=>Or.inr e)
    have hc1:=hBb1.cell 34
    rw[(zcs _ _ _ _ _ (uh HT32)).2.2.1] at hc1
    have hf1:=hBb1.fz 34
    obtain ⟨wc1,hwc1⟩:∃ V,V=wb1.setCell ⟨p,34,none⟩ (.string (str nm)):=⟨_,rfl⟩
    have hBc1:Blk wc1 p 70 (chR T PV TM nm []):=by
     have:=hBb1.set 34 (.string (str nm))
     rw[(zc0 _ _ (.slice none 0 0) _ 0 _ nm _ nm (uh HT32)).2.2.1] at this
     rw[hwc1];exact this
    have hAc1:Blk wc1 w.heap.size 70 Z:=by rw[hwc1];exact hAb1.other _ _ (by simp;omega)
    have hRc1:Rd wc1 rb lb1 eb1:=by rw[hwc1];exact hR1.blk hBb1 (by decide) (by omega) 34 _
    have Gc1:w.grownBy wc1 (some rb):=by rw[hwc1];exact zad Gb1 _ _ (Or.inl (by simp;omega))
    have HWC1:=hide hwc1
    have HOb1:=zbg (uh HOa) g1 (fun x e=>by cases e;exact hrb)
    have HOc1:=hide (show wc1.ownsRow w.heap.size 33 32 PV PN PX by rw[hwc1];exact zan HOb1 hBb1 (by decide) 34 _)
    clear HOb1 HOa
    clear cs1 hb1 hn1 hR1 g1 hBb1 hAb1 Gb1 hwc1 hBa hAa Ga hRa
    have cs2:=zdu wc1 rb lb1 eb1 (by omega) hRc1
    rw[← uh HTX] at cs2
    simp only at cs2
    have hBc1':=hide hBc1
    go_wp2_with (rw[← uh HWC1])
    clear hcv1 hc1 hf1
    refine cs2.mono ?_
    rintro e wb2 ⟨v2,rfl,⟨ao2,k2,rfl,hb2,hn2⟩,hR2,g2⟩
    have hcv2:=zaz hb2
    have hBb2:=hBc1.kept g2 (by simp;omega)
    have hAb2:=hAc1.kept g2 (by simp;omega)
    have Gb2:w.grownBy wb2 (some rb):=zae Gc1 g2 (fun x e=>Or.inr e)
    have hc2:=hBb2.cell 35
    rw[(zcs _ _ _ _ _ (uh HT32)).2.2.2] at hc2
    have hf2:=hBb2.fz 35
    obtain ⟨wc2,hwc2⟩:∃ V,V=wb2.setCell ⟨p,35,none⟩ (.string (str tx)):=⟨_,rfl⟩
    have hBc2:Blk wc2 p 70 (chR T PV TM nm tx):=by
     have:=hBb2.set 35 (.string (str tx))
     rw[(zc0 _ _ (.slice none 0 0) _ 0 _ tx _ tx (uh HT32)).2.2.2] at this
     rw[hwc2];exact this
    have hAc2:Blk wc2 w.heap.size 70 Z:=by rw[hwc2];exact hAb2.other _ _ (by simp;omega)
    have hRc2:Rd wc2 rb lc1 ec1:=by rw[hwc2];exact hR2.blk hBb2 (by decide) (by omega) 35 _
    have Gc2:w.grownBy wc2 (some rb):=by rw[hwc2];exact zad Gb2 _ _ (Or.inl (by simp;omega))
    have HWC2:=hide hwc2
    have HOb2:=zbg (uh HOc1) g2 (fun x e=>by cases e;exact hrb)
    have HOc2:=hide (show wc2.ownsRow w.heap.size 33 32 PV PN PX by rw[hwc2];exact zan HOb2 hBb2 (by decide) 35 _)
    clear HOb2 HOc1
    clear cs2 hb2 hn2 hR2 g2 hBb2 hAb2 Gb2 hwc2 hBc1 hAc1 Gc1 hRc1
    have hrF:=zal hBc2
    obtain ⟨FC,hFC⟩:∃ L,L=chR T PV TM nm tx:=⟨_,rfl⟩
    have hF36:FC.length=36:=by rw[hFC];exact zgv _ _ _ _ _ (uh HT32)
    have hFo:FC.toArray.all (·.oneCell')=true:=by rw[hFC];exact all_oneCell_toArray (zgw _ _ _ _ _ hPo)
    rw[← hFC] at hrF
    have hiF:(Tryz.prog.info? 70).map (·.size)=some FC.length:=by rw[hF36];exact zbv
    have hiF2:(Tryz.prog.info? 70).map (·.size)=some FC.toArray.size:=by simpa using hiF
    have hZF:Z.toArray.size=FC.toArray.size:=by have:=uh HZL;simp[this,hF36]
    obtain ⟨HIF,HIF2,HZF,HFO,HFC⟩:=zh5 hiF hiF2 hZF hFo hFC
    clear hFC hF36 hFo hiF hiF2 hZF
    go_wp2_with (first
     | (rw[← uh HWC2];refine wpList_load_mid rfl 70 _ rfl p 0 rfl FC _ hrF Tryz.underlying70 rfl (uh HIF) ?_;clear hrF)
     | (refine wpList_store_row rfl 70 _ _ rfl w.heap.size FC.toArray rfl rfl _ _ hAc2 (uh HIF2) (uh HZF) (uh HFO) ?_))
    refine bodyPost_ret (results_cell_row rfl _ _ _ _ _ _ _ rfl (hAc2.row FC) Tryz.underlying70 rfl (uh HIF2)) rfl ?_
    have gF:=zam Gc2 FC.toArray (Or.inl (Nat.le_refl _))
    rw[uh HFC] at gF ⊢
    have hOF:=zb3 (uh HOc2) hAc2 (by decide) FC.toArray
    rw[uh HFC] at hOF
    rw[uh HPV,uh HTM] at gF hOF ⊢
    rw[uh HPN,uh HPX] at hOF
    exact ⟨v,rfl,hOF,gF⟩
 ·subst n0
  have hci:¬ (4:Int)<(m:Int):=by omega
  go_wp2
  clear hci
  go_loopw [17] (fun i wr=>∃ (j:Nat) (qs:List (List UInt8)) (l' : List UInt8) (e' : Int) (v:Value),j≤m∧i = .int .u64 (j:Int)∧Hid (runP (l2,e2) j=(qs,l',e'))∧Hid (Blk wr p 70 (chR T v 0 [] []))∧wr.ownsRow w.heap.size 33 32 v qs.length (qs.flatMap (·.map bv))∧Hid (Blk wr w.heap.size 70 Z)∧Rd wr rb l' e'∧w.grownBy wr (some rb)) (fun i _=>m - (intOf i).toNat)
  case atStart=>exact ⟨0,[],l2,e2,.slice none 0 0,Nat.zero_le _,rfl,rfl,HB4,World.ownsRow_nil _ _ _ _,HA4,hR4,uh HG4⟩
  case round =>
   obtain ⟨j,qs,l',e',v,hj,rfl,HE,HB,hO,HA,hR,hg⟩:=hrel
   by_cases hlt:j<m
   ·have hel:qs.length=j:=by have:=zkb (l2,e2) j;rw[uh HE] at this;exact this
    have hlf:l'.length≤1000000:=by have:=zex (l2,e2) j;rw[uh HE] at this;exact Nat.le_trans this (uh H2A)
    have ci:∀ V,Rd V rb l' e'→Calls Tryz.prog 88 #[.pointer (some ⟨rb,0,none⟩)] V fun e w'=>e = .returned (.agg ((zc1 (rawS l' e' 32).1).map bv).toArray)∧Rd w' rb (rawS l' e' 32).2.1 (rawS l' e' 32).2.2∧V.grownBy w' (some rb):=fun V hV=>zdn V rb l' e' (by omega) hV
    have hI32:=zbu l' e'
    obtain ⟨⟨y,l5,e5⟩,ha⟩:∃ a,a=rawS l' e' 32:=⟨_,rfl⟩
    rw[← ha] at ci hI32
    simp only at ci hI32
    have hrd:=zji (uh HE) ha.symm
    clear ha
    obtain ⟨I,hI⟩:∃ I,I=zc1 y:=⟨_,rfl⟩
    rw[← hI] at ci hI32 hrd
    have hbs:=zfl I hI32
    have hfl:=znu qs I
    obtain ⟨HFL,HRD⟩:=zh2 hfl hrd
    have h0:w.grownBy wr.drew (some rb):=zak hg
    have hRd:Rd wr.drew rb l' e':=hR.kept (zak (zab _ none)) (Or.inl rfl)
    have hOd:=zbg hO (zak (zab wr none)) (fun x e=>by cases e)
    have hBd:=(uh HB).drew
    have hAd:=(uh HA).drew
    have hj100:qs.length≤100000:=by omega
    clear hI hfl hrd hO hR hg HE hlf hel HB HA
    go_upto_region 7 with fail
    refine wp_region_noPanic ?_
    refine wp_region_held_drew (S:=fun V=>w.grownBy V (some rb)) (by kernel_rfl) h0 (fun _ => ?_)
    refine tq 0 19 (.fieldAddr 70 (.tmp 5) 1) (.pointer (some ⟨p,32,none⟩)) h0 ?_
    refine tq 2 21 (.move (.tmp 1)) (.pointer (some ⟨rb,0,none⟩)) h0 ?_
    (try simp only[pq])
    refine wpAnyH_ready (rs:=[1,3]) (by kernel_rfl) (by simp) ?_
    refine AllReadyH.cons (o:=⟨some 20,.load 29 (.tmp 19),_,_,_,_⟩) rfl (fun K9 hK9 => ?_) (AllReadyH.cons (o:=⟨some 22,.call { callee := .value (.func 88),args := #[(.tmp 21)],argTypes := #[115] },_,_,_,_⟩) rfl (fun K9 hK9 => ?_) AllReadyH.nil)
    ·have hc4:=hBd.cell 32
     rw[(zcs _ _ _ _ _ (uh HT32)).1] at hc4
     go_simp
     clear hc4
     refine hK9.out _ _ h0 (fun _ => ?_)
     clear hK9 K9
     (try simp only[pq])
     refine rd 3 (some 22) (.call { callee := .value (.func 88),args := #[(.tmp 21)],argTypes := #[115] }) (fun K9 hK9 => ?_)
     go_simp
     go_at_call 88
     refine (ci _ hRd).mono ?_
     rintro e w4 ⟨rfl,hR4,g4⟩
     have G4:w.grownBy w4 (some rb):=zae h0 g4 (fun x e=>Or.inr e)
     go_wp2_with fail
     refine hK9.out _ _ G4 (fun _ => ?_)
     clear hK9 K9
     (try simp only[pq])
     have hB4:=hBd.kept g4 (by simp;omega)
     have hA4:=hAd.kept g4 (by simp;omega)
     have hO4:=zbg hOd g4 (fun x e=>by cases e;exact hrb)
     clear ci hRd hBd hAd hOd g4
     refine rd 4 (some 23) (.buildSlice 29 1 #[(0,(.tmp 22))]) (fun K9 hK9 => ?_)
     obtain ⟨w5,hw5,hE5,g5⟩:=zag w4 33 (I.map bv)
     refine zar (by rfl) _ _ rfl _ _ rfl (hbs w4) ?_
     rw[← hw5]
     have G5:=tn G4 g5
     refine hK9.out _ _ G5 (fun _ => ?_)
     clear hK9 K9 hw5
     (try simp only[pq])
     have hO5:=zbg hO4 g5 (fun x e=>by cases e)
     have hR5:=hR4.kept g5 (Or.inl rfl)
     have hB5:=hB4.kept g5 (by simp)
     have hA5:=hA4.kept g5 (by simp)
     refine rd 5 (some 24) (.call { callee := .builtin .append,args := #[(.tmp 20),(.tmp 23)],argTypes := #[29,29] }) (fun K9 hK9 => ?_)
     refine zbp (by rfl) _ _ rfl w.heap.size v _ _ rfl hO5 _ (I.map bv) hE5 (by simpa using hI32) (za6 _) rfl hj100 G5.size ?_
     intro v6 w6 hO6 g6
     obtain ⟨q6,k6,e6⟩:=zbd hO6
     subst e6
     have G6:w.grownBy w6 (some rb):=zae G5 g6 (fun x e=>Or.inl (hO5.lt x e).1)
     have hR6:Rd w6 rb l5 e5:=hR5.keptTyp g6 (fun x e=>⟨by have:=(hO5.lt x e).1;omega,zcw hO5 e (by decide)⟩)
     have hB6:=hB5.kept g6 (zay hO5 hB5 (by decide))
     have hA6:=hA5.kept g6 (zay hO5 hA5 (by decide))
     refine hK9.out _ _ G6 (fun _ => ?_)
     clear hK9 K9 g6 hO5 hR5 hB5 hA5 hE5 g5
     refine tq 6 25 (.fieldAddr 70 (.tmp 5) 1) (.pointer (some ⟨p,32,none⟩)) G6 ?_
     (try simp only[pq])
     have hc6:=hB6.cell 32
     rw[(zcs _ _ _ _ _ (uh HT32)).1] at hc6
     have hf6:=hB6.fz 32
     obtain ⟨w7,hw7⟩:∃ V,V=w6.setCell ⟨p,32,none⟩ (.slice q6 (qs.length+1) k6):=⟨_,rfl⟩
     have hB7:Blk w7 p 70 (chR T (.slice q6 (qs.length+1) k6) 0 [] []):=by
      have:=hB6.set 32 (.slice q6 (qs.length+1) k6)
      rw[(zc0 _ _ (.slice q6 (qs.length+1) k6) _ 0 _ [] _ [] (uh HT32)).1] at this
      rw[hw7];exact this
     have hA7:Blk w7 w.heap.size 70 Z:=by rw[hw7];exact hA6.other _ _ (by simp;omega)
     have hR7:Rd w7 rb l5 e5:=by rw[hw7];exact hR6.blk hB6 (by decide) (by omega) 32 _
     have G7:w.grownBy w7 (some rb):=by rw[hw7];exact zad G6 _ _ (Or.inl (by simp;omega))
     have hO7:=(show w7.ownsRow w.heap.size 33 32 (.slice q6 (qs.length+1) k6) _ _ by rw[hw7];exact zan hO6 hB6 (by decide) 32 _)
     have h1c:=zey hO7
     refine rd 7 none (.store 29 (.tmp 25) (.tmp 24)) (fun K9 hK9 => ?_)
     go_simp
     rw[← hw7]
     refine hK9.out _ _ G7 (fun _ => ?_)
     clear hK9 K9 hw7 hc6 hf6 hB6 hA6 hR6 hO6 G6
     (try simp only[pq])
     refine wpAnyH_done (by kernel_rfl) ?_ _
     refine NoPanic.normal ?_
     obtain ⟨HB7,HO7,HA7⟩:=zh3 hB7 hO7 hA7
     clear hB7 hO7 hA7 h1c
     go_wp2
     go_roundw
     case rel =>
      refine ⟨j+1,_,l5,e5,_,by omega,by go_num,HRD,HB7,?_,HA7,hR7,G7⟩
      rw[List.length_append,uh HFL]
      exact uh HO7
     case measure=>simp[intOf];omega
    ·go_simp
     go_at_call 88
     refine (ci _ hRd).mono ?_
     rintro e w4 ⟨rfl,hR4,g4⟩
     have G4:w.grownBy w4 (some rb):=zae h0 g4 (fun x e=>Or.inr e)
     go_wp2_with fail
     refine hK9.out _ _ G4 (fun _ => ?_)
     clear hK9 K9
     (try simp only[pq])
     have hB4:=hBd.kept g4 (by simp;omega)
     have hA4:=hAd.kept g4 (by simp;omega)
     have hO4:=zbg hOd g4 (fun x e=>by cases e;exact hrb)
     clear ci hRd hBd hAd hOd g4
     refine wpAnyH_ready (rs:=[1,4]) (by kernel_rfl) (by simp) ?_
     refine AllReadyH.cons (o:=⟨some 20,.load 29 (.tmp 19),_,_,_,_⟩) rfl (fun K9 hK9 => ?_) (AllReadyH.cons (o:=⟨some 23,.buildSlice 29 1 #[(0,(.tmp 22))],_,_,_,_⟩) rfl (fun K9 hK9 => ?_) AllReadyH.nil)
     ·have hc4:=hB4.cell 32
      rw[(zcs _ _ _ _ _ (uh HT32)).1] at hc4
      go_simp
      clear hc4
      refine hK9.out _ _ G4 (fun _ => ?_)
      clear hK9 K9
      (try simp only[pq])
      refine rd 4 (some 23) (.buildSlice 29 1 #[(0,(.tmp 22))]) (fun K9 hK9 => ?_)
      obtain ⟨w5,hw5,hE5,g5⟩:=zag w4 33 (I.map bv)
      refine zar (by rfl) _ _ rfl _ _ rfl (hbs w4) ?_
      rw[← hw5]
      have G5:=tn G4 g5
      refine hK9.out _ _ G5 (fun _ => ?_)
      clear hK9 K9 hw5
      (try simp only[pq])
      have hO5:=zbg hO4 g5 (fun x e=>by cases e)
      have hR5:=hR4.kept g5 (Or.inl rfl)
      have hB5:=hB4.kept g5 (by simp)
      have hA5:=hA4.kept g5 (by simp)
      refine rd 5 (some 24) (.call { callee := .builtin .append,args := #[(.tmp 20),(.tmp 23)],argTypes := #[29,29] }) (fun K9 hK9 => ?_)
      refine zbp (by rfl) _ _ rfl w.heap.size v _ _ rfl hO5 _ (I.map bv) hE5 (by simpa using hI32) (za6 _) rfl hj100 G5.size ?_
      intro v6 w6 hO6 g6
      obtain ⟨q6,k6,e6⟩:=zbd hO6
      subst e6
      have G6:w.grownBy w6 (some rb):=zae G5 g6 (fun x e=>Or.inl (hO5.lt x e).1)
      have hR6:Rd w6 rb l5 e5:=hR5.keptTyp g6 (fun x e=>⟨by have:=(hO5.lt x e).1;omega,zcw hO5 e (by decide)⟩)
      have hB6:=hB5.kept g6 (zay hO5 hB5 (by decide))
      have hA6:=hA5.kept g6 (zay hO5 hA5 (by decide))
      refine hK9.out _ _ G6 (fun _ => ?_)
      clear hK9 K9 g6 hO5 hR5 hB5 hA5 hE5 g5
      refine tq 6 25 (.fieldAddr 70 (.tmp 5) 1) (.pointer (some ⟨p,32,none⟩)) G6 ?_
      (try simp only[pq])
      have hc6:=hB6.cell 32
      rw[(zcs _ _ _ _ _ (uh HT32)).1] at hc6
      have hf6:=hB6.fz 32
      obtain ⟨w7,hw7⟩:∃ V,V=w6.setCell ⟨p,32,none⟩ (.slice q6 (qs.length+1) k6):=⟨_,rfl⟩
      have hB7:Blk w7 p 70 (chR T (.slice q6 (qs.length+1) k6) 0 [] []):=by
       have:=hB6.set 32 (.slice q6 (qs.length+1) k6)
       rw[(zc0 _ _ (.slice q6 (qs.length+1) k6) _ 0 _ [] _ [] (uh HT32)).1] at this
       rw[hw7];exact this
      have hA7:Blk w7 w.heap.size 70 Z:=by rw[hw7];exact hA6.other _ _ (by simp;omega)
      have hR7:Rd w7 rb l5 e5:=by rw[hw7];exact hR6.blk hB6 (by decide) (by omega) 32 _
      have G7:w.grownBy w7 (some rb):=by rw[hw7];exact zad G6 _ _ (Or.inl (by simp;omega))
      have hO7:=(show w7.ownsRow w.heap.size 33 32 (.slice q6 (qs.length+1) k6) _ _ by rw[hw7];exact zan hO6 hB6 (by decide) 32 _)
      have h1c:=zey hO7
      refine rd 7 none (.store 29 (.tmp 25) (.tmp 24)) (fun K9 hK9 => ?_)
      go_simp
      rw[← hw7]
      refine hK9.out _ _ G7 (fun _ => ?_)
      clear hK9 K9 hw7 hc6 hf6 hB6 hA6 hR6 hO6 G6
      (try simp only[pq])
      refine wpAnyH_done (by kernel_rfl) ?_ _
      refine NoPanic.normal ?_
      obtain ⟨HB7,HO7,HA7⟩:=zh3 hB7 hO7 hA7
      clear hB7 hO7 hA7 h1c
      go_wp2
      go_roundw
      case rel =>
       refine ⟨j+1,_,l5,e5,_,by omega,by go_num,HRD,HB7,?_,HA7,hR7,G7⟩
       rw[List.length_append,uh HFL]
       exact uh HO7
      case measure=>simp[intOf];omega
     ·obtain ⟨w5,hw5,hE5,g5⟩:=zag w4 33 (I.map bv)
      refine zar (by rfl) _ _ rfl _ _ rfl (hbs w4) ?_
      rw[← hw5]
      have G5:=tn G4 g5
      refine hK9.out _ _ G5 (fun _ => ?_)
      clear hK9 K9 hw5
      (try simp only[pq])
      have hO5:=zbg hO4 g5 (fun x e=>by cases e)
      have hR5:=hR4.kept g5 (Or.inl rfl)
      have hB5:=hB4.kept g5 (by simp)
      have hA5:=hA4.kept g5 (by simp)
      refine rd 1 (some 20) (.load 29 (.tmp 19)) (fun K9 hK9 => ?_)
      have hc4:=hB5.cell 32
      rw[(zcs _ _ _ _ _ (uh HT32)).1] at hc4
      go_simp
      clear hc4
      refine hK9.out _ _ G5 (fun _ => ?_)
      clear hK9 K9
      (try simp only[pq])
      refine rd 5 (some 24) (.call { callee := .builtin .append,args := #[(.tmp 20),(.tmp 23)],argTypes := #[29,29] }) (fun K9 hK9 => ?_)
      refine zbp (by rfl) _ _ rfl w.heap.size v _ _ rfl hO5 _ (I.map bv) hE5 (by simpa using hI32) (za6 _) rfl hj100 G5.size ?_
      intro v6 w6 hO6 g6
      obtain ⟨q6,k6,e6⟩:=zbd hO6
      subst e6
      have G6:w.grownBy w6 (some rb):=zae G5 g6 (fun x e=>Or.inl (hO5.lt x e).1)
      have hR6:Rd w6 rb l5 e5:=hR5.keptTyp g6 (fun x e=>⟨by have:=(hO5.lt x e).1;omega,zcw hO5 e (by decide)⟩)
      have hB6:=hB5.kept g6 (zay hO5 hB5 (by decide))
      have hA6:=hA5.kept g6 (zay hO5 hA5 (by decide))
      refine hK9.out _ _ G6 (fun _ => ?_)
      clear hK9 K9 g6 hO5 hR5 hB5 hA5 hE5 g5
      refine tq 6 25 (.fieldAddr 70 (.tmp 5) 1) (.pointer (some ⟨p,32,none⟩)) G6 ?_
      (try simp only[pq])
      have hc6:=hB6.cell 32
      rw[(zcs _ _ _ _ _ (uh HT32)).1] at hc6
      have hf6:=hB6.fz 32
      obtain ⟨w7,hw7⟩:∃ V,V=w6.setCell ⟨p,32,none⟩ (.slice q6 (qs.length+1) k6):=⟨_,rfl⟩
      have hB7:Blk w7 p 70 (chR T (.slice q6 (qs.length+1) k6) 0 [] []):=by
       have:=hB6.set 32 (.slice q6 (qs.length+1) k6)
       rw[(zc0 _ _ (.slice q6 (qs.length+1) k6) _ 0 _ [] _ [] (uh HT32)).1] at this
       rw[hw7];exact this
      have hA7:Blk w7 w.heap.size 70 Z:=by rw[hw7];exact hA6.other _ _ (by simp;omega)
      have hR7:Rd w7 rb l5 e5:=by rw[hw7];exact hR6.blk hB6 (by decide) (by omega) 32 _
      have G7:w.grownBy w7 (some rb):=by rw[hw7];exact zad G6 _ _ (Or.inl (by simp;omega))
      have hO7:=(show w7.ownsRow w.heap.size 33 32 (.slice q6 (qs.length+1) k6) _ _ by rw[hw7];exact zan hO6 hB6 (by decide) 32 _)
      have h1c:=zey hO7
      refine rd 7 none (.store 29 (.tmp 25) (.tmp 24)) (fun K9 hK9 => ?_)
      go_simp
      rw[← hw7]
      refine hK9.out _ _ G7 (fun _ => ?_)
      clear hK9 K9 hw7 hc6 hf6 hB6 hA6 hR6 hO6 G6
      (try simp only[pq])
      refine wpAnyH_done (by kernel_rfl) ?_ _
      refine NoPanic.normal ?_
      obtain ⟨HB7,HO7,HA7⟩:=zh3 hB7 hO7 hA7
      clear hB7 hO7 hA7 h1c
      go_wp2
      go_roundw
      case rel =>
       refine ⟨j+1,_,l5,e5,_,by omega,by go_num,HRD,HB7,?_,HA7,hR7,G7⟩
       rw[List.length_append,uh HFL]
       exact uh HO7
      case measure=>simp[intOf];omega
   ·have hjm:j=m:=by omega
    have hq:qs=ps∧l'=l3∧e'=e3:=by
     have h1:=uh HE
     rw[hjm,uh H3] at h1
     injection h1 with h2 h4
     injection h4 with h5 h6
     exact ⟨h2.symm,h5.symm,h6.symm⟩
    obtain ⟨hq1,hq2,hq3⟩:=hq
    rw[hq1] at hO
    rw[hq2,hq3] at hR
    have cn:=zg6 wr rb l3 e3 8 hR
    rw[uh H4] at cn
    simp only at cn
    clear hjm hq1 hq2 hq3 HE hR
    go_wp2_with fail
    refine cn.mono ?_
    rintro e w5 ⟨rfl,hR5,g5⟩
    have hB5:=(uh HB).kept g5 (by simp;omega)
    have hA5:=(uh HA).kept g5 (by simp;omega)
    have G5:w.grownBy w5 (some rb):=zae hg g5 (fun x e=>Or.inr e)
    have hO5:=zbg hO g5 (fun x e=>by cases e;exact hrb)
    have hc5:=hB5.cell 33
    rw[(zcs _ _ _ _ _ (uh HT32)).2.1] at hc5
    have hf5:=hB5.fz 33
    obtain ⟨wa,hwa⟩:∃ V,V=w5.setCell ⟨p,33,none⟩ (.int .u64 (tm:Int)):=⟨_,rfl⟩
    obtain ⟨TM,hTM⟩:∃ n:Nat,n=tm:=⟨_,rfl⟩
    obtain ⟨PV,hPV⟩:∃ V:Value,V=v:=⟨_,rfl⟩
    obtain ⟨PN,hPN⟩:∃ n,n=ps.length:=⟨_,rfl⟩
    obtain ⟨PX,hPX⟩:∃ n,n=ps.flatMap (·.map bv):=⟨_,rfl⟩
    have hPo:PV.oneCell'=true:=by rw[hPV];exact zey hO5
    have hBa:Blk wa p 70 (chR T PV TM [] []):=by
     have:=hB5.set 33 (.int .u64 (tm:Int))
     rw[(zc0 _ _ v _ tm _ [] _ [] (uh HT32)).2.1] at this
     rw[hwa,hTM,hPV];exact this
    have hAa:Blk wa w.heap.size 70 Z:=by rw[hwa];exact hA5.other _ _ (by simp;omega)
    have hRa:Rd wa rb la ea:=by rw[hwa];exact hR5.blk hB5 (by decide) (by omega) 33 _
    have Ga:w.grownBy wa (some rb):=by rw[hwa];exact zad G5 _ _ (Or.inl (by simp;omega))
    have HOa:=hide (show wa.ownsRow w.heap.size 33 32 PV PN PX by rw[hwa,hPV,hPN,hPX];exact zan hO5 hB5 (by decide) 33 _)
    obtain ⟨HWA,HTM,HPV,HPN,HPX⟩:=zh5 hwa hTM hPV hPN hPX
    have cs1:=zdu wa rb la ea (by omega) hRa
    clear hwa hTM hPV hPN hPX HB HA hg hR5 g5 hB5 hA5 G5 hO5 hO cn
    go_wp2_with (rw[← uh HWA])
    clear hc5 hf5
    rw[← uh HNM] at cs1
    simp only at cs1
    refine cs1.mono ?_
    rintro e wb1 ⟨v1,rfl,⟨ao1,k1,rfl,hb1,hn1⟩,hR1,g1⟩
    have hcv1:=zaz hb1
    have hBb1:=hBa.kept g1 (by simp;omega)
    have hAb1:=hAa.kept g1 (by simp;omega)
    have Gb1:w.grownBy wb1 (some rb):=zae Ga g1 (fun x e=>Or.inr e)
    have hc1:=hBb1.cell 34
    rw[(zcs _ _ _ _ _ (uh HT32)).2.2.1] at hc1
    have hf1:=hBb1.fz 34
    obtain ⟨wc1,hwc1⟩:∃ V,V=wb1.setCell ⟨p,34,none⟩ (.string (str nm)):=⟨_,rfl⟩
    have hBc1:Blk wc1 p 70 (chR T PV TM nm []):=by
     have:=hBb1.set 34 (.string (str nm))
     rw[(zc0 _ _ (.slice none 0 0) _ 0 _ nm _ nm (uh HT32)).2.2.1] at this
     rw[hwc1];exact this
    have hAc1:Blk wc1 w.heap.size 70 Z:=by rw[hwc1];exact hAb1.other _ _ (by simp;omega)
    have hRc1:Rd wc1 rb lb1 eb1:=by rw[hwc1];exact hR1.blk hBb1 (by decide) (by omega) 34 _
    have Gc1:w.grownBy wc1 (some rb):=by rw[hwc1];exact zad Gb1 _ _ (Or.inl (by simp;omega))
    have HWC1:=hide hwc1
    have HOb1:=zbg (uh HOa) g1 (fun x e=>by cases e;exact hrb)
    have HOc1:=hide (show wc1.ownsRow w.heap.size 33 32 PV PN PX by rw[hwc1];exact zan HOb1 hBb1 (by decide) 34 _)
    clear HOb1 HOa
    clear cs1 hb1 hn1 hR1 g1 hBb1 hAb1 Gb1 hwc1 hBa hAa Ga hRa
    have cs2:=zdu wc1 rb lb1 eb1 (by omega) hRc1
    rw[← uh HTX] at cs2
    simp only at cs2
    have hBc1':=hide hBc1
    go_wp2_with (rw[← uh HWC1])
    clear hcv1 hc1 hf1
    refine cs2.mono ?_
    rintro e wb2 ⟨v2,rfl,⟨ao2,k2,rfl,hb2,hn2⟩,hR2,g2⟩
    have hcv2:=zaz hb2
    have hBb2:=hBc1.kept g2 (by simp;omega)
    have hAb2:=hAc1.kept g2 (by simp;omega)
    have Gb2:w.grownBy wb2 (some rb):=zae Gc1 g2 (fun x e=>Or.inr e)
    have hc2:=hBb2.cell 35
    rw[(zcs _ _ _ _ _ (uh HT32)).2.2.2] at hc2
    have hf2:=hBb2.fz 35
    obtain ⟨wc2,hwc2⟩:∃ V,V=wb2.setCell ⟨p,35,none⟩ (.string (str tx)):=⟨_,rfl⟩
    have hBc2:Blk wc2 p 70 (chR T PV TM nm tx):=by
     have:=hBb2.set 35 (.string (str tx))
     rw[(zc0 _ _ (.slice none 0 0) _ 0 _ tx _ tx (uh HT32)).2.2.2] at this
     rw[hwc2];exact this
    have hAc2:Blk wc2 w.heap.size 70 Z:=by rw[hwc2];exact hAb2.other _ _ (by simp;omega)
    have hRc2:Rd wc2 rb lc1 ec1:=by rw[hwc2];exact hR2.blk hBb2 (by decide) (by omega) 35 _
    have Gc2:w.grownBy wc2 (some rb):=by rw[hwc2];exact zad Gb2 _ _ (Or.inl (by simp;omega))
    have HWC2:=hide hwc2
    have HOb2:=zbg (uh HOc1) g2 (fun x e=>by cases e;exact hrb)
    have HOc2:=hide (show wc2.ownsRow w.heap.size 33 32 PV PN PX by rw[hwc2];exact zan HOb2 hBb2 (by decide) 35 _)
    clear HOb2 HOc1
    clear cs2 hb2 hn2 hR2 g2 hBb2 hAb2 Gb2 hwc2 hBc1 hAc1 Gc1 hRc1
    have hrF:=zal hBc2
    obtain ⟨FC,hFC⟩:∃ L,L=chR T PV TM nm tx:=⟨_,rfl⟩
    have hF36:FC.length=36:=by rw[hFC];exact zgv _ _ _ _ _ (uh HT32)
    have hFo:FC.toArray.all (·.oneCell')=true:=by rw[hFC];exact all_oneCell_toArray (zgw _ _ _ _ _ hPo)
    rw[← hFC] at hrF
    have hiF:(Tryz.prog.info? 70).map (·.size)=some FC.length:=by rw[hF36];exact zbv
    have hiF2:(Tryz.prog.info? 70).map (·.size)=some FC.toArray.size:=by simpa using hiF
    have hZF:Z.toArray.size=FC.toArray.size:=by have:=uh HZL;simp[this,hF36]
    obtain ⟨HIF,HIF2,HZF,HFO,HFC⟩:=zh5 hiF hiF2 hZF hFo hFC
    clear hFC hF36 hFo hiF hiF2 hZF
    go_wp2_with (first
     | (rw[← uh HWC2];refine wpList_load_mid rfl 70 _ rfl p 0 rfl FC _ hrF Tryz.underlying70 rfl (uh HIF) ?_;clear hrF)
     | (refine wpList_store_row rfl 70 _ _ rfl w.heap.size FC.toArray rfl rfl _ _ hAc2 (uh HIF2) (uh HZF) (uh HFO) ?_))
    refine bodyPost_ret (results_cell_row rfl _ _ _ _ _ _ _ rfl (hAc2.row FC) Tryz.underlying70 rfl (uh HIF2)) rfl ?_
    have gF:=zam Gc2 FC.toArray (Or.inl (Nat.le_refl _))
    rw[uh HFC] at gF ⊢
    have hOF:=zb3 (uh HOc2) hAc2 (by decide) FC.toArray
    rw[uh HFC] at hOF
    rw[uh HPV,uh HTM] at gF hOF ⊢
    rw[uh HPN,uh HPX] at hOF
    exact ⟨v,rfl,hOF,gF⟩
end Go.Proofs.YthhnfloohbdaiaaGreatDoor
