/- Lemmas. -/
import Derived.Test.YtegbbkgmiklhcaaGreatDoorSSumF
import Derived.Test.YtegbbkgmiklhcaaGreatDoorPkLb
namespace Go.Proofs.YtegbbkgmiklhcaaGreatDoor
open Go.RowKit
set_option maxRecDepth 100000 in
set_option maxHeartbeats 1000000 in
theorem zpx (w:World) (k:Int) (ao:Option Addr) (c:Nat) (d:List UInt8) (hb:Bts w ao c d) (hd:d.length≤35184372088832) (hT:Tabs w):Calls Tryz.prog 17 #[.agg #[.int .i64 k,.slice ao d.length c]] w fun e w'=>e = .returned (.agg ((shaL (putL k d)).map bv).toArray)∧w.grownBy w' none:=by
 obtain ⟨n,hn⟩:∃ n,n=d.length:=⟨_,rfl⟩
 obtain ⟨Z,hZ,hzv⟩:=zep
 obtain ⟨W0,hW0,hB0,g0⟩:∃ W1,W1=w.alloc (.cells #[.int .i64 k,.slice ao n c] 42)∧Blk W1 w.heap.size 42 [.int .i64 k,.slice ao n c]∧w.grownBy W1 none:=zag w _ _
 obtain ⟨W1,hW1,hB1,g1⟩:∃ W1,W1=W0.alloc (.cells Z 47)∧Blk W1 W0.heap.size 47 Z.toList∧W0.grownBy W1 none:=by
  obtain ⟨W1,h1,h2,h3⟩:=zag W0 47 Z.toList
  exact ⟨W1,by simpa using h1,h2,h3⟩
 have hs0:W0.heap.size=w.heap.size+1:=by rw[hW0];simp
 rw[hs0] at hB1
 have hBo:=hB0.kept g1 (by simp)
 have c0:=hBo.cell 0
 have c1:=hBo.cell 1
 simp only[List.getElem?_cons_zero,List.getElem?_cons_succ] at c0 c1
 have G1:=tn g0 g1
 have cp:=zlz W1 k ao c d (hb.kept G1 (fun _ e=>by cases e)) hd
 rw[← hn] at cp ⊢
 have hW:W1=(w.alloc (.cells #[.int .i64 k,.slice ao n c] 42)).alloc (.cells Z 47):=by rw[hW1,hW0]
 obtain ⟨HW,HB1⟩:=zh2 hW hB1
 have hT1:=hT.kept0 G1
 have hpl:(putL k d).length<576460752303423488:=by unfold putL layS;simp[zbb];omega
 obtain ⟨P,hP⟩:∃ P,P=putL k d:=⟨_,rfl⟩
 rw[← hP] at cp hpl ⊢
 obtain ⟨S,hS⟩:∃ S,S=(shaL P).map bv:=⟨_,rfl⟩
 have hSl:S.length=32:=by rw[hS,List.length_map];exact zb2 P
 have hSo:S.toArray.all (·.oneCell')=true:=by rw[hS];exact all_oneCell_toArray (za8 _)
 have hiS:(Tryz.prog.info? 47).map (·.size)=some S.toArray.size:=by rw[show S.toArray.size=32 by simpa using hSl];exact zbi
 have hZS:Z.toList.toArray.size=S.toArray.size:=by simp[hZ,hSl]
 obtain ⟨HI,HZS,HSO,HS⟩:=zh4 hiS hZS hSo hS
 rw[← hS]
 clear hW hW1 hW0 hB0 hB1 g0 g1 hs0 hBo hb hd hn hT hP hS hSl hSo hiS hZS hZ
 go_enter Tryz.func17,Tryz.ntmps17
 go_wp2_with (rw[← uh HW])
 refine cp.mono ?_
 rintro e w2 ⟨v2,rfl,⟨a2,c2,rfl,hb2,_⟩,g2⟩
 have cs:=zrc w2 a2 c2 P hb2 (hT1.kept0 g2) hpl
 rw[← uh HS] at cs
 have hB2:=(uh HB1).kept g2 (by simp)
 have G2:=tn G1 g2
 clear cp hb2 c0 c1 hT1 g2
 go_wp2_with fail
 refine cs.mono ?_
 rintro e w3 ⟨rfl,g3⟩
 have hB3:=hB2.kept g3 (by simp)
 clear cs hB2
 go_wp2_with (refine wpList_store_row rfl 47 _ _ rfl (w.heap.size+1) S.toArray rfl rfl _ _ hB3 (uh HI) (uh HZS) (uh HSO) ?_)
 refine bodyPost_ret (results_cell_row rfl _ _ _ _ _ _ _ rfl (hB3.row S) Tryz.underlying47 rfl (uh HI)) rfl ?_
 exact ⟨rfl,zar (tn G2 g3) _ (Or.inl (Nat.le_succ _))⟩
theorem zfj {b:List UInt8} {s:List Ob} (h:PackOf b s):6≤b.length∧b.take 4=[67,80,75,49]∧numS (b.drop 4) 0 2=(s.length,s.flatMap obB,0)∧rdOs s.length (s.flatMap obB) 0=(s,[],0):=by
 have h1:=zg6 h.ok h.few
 have e:=h.eq
 subst e
 refine ⟨by rw[zl1];omega,zjp.1,h1.1,h1.2⟩
def obAt (l:List Ob) (i:Nat):Ob:=l.getD i (0,[])
def nmAt (l:List Ob) (i:Nat):List UInt8:=obId (obAt l i)
theorem zc0 {l:List Ob} {i:Nat} (h:i<l.length):obAt l i=l[i]:=by
 unfold obAt
 rw[List.getD_eq_getElem?_getD,List.getElem?_eq_getElem h]
 rfl
theorem zup {l:List Ob} (hn:(l.map obId).Nodup) {i j:Nat} (hi:i<l.length) (hj:j<l.length) (h:nmAt l i=nmAt l j):i=j:=by
 unfold nmAt at h
 rw[zc0 hi,zc0 hj] at h
 have key:∀ a b (ha:a<l.length) (hb:b<l.length),a<b→obId l[a]≠obId l[b]:=fun a b ha hb hab=>by
  have:=List.pairwise_iff_getElem.1 hn a b (by simpa using ha) (by simpa using hb) hab
  simpa using this
 rcases Nat.lt_trichotomy i j with q | q | q
 ·exact absurd h (key i j hi hj q)
 ·exact q
 ·exact absurd h.symm (key j i hj hi q)
structure Sel (l:List Ob) (P:List Nat):Prop where
 lt:∀ i∈P,i<l.length
 ris:P.Pairwise fun a b=>zaw (nmAt l a) (nmAt l b)=true
 rest:∀ i,i<l.length→i∈P∨∀ p∈P,zaw (nmAt l p) (nmAt l i)=true
theorem Sel.nil (l:List Ob):Sel l []:=⟨(fun _ h=>by cases h),List.Pairwise.nil,fun _ _=>Or.inr fun _ h=>by cases h⟩
theorem Sel.nodup {l:List Ob} {P:List Nat} (h:Sel l P):P.Nodup:=List.Pairwise.imp (fun {a b} q e=>by subst e;rw[zc7] at q;cases q) h.ris
def znl (P:List Nat):Int:=match P.getLast? with | some p=>(p:Int) | none => -1
theorem zhq (P:List Nat) (b:Nat):znl (P++[b])=(b:Int):=by simp[znl]
theorem Sel.above {l:List Ob} {P:List Nat} {b:Nat} (h:Sel l (P++[b])) {i:Nat} (hi:i<l.length):zaw (nmAt l b) (nmAt l i)=true↔i∉P++[b]:=by
 constructor
 ·intro hl hm
  rcases List.mem_append.1 hm with hm | hm
  ·have:=(List.pairwise_append.1 h.ris).2.2 i hm b (by simp)
   rw[zds _ _ hl] at this
   cases this
  ·rw[List.mem_singleton.1 hm,zc7] at hl
   cases hl
 ·intro hm
  rcases h.rest i hi with q | q
  ·exact absurd q hm
  ·exact q b (by simp)
def Bst (l:List Ob) (P:List Nat) (j:Nat) (best:Int):Prop :=
 (best = -1∧∀ i,i<j→i∈P)∨∃ b:Nat,best=(b:Int)∧b<j∧b∉P∧∀ i,i<j→i∉P→zaw (nmAt l i) (nmAt l b)=false
theorem Bst.start (l:List Ob) (P:List Nat):Bst l P 0 (-1):=Or.inl ⟨rfl,fun _ h=>by omega⟩
theorem Bst.skip {l:List Ob} {P:List Nat} {j:Nat} {best:Int} (h:Bst l P j best) (hj:j∈P):Bst l P (j+1) best:=by
 rcases h with ⟨h1,h2⟩ | ⟨b,h1,h2,h3,h4⟩
 ·exact Or.inl ⟨h1,fun i hi=>by by_cases e:i=j;(rw[e];exact hj);exact h2 i (by omega)⟩
 ·exact Or.inr ⟨b,h1,by omega,h3,fun i hi hn=>by by_cases e:i=j;(rw[e] at hn;exact absurd hj hn);exact h4 i (by omega) hn⟩
theorem Bst.first {l:List Ob} {P:List Nat} {j:Nat} (h:Bst l P j (-1)) (hj:j∉P):Bst l P (j+1) (j:Int):=by
 rcases h with ⟨-,h2⟩ | ⟨b,h1,-⟩
 ·exact Or.inr ⟨j,rfl,by omega,hj,fun i hi hn=>by by_cases e:i=j;(rw[e];exact zc7 _);exact absurd (h2 i (by omega)) hn⟩
 ·omega
theorem Bst.worse {l:List Ob} {P:List Nat} {j b:Nat} (h:Bst l P j (b:Int)) (hl:zaw (nmAt l j) (nmAt l b)=false):Bst l P (j+1) (b:Int):=by
 rcases h with ⟨h1,-⟩ | ⟨c,h1,h2,h3,h4⟩
 ·omega
 ·obtain rfl:b=c:=by omega
  exact Or.inr ⟨b,rfl,by omega,h3,fun i hi hn=>by by_cases e:i=j;(rw[e];exact hl);exact h4 i (by omega) hn⟩
theorem Bst.better {l:List Ob} {P:List Nat} {j b:Nat} (h:Bst l P j (b:Int)) (hj:j∉P) (hl:zaw (nmAt l j) (nmAt l b)=true):Bst l P (j+1) (j:Int):=by
 rcases h with ⟨h1,-⟩ | ⟨c,h1,h2,h3,h4⟩
 ·omega
 ·obtain rfl:b=c:=by omega
  refine Or.inr ⟨j,rfl,by omega,hj,fun i hi hn => ?_⟩
  by_cases e:i=j
  ·rw[e];exact zc7 _
  ·have:=h4 i (by omega) hn
   cases h5:zaw (nmAt l i) (nmAt l j) with
   | false=>rfl
   | true=>rw[zdu _ _ _ h5 hl] at this;cases this
theorem Bst.sel {l:List Ob} {P:List Nat} {best:Int} (hn:(l.map obId).Nodup) (hS:Sel l P) (h:Bst l P l.length best) (hP:P.length<l.length):∃ b:Nat,best=(b:Int)∧b<l.length∧Sel l (P++[b]):=by
 rcases h with ⟨-,h2⟩ | ⟨b,h1,h2,h3,h4⟩
 ·exfalso
  have:=zeg (K:=List.range l.length) (U:=P) List.nodup_range (fun x hx=>h2 x (List.mem_range.1 hx))
  rw[List.length_range] at this
  omega
 ·refine ⟨b,h1,h2,⟨fun i hi => ?_,?_,fun i hi => ?_⟩⟩
  ·rcases List.mem_append.1 hi with hi | hi
   ·exact hS.lt i hi
   ·rw[List.mem_singleton.1 hi];exact h2
  ·refine List.pairwise_append.2 ⟨hS.ris,List.pairwise_singleton _ _,fun a ha c hc => ?_⟩
   rw[List.mem_singleton.1 hc]
   rcases hS.rest b h2 with q | q
   ·exact absurd q h3
   ·exact q a ha
  ·by_cases hm:i∈P++[b]
   ·exact Or.inl hm
   ·have hiP:i∉P:=fun q=>hm (List.mem_append_left _ q)
    refine Or.inr fun p hp => ?_
    rcases List.mem_append.1 hp with hp | hp
    ·rcases hS.rest i hi with q | q
     ·exact absurd q hiP
     ·exact q p hp
    ·rw[List.mem_singleton.1 hp]
     cases h5:zaw (nmAt l b) (nmAt l i) with
     | true=>rfl
     | false =>
      exfalso
      have:=zdt _ _ h5 (h4 i hi hiP)
      exact hm (List.mem_append_right _ (by rw[zup hn hi h2 this.symm];simp))
theorem Sel.all {l:List Ob} {P:List Nat} (h:Sel l P) (hP:P.length=l.length):(P.map (obAt l)).Perm l∧RisO (P.map (obAt l)):=by
 constructor
 ·have hp:P.Perm (List.range l.length):=(List.perm_ext_iff_of_nodup h.nodup List.nodup_range).2 fun i=>by
   rw[List.mem_range]
   refine ⟨h.lt i,fun hi => ?_⟩
   apply Classical.byContradiction
   intro hm
   have h1:(i::P).Nodup:=List.nodup_cons.2 ⟨hm,h.nodup⟩
   have:=zeg (U:=List.range l.length) h1 fun x hx=>by
    rcases List.mem_cons.1 hx with rfl | hx
    ·exact List.mem_range.2 hi
    ·exact List.mem_range.2 (h.lt x hx)
   rw[List.length_range,List.length_cons] at this
   omega
  have e:(List.range l.length).map (obAt l)=l:=by
   refine List.ext_getElem (by simp) fun i h1 h2 => ?_
   simp only[List.getElem_map,List.getElem_range]
   exact zc0 h2
  have:=hp.map (obAt l)
  rw[e] at this
  exact this
 ·unfold RisO
  rw[List.pairwise_map]
  exact h.ris
end Go.Proofs.YtegbbkgmiklhcaaGreatDoor
