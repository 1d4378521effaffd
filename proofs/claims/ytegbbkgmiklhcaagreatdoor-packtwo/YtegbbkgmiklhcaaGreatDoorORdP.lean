/- Lemmas. -/
import Derived.Test.YtegbbkgmiklhcaaGreatDoorORdC
namespace Go.Proofs.YtegbbkgmiklhcaaGreatDoor
open Go.RowKit
theorem znm {d t0 l1 l2 l3 l4 lb1 lc1 nm tx:List UInt8} {e1 e2 e3 e4 eb1 ec1:Int} {n0 tm:Nat} {ps:List (List UInt8)} (h1:rawS d 0 32=(t0,l1,e1)) (h2:numS l1 e1 1=(n0,l2,e2)) (h3:runP (l2,e2) (min n0 4)=(ps,l3,e3)) (h4:numS l3 e3 8=(tm,l4,e4)) (h5:zak l4 e4=(nm,lb1,eb1)) (h6:zak lb1 eb1=(tx,lc1,ec1)):zbi d=⟨zb1 t0,ps,tm,nm,tx⟩:=by
 unfold zbi
 simp only[h1,h2,h3,h4,h5,h6]
theorem zda {w:World} {base k n:Nat} {t:TypeId} {v:Value} {xs:List Value} (h:w.ownsRow base t k v n xs):v.oneCell'=true:=by
 rcases h.2 with ⟨rfl,_⟩ | ⟨g,cap,cur,rfl,_⟩ <;> rfl
theorem zb3 {w:World} {base k n:Nat} {t:TypeId} {v:Value} {xs:List Value} (h:w.ownsRow base t k v n xs):∃ ao c,v = .slice ao n c:=by
 rcases h.2 with ⟨rfl,h2⟩ | ⟨g,cap,cur,rfl,_⟩
 ·exact ⟨_,_,by rw[h2]⟩
 ·exact ⟨_,_,rfl⟩
theorem zan {V:World} {base k n:Nat} {v:Value} {xs cs:List Value} {p:Nat} {t e:TypeId} (h:V.ownsRow base e k v n xs) (hB:Blk V p t cs) (ht:t≠e):some p≠v.ownBlock:=by
 rcases h.2 with ⟨rfl,_⟩ | ⟨g,cap,cur,rfl,hg,hh,_⟩
 ·intro e;cases e
 ·intro e2
  have:p=g:=by simpa[Value.ownBlock] using e2
  subst this
  unfold Blk at hB
  rw[hB] at hh
  injection hh with h3
  injection h3 with _ h4
  exact ht h4
theorem zaz {V:World} {base k n:Nat} {v:Value} {xs cs:List Value} {p:Nat} {t e:TypeId} (h:V.ownsRow base e k v n xs) (hB:Blk V p t cs) (ht:t≠e) (j:Nat) (u:Value):(V.setCell ⟨p,j,none⟩ u).ownsRow base e k v n xs :=
 h.kept (zdj V p j u) (Or.inr fun e=>zan h hB ht e.symm)
theorem zby {V:World} {base k n:Nat} {v:Value} {xs cs:List Value} {p:Nat} {t e:TypeId} (h:V.ownsRow base e k v n xs) (hB:Blk V p t cs) (ht:t≠e) (u:Array Value):(V.setRow p u).ownsRow base e k v n xs :=
 h.kept (zaq (zab _ (some p)) u (Or.inr rfl)) (Or.inr fun e=>zan h hB ht e.symm)
theorem zjc (qs:List (List UInt8)) (I:List UInt8):(qs++[I]).flatMap (·.map bv)=qs.flatMap (·.map bv)++I.map bv:=by simp
set_option maxRecDepth 100000 in
set_option maxHeartbeats 8000000 in
theorem zih (w:World) (rb:Nat) (d:List UInt8) (hl:d.length≤1000000) (h:Rd w rb d 0) :
  Calls Tryz.prog 120 #[.int .i64 3,.pointer (some ⟨rb,0,none⟩)] w fun e w'=>∃ v,e = .returned (.agg (chR (zbi d).tree v (zbi d).time (zbi d).author (zbi d).text).toArray)∧w'.ownsRow w.heap.size 47 32 v (zbi d).pars.length ((zbi d).pars.flatMap (·.map bv))∧w.grownBy w' (some rb):=by
 obtain ⟨⟨t0,l1,e1⟩,h1⟩:∃ a,rawS d 0 32=a:=⟨_,rfl⟩
 obtain ⟨⟨n0,l2,e2⟩,h2⟩:∃ a,numS l1 e1 1=a:=⟨_,rfl⟩
 obtain ⟨⟨ps,l3,e3⟩,h3⟩:∃ a,runP (l2,e2) (min n0 4)=a:=⟨_,rfl⟩
 obtain ⟨⟨tm,la,ea⟩,h4⟩:∃ a,numS l3 e3 8=a:=⟨_,rfl⟩
 obtain ⟨⟨nm,lb1,eb1⟩,h5⟩:∃ a,zak la ea=a:=⟨_,rfl⟩
 obtain ⟨⟨tx,lc1,ec1⟩,h6⟩:∃ a,zak lb1 eb1=a:=⟨_,rfl⟩
 rw[znm h1 h2 h3 h4 h5 h6]
 simp only
 have hrb:=h.lt
 obtain ⟨Z,hZ⟩:∃ Z:List Value,Z=chR (List.replicate 32 0) (.slice none 0 0) 0 [] []:=⟨_,rfl⟩
 have hzv:∀ w,(zeroValue 156).run Tryz.prog w = .ok (.agg Z.toArray) w:=fun w=>by rw[hZ];exact zfi w
 have hZl:Z.length=36:=by rw[hZ];rfl
 obtain ⟨W1,hW1,hB1,g1⟩:∃ W1,W1=w.alloc (.cells Z.toArray 156)∧Blk W1 w.heap.size 156 Z∧w.grownBy W1 none:=zah w _ _
 have ci:=zca W1 rb d 0 (by omega) (h.kept g1 (Or.inl rfl))
 have hl1:=zcg d 0 32
 have hT32:=zbj d 0
 rw[h1] at ci hl1 hT32
 simp only at ci hl1 hT32
 obtain ⟨T,hT⟩:∃ T,T=zb1 t0:=⟨_,rfl⟩
 rw[← hT] at ci hT32 ⊢
 have hbt:Tryz.prog.built 156 [(0,.agg (T.map bv).toArray)]=some (chR T (.slice none 0 0) 0 [] []).toArray:=zf6 T hT32
 obtain ⟨TV,hTV⟩:∃ V,V=Value.agg (T.map bv).toArray:=⟨_,rfl⟩
 rw[← hTV] at ci hbt
 obtain ⟨CB,hCB⟩:∃ L,L=chR T (.slice none 0 0) 0 [] []:=⟨_,rfl⟩
 rw[← hCB] at hbt
 have hCl:CB.length=36:=by rw[hCB];exact zec _ _ _ _ _ hT32
 have hCo:CB.toArray.all (·.oneCell')=true:=by rw[hCB];exact all_oneCell_toArray (zed _ _ _ _ _ rfl)
 obtain ⟨HW1,HB1,HG1,HZL,HBT,HCB⟩:=zh6 hW1 hB1 g1 hZl hbt hCB
 obtain ⟨HCO,HCL,HT32⟩:=zh3 hCo hCl hT32
 clear hZ hZl hW1 hB1 g1 hT hbt hTV hCB hCl hCo hT32 h
 have hl2:=zbc l1 e1 1
 rw[h2] at hl2
 have hl3:=zc9 (l2,e2) (min n0 4)
 rw[h3] at hl3
 have hla:=zbc l3 e3 8
 rw[h4] at hla
 have hlb:=zbb la ea
 rw[h5] at hlb
 simp only at hl2 hl3 hla hlb
 have h2a:l2.length≤1000000:=by omega
 obtain ⟨m,hm⟩:∃ m,m=min n0 4:=⟨_,rfl⟩
 have hm4:m≤4:=by omega
 rw[← hm] at h3
 have hcase:(4<n0∧m=4)∨n0=m:=by omega
 obtain ⟨H2,H3,H4⟩:=zh3 h2 h3 h4
 have HNM:=hide h5.symm
 have HTX:=hide h6.symm
 have H2A:=hide h2a
 have h3a:l3.length≤1000000:=by omega
 have haa:la.length≤1000000:=by omega
 have hba:lb1.length≤1000000:=by omega
 clear h1 h2 h3 h4 h5 h6 hm hl2 hl3 hla hlb h2a
 go_enter Tryz.func120,Tryz.ntmps120
 go_wp2_with (rw[← uh HW1])
 refine ci.mono ?_
 rintro e w2 ⟨rfl,hR2,g2⟩
 clear ci
 obtain ⟨W3,hW3,hB3,g3⟩:=zbg w2 156 Z.toArray CB
 have G2:w.grownBy w2 (some rb):=zac (zao _ (uh HG1)) g2 (fun x e=>Or.inr e)
 have hA2:=(uh HB1).kept g2 (by simp;omega)
 have HA3:=hide (hA2.kept g3 (by simp))
 have HR3:=hide (hR2.kept g3 (Or.inl rfl))
 have HG3:=hide (tn G2 g3)
 have hps:w.heap.size<w2.heap.size:=hA2.lt
 have hp2:rb<w2.heap.size:=hR2.lt
 obtain ⟨p,hp⟩:∃ p,p=w2.heap.size:=⟨_,rfl⟩
 rw[← hp] at hB3 hps hp2 hW3
 have HB3:Hid (Blk W3 p 156 (chR T (.slice none 0 0) 0 [] [])):=by rw[← uh HCB];exact hB3
 obtain ⟨HP,HW3⟩:=zh2 hp hW3
 have hi36:(Tryz.prog.info? 156).map (·.size)=some CB.toArray.size:=by rw[show CB.toArray.size=36 by simpa using uh HCL];exact zbs
 have HI36:=hide hi36
 have hZ36:Z.toArray.size=CB.toArray.size:=by rw[show CB.toArray.size=36 by simpa using uh HCL];simpa using uh HZL
 have HZ36:=hide hZ36
 clear hW3 hB3 g3 G2 hA2 hR2 g2 hp hi36 hZ36
 go_wp2_with (first
  | (refine za3 rfl 156 _ rfl CB.toArray ?hbs ?_)
  | (refine wpList_store_row rfl 156 _ _ rfl w2.heap.size CB.toArray rfl rfl _ _ (heap_alloc_new _ _) (uh HI36) (uh HZ36) (uh HCO) ?_;rw[← uh HP,← uh HW3]))
 case hbs=>simpa using uh HBT
 have cn:=zc1 W3 rb l1 e1 1 (uh HR3)
 rw[uh H2] at cn
 simp only at cn
 refine cn.mono ?_
 rintro e w4 ⟨rfl,hR4,g4⟩
 have HB4:=hide ((uh HB3).kept g4 (by simp;omega))
 have HA4:=hide ((uh HA3).kept g4 (by simp;omega))
 have HG4:=hide (zac (uh HG3) g4 (fun x e=>Or.inr e))
 clear cn g4 HB3 HA3 HR3 HG3 H2
 rcases hcase with ⟨hc,hm⟩ | hm
 ·have hci:(4:Int)<(n0:Int):=by omega
  have h32:Value.int IntKind.u64 4=Value.int IntKind.u64 (m:Int):=by rw[hm];rfl
  have H32:=hide h32
  clear h32 hm hc
  go_wp2
  rw[uh H32]
  clear H32 hci
  go_loopw [17] (fun i wr=>∃ (j:Nat) (qs:List (List UInt8)) (l' : List UInt8) (e' : Int) (v:Value),j≤m∧i = .int .u64 (j:Int)∧Hid (runP (l2,e2) j=(qs,l',e'))∧Hid (Blk wr p 156 (chR T v 0 [] []))∧wr.ownsRow w.heap.size 47 32 v qs.length (qs.flatMap (·.map bv))∧Hid (Blk wr w.heap.size 156 Z)∧Rd wr rb l' e'∧w.grownBy wr (some rb)) (fun i _=>m - (intOf i).toNat)
  case atStart=>exact ⟨0,[],l2,e2,.slice none 0 0,Nat.zero_le _,rfl,rfl,HB4,World.ownsRow_nil _ _ _ _,HA4,hR4,uh HG4⟩
  case round =>
   obtain ⟨j,qs,l',e',v,hj,rfl,HE,HB,hO,HA,hR,hg⟩:=hrel
   by_cases hlt:j<m
   ·have hel:qs.length=j:=by have:=zgw (l2,e2) j;rw[uh HE] at this;exact this
    have hlf:l'.length≤1000000:=by have:=zc9 (l2,e2) j;rw[uh HE] at this;exact Nat.le_trans this (uh H2A)
    have ci:∀ V,Rd V rb l' e'→Calls Tryz.prog 134 #[.pointer (some ⟨rb,0,none⟩)] V fun e w'=>e = .returned (.agg ((zb1 (rawS l' e' 32).1).map bv).toArray)∧Rd w' rb (rawS l' e' 32).2.1 (rawS l' e' 32).2.2∧V.grownBy w' (some rb):=fun V hV=>zca V rb l' e' (by omega) hV
    have hI32:=zbj l' e'
    obtain ⟨⟨y,l5,e5⟩,ha⟩:∃ a,a=rawS l' e' 32:=⟨_,rfl⟩
    rw[← ha] at ci hI32
    simp only at ci hI32
    have hrd:=zf8 (uh HE) ha.symm
    clear ha
    obtain ⟨I,hI⟩:∃ I,I=zb1 y:=⟨_,rfl⟩
    rw[← hI] at ci hI32 hrd
    have hbs:=zif I hI32
    have hfl:=zjc qs I
    obtain ⟨HFL,HRD⟩:=zh2 hfl hrd
    have h0:w.grownBy wr.drew (some rb):=zas hg
    have hRd:Rd wr.drew rb l' e':=hR.kept (zas (zab _ none)) (Or.inl rfl)
    have hOd:=za8 hO (zas (zab wr none)) (fun x e=>by cases e)
    have hBd:=(uh HB).drew
    have hAd:=(uh HA).drew
    have hj100:qs.length≤100000:=by omega
    clear hI hfl hrd hO hR hg HE hlf hel HB HA
    go_upto_region 7 with fail
    refine wp_region_noPanic ?_
    refine wp_region_held_drew (S:=fun V=>w.grownBy V (some rb)) (by kernel_rfl) h0 (fun _ => ?_)
    refine tq 0 19 (.fieldAddr 156 (.tmp 5) 1) (.pointer (some ⟨p,32,none⟩)) h0 ?_
    refine tq 2 21 (.move (.tmp 1)) (.pointer (some ⟨rb,0,none⟩)) h0 ?_
    (try simp only[pq])
    refine wpAnyH_ready (rs:=[1,3]) (by kernel_rfl) (by simp) ?_
    refine AllReadyH.cons (o:=⟨some 20,.load 59 (.tmp 19),_,_,_,_⟩) rfl (fun K9 hK9 => ?_) (AllReadyH.cons (o:=⟨some 22,.call { callee := .value (.func 134),args := #[(.tmp 21)],argTypes := #[84] },_,_,_,_⟩) rfl (fun K9 hK9 => ?_) AllReadyH.nil)
    ·have hc4:=hBd.cell 32
     rw[(zbl _ _ _ _ _ (uh HT32)).1] at hc4
     go_simp
     clear hc4
     refine hK9.out _ _ h0 (fun _ => ?_)
     clear hK9 K9
     (try simp only[pq])
     refine rdq 3 (some 22) (.call { callee := .value (.func 134),args := #[(.tmp 21)],argTypes := #[84] }) (fun K9 hK9 => ?_)
     go_simp
     go_at_call 134
     refine (ci _ hRd).mono ?_
     rintro e w4 ⟨rfl,hR4,g4⟩
     have G4:w.grownBy w4 (some rb):=zac h0 g4 (fun x e=>Or.inr e)
     go_wp2_with fail
     refine hK9.out _ _ G4 (fun _ => ?_)
     clear hK9 K9
     (try simp only[pq])
     have hB4:=hBd.kept g4 (by simp;omega)
     have hA4:=hAd.kept g4 (by simp;omega)
     have hO4:=za8 hOd g4 (fun x e=>by cases e;exact hrb)
     clear ci hRd hBd hAd hOd g4
     refine rdq 4 (some 23) (.buildSlice 59 1 #[(0,(.tmp 22))]) (fun K9 hK9 => ?_)
     obtain ⟨w5,hw5,hE5,g5⟩:=zah w4 47 (I.map bv)
     refine za4 (by rfl) _ _ rfl _ _ rfl (hbs w4) ?_
     rw[← hw5]
     have G5:=tn G4 g5
     refine hK9.out _ _ G5 (fun _ => ?_)
     clear hK9 K9 hw5
     (try simp only[pq])
     have hO5:=za8 hO4 g5 (fun x e=>by cases e)
     have hR5:=hR4.kept g5 (Or.inl rfl)
     have hB5:=hB4.kept g5 (by simp)
     have hA5:=hA4.kept g5 (by simp)
     refine rdq 5 (some 24) (.call { callee := .builtin .append,args := #[(.tmp 20),(.tmp 23)],argTypes := #[59,59] }) (fun K9 hK9 => ?_)
     refine za7 (by rfl) _ _ rfl w.heap.size v _ _ rfl hO5 _ (I.map bv) hE5 (by simpa using hI32) (zaw _) rfl hj100 G5.size ?_
     intro v6 w6 hO6 g6
     obtain ⟨q6,k6,e6⟩:=zb3 hO6
     subst e6
     have G6:w.grownBy w6 (some rb):=zac G5 g6 (fun x e=>Or.inl (hO5.lt x e).1)
     have hR6:Rd w6 rb l5 e5:=hR5.keptTyp g6 (fun x e=>⟨by have:=(hO5.lt x e).1;omega,zbx hO5 e (by decide)⟩)
     have hB6:=hB5.kept g6 (zan hO5 hB5 (by decide))
     have hA6:=hA5.kept g6 (zan hO5 hA5 (by decide))
     refine hK9.out _ _ G6 (fun _ => ?_)
     clear hK9 K9 g6 hO5 hR5 hB5 hA5 hE5 g5
     refine tq 6 25 (.fieldAddr 156 (.tmp 5) 1) (.pointer (some ⟨p,32,none⟩)) G6 ?_
     (try simp only[pq])
     have hc6:=hB6.cell 32
     rw[(zbl _ _ _ _ _ (uh HT32)).1] at hc6
     have hf6:=hB6.fz 32
     obtain ⟨w7,hw7⟩:∃ V,V=w6.setCell ⟨p,32,none⟩ (.slice q6 (qs.length+1) k6):=⟨_,rfl⟩
     have hB7:Blk w7 p 156 (chR T (.slice q6 (qs.length+1) k6) 0 [] []):=by
      have:=hB6.set 32 (.slice q6 (qs.length+1) k6)
      rw[(zbu _ _ (.slice q6 (qs.length+1) k6) _ 0 _ [] _ [] (uh HT32)).1] at this
      rw[hw7];exact this
     have hA7:Blk w7 w.heap.size 156 Z:=by rw[hw7];exact hA6.other _ _ (by simp;omega)
     have hR7:Rd w7 rb l5 e5:=by rw[hw7];exact hR6.blk hB6 (by decide) (by omega) 32 _
     have G7:w.grownBy w7 (some rb):=by rw[hw7];exact zae G6 _ _ (Or.inl (by simp;omega))
     have hO7:=(show w7.ownsRow w.heap.size 47 32 (.slice q6 (qs.length+1) k6) _ _ by rw[hw7];exact zaz hO6 hB6 (by decide) 32 _)
     have h1c:=zda hO7
     refine rdq 7 none (.store 59 (.tmp 25) (.tmp 24)) (fun K9 hK9 => ?_)
     go_simp
     rw[← hw7]
     refine hK9.out _ _ G7 (fun _ => ?_)
     clear hK9 K9 hw7 hc6 hf6 hB6 hA6 hR6 hO6 G6
     (try simp only[pq])
     refine wpAnyH_done (by kernel_rfl) ?_ _
     refine NoPanic.normal ?_
     obtain ⟨HB7,HO7,HA7⟩:=zh3 hB7 hO7 hA7
     clear hB7 hO7 hA7 h1c
     go_wp2
     go_roundw
     case rel =>
      refine ⟨j+1,_,l5,e5,_,by omega,by go_num,HRD,HB7,?_,HA7,hR7,G7⟩
      rw[List.length_append,uh HFL]
      exact uh HO7
     case measure=>simp[intOf];omega
    ·go_simp
     go_at_call 134
     refine (ci _ hRd).mono ?_
     rintro e w4 ⟨rfl,hR4,g4⟩
     have G4:w.grownBy w4 (some rb):=zac h0 g4 (fun x e=>Or.inr e)
     go_wp2_with fail
     refine hK9.out _ _ G4 (fun _ => ?_)
     clear hK9 K9
     (try simp only[pq])
     have hB4:=hBd.kept g4 (by simp;omega)
     have hA4:=hAd.kept g4 (by simp;omega)
     have hO4:=za8 hOd g4 (fun x e=>by cases e;exact hrb)
     clear ci hRd hBd hAd hOd g4
     refine wpAnyH_ready (rs:=[1,4]) (by kernel_rfl) (by simp) ?_
     refine AllReadyH.cons (o:=⟨some 20,.load 59 (.tmp 19),_,_,_,_⟩) rfl (fun K9 hK9 => ?_) (AllReadyH.cons (o:=⟨some 23,.buildSlice 59 1 #[(0,(.tmp 22))],_,_,_,_⟩) rfl (fun K9 hK9 => ?_) AllReadyH.nil)
     ·have hc4:=hB4.cell 32
      rw[(zbl _ _ _ _ _ (uh HT32)).1] at hc4
      go_simp
      clear hc4
      refine hK9.out _ _ G4 (fun _ => ?_)
      clear hK9 K9
      (try simp only[pq])
      refine rdq 4 (some 23) (.buildSlice 59 1 #[(0,(.tmp 22))]) (fun K9 hK9 => ?_)
      obtain ⟨w5,hw5,hE5,g5⟩:=zah w4 47 (I.map bv)
      refine za4 (by rfl) _ _ rfl _ _ rfl (hbs w4) ?_
      rw[← hw5]
      have G5:=tn G4 g5
      refine hK9.out _ _ G5 (fun _ => ?_)
      clear hK9 K9 hw5
      (try simp only[pq])
      have hO5:=za8 hO4 g5 (fun x e=>by cases e)
      have hR5:=hR4.kept g5 (Or.inl rfl)
      have hB5:=hB4.kept g5 (by simp)
      have hA5:=hA4.kept g5 (by simp)
      refine rdq 5 (some 24) (.call { callee := .builtin .append,args := #[(.tmp 20),(.tmp 23)],argTypes := #[59,59] }) (fun K9 hK9 => ?_)
      refine za7 (by rfl) _ _ rfl w.heap.size v _ _ rfl hO5 _ (I.map bv) hE5 (by simpa using hI32) (zaw _) rfl hj100 G5.size ?_
      intro v6 w6 hO6 g6
      obtain ⟨q6,k6,e6⟩:=zb3 hO6
      subst e6
      have G6:w.grownBy w6 (some rb):=zac G5 g6 (fun x e=>Or.inl (hO5.lt x e).1)
      have hR6:Rd w6 rb l5 e5:=hR5.keptTyp g6 (fun x e=>⟨by have:=(hO5.lt x e).1;omega,zbx hO5 e (by decide)⟩)
      have hB6:=hB5.kept g6 (zan hO5 hB5 (by decide))
      have hA6:=hA5.kept g6 (zan hO5 hA5 (by decide))
      refine hK9.out _ _ G6 (fun _ => ?_)
      clear hK9 K9 g6 hO5 hR5 hB5 hA5 hE5 g5
      refine tq 6 25 (.fieldAddr 156 (.tmp 5) 1) (.pointer (some ⟨p,32,none⟩)) G6 ?_
      (try simp only[pq])
      have hc6:=hB6.cell 32
      rw[(zbl _ _ _ _ _ (uh HT32)).1] at hc6
      have hf6:=hB6.fz 32
      obtain ⟨w7,hw7⟩:∃ V,V=w6.setCell ⟨p,32,none⟩ (.slice q6 (qs.length+1) k6):=⟨_,rfl⟩
      have hB7:Blk w7 p 156 (chR T (.slice q6 (qs.length+1) k6) 0 [] []):=by
       have:=hB6.set 32 (.slice q6 (qs.length+1) k6)
       rw[(zbu _ _ (.slice q6 (qs.length+1) k6) _ 0 _ [] _ [] (uh HT32)).1] at this
       rw[hw7];exact this
      have hA7:Blk w7 w.heap.size 156 Z:=by rw[hw7];exact hA6.other _ _ (by simp;omega)
      have hR7:Rd w7 rb l5 e5:=by rw[hw7];exact hR6.blk hB6 (by decide) (by omega) 32 _
      have G7:w.grownBy w7 (some rb):=by rw[hw7];exact zae G6 _ _ (Or.inl (by simp;omega))
      have hO7:=(show w7.ownsRow w.heap.size 47 32 (.slice q6 (qs.length+1) k6) _ _ by rw[hw7];exact zaz hO6 hB6 (by decide) 32 _)
      have h1c:=zda hO7
      refine rdq 7 none (.store 59 (.tmp 25) (.tmp 24)) (fun K9 hK9 => ?_)
      go_simp
      rw[← hw7]
      refine hK9.out _ _ G7 (fun _ => ?_)
      clear hK9 K9 hw7 hc6 hf6 hB6 hA6 hR6 hO6 G6
      (try simp only[pq])
      refine wpAnyH_done (by kernel_rfl) ?_ _
      refine NoPanic.normal ?_
      obtain ⟨HB7,HO7,HA7⟩:=zh3 hB7 hO7 hA7
      clear hB7 hO7 hA7 h1c
      go_wp2
      go_roundw
      case rel =>
       refine ⟨j+1,_,l5,e5,_,by omega,by go_num,HRD,HB7,?_,HA7,hR7,G7⟩
       rw[List.length_append,uh HFL]
       exact uh HO7
      case measure=>simp[intOf];omega
     ·obtain ⟨w5,hw5,hE5,g5⟩:=zah w4 47 (I.map bv)
      refine za4 (by rfl) _ _ rfl _ _ rfl (hbs w4) ?_
      rw[← hw5]
      have G5:=tn G4 g5
      refine hK9.out _ _ G5 (fun _ => ?_)
      clear hK9 K9 hw5
      (try simp only[pq])
      have hO5:=za8 hO4 g5 (fun x e=>by cases e)
      have hR5:=hR4.kept g5 (Or.inl rfl)
      have hB5:=hB4.kept g5 (by simp)
      have hA5:=hA4.kept g5 (by simp)
      refine rdq 1 (some 20) (.load 59 (.tmp 19)) (fun K9 hK9 => ?_)
      have hc4:=hB5.cell 32
      rw[(zbl _ _ _ _ _ (uh HT32)).1] at hc4
      go_simp
      clear hc4
      refine hK9.out _ _ G5 (fun _ => ?_)
      clear hK9 K9
      (try simp only[pq])
      refine rdq 5 (some 24) (.call { callee := .builtin .append,args := #[(.tmp 20),(.tmp 23)],argTypes := #[59,59] }) (fun K9 hK9 => ?_)
      refine za7 (by rfl) _ _ rfl w.heap.size v _ _ rfl hO5 _ (I.map bv) hE5 (by simpa using hI32) (zaw _) rfl hj100 G5.size ?_
      intro v6 w6 hO6 g6
      obtain ⟨q6,k6,e6⟩:=zb3 hO6
      subst e6
      have G6:w.grownBy w6 (some rb):=zac G5 g6 (fun x e=>Or.inl (hO5.lt x e).1)
      have hR6:Rd w6 rb l5 e5:=hR5.keptTyp g6 (fun x e=>⟨by have:=(hO5.lt x e).1;omega,zbx hO5 e (by decide)⟩)
      have hB6:=hB5.kept g6 (zan hO5 hB5 (by decide))
      have hA6:=hA5.kept g6 (zan hO5 hA5 (by decide))
      refine hK9.out _ _ G6 (fun _ => ?_)
      clear hK9 K9 g6 hO5 hR5 hB5 hA5 hE5 g5
      refine tq 6 25 (.fieldAddr 156 (.tmp 5) 1) (.pointer (some ⟨p,32,none⟩)) G6 ?_
      (try simp only[pq])
      have hc6:=hB6.cell 32
      rw[(zbl _ _ _ _ _ (uh HT32)).1] at hc6
      have hf6:=hB6.fz 32
      obtain ⟨w7,hw7⟩:∃ V,V=w6.setCell ⟨p,32,none⟩ (.slice q6 (qs.length+1) k6):=⟨_,rfl⟩
      have hB7:Blk w7 p 156 (chR T (.slice q6 (qs.length+1) k6) 0 [] []):=by
       have:=hB6.set 32 (.slice q6 (qs.length+1) k6)
       rw[(zbu _ _ (.slice q6 (qs.length+1) k6) _ 0 _ [] _ [] (uh HT32)).1] at this
       rw[hw7];exact this
      have hA7:Blk w7 w.heap.size 156 Z:=by rw[hw7];exact hA6.other _ _ (by simp;omega)
      have hR7:Rd w7 rb l5 e5:=by rw[hw7];exact hR6.blk hB6 (by decide) (by omega) 32 _
      have G7:w.grownBy w7 (some rb):=by rw[hw7];exact zae G6 _ _ (Or.inl (by simp;omega))
      have hO7:=(show w7.ownsRow w.heap.size 47 32 (.slice q6 (qs.length+1) k6) _ _ by rw[hw7];exact zaz hO6 hB6 (by decide) 32 _)
      have h1c:=zda hO7
      refine rdq 7 none (.store 59 (.tmp 25) (.tmp 24)) (fun K9 hK9 => ?_)
      go_simp
      rw[← hw7]
      refine hK9.out _ _ G7 (fun _ => ?_)
      clear hK9 K9 hw7 hc6 hf6 hB6 hA6 hR6 hO6 G6
      (try simp only[pq])
      refine wpAnyH_done (by kernel_rfl) ?_ _
      refine NoPanic.normal ?_
      obtain ⟨HB7,HO7,HA7⟩:=zh3 hB7 hO7 hA7
      clear hB7 hO7 hA7 h1c
      go_wp2
      go_roundw
      case rel =>
       refine ⟨j+1,_,l5,e5,_,by omega,by go_num,HRD,HB7,?_,HA7,hR7,G7⟩
       rw[List.length_append,uh HFL]
       exact uh HO7
      case measure=>simp[intOf];omega
   ·have hjm:j=m:=by omega
    have hq:qs=ps∧l'=l3∧e'=e3:=by
     have h1:=uh HE
     rw[hjm,uh H3] at h1
     injection h1 with h2 h4
     injection h4 with h5 h6
     exact ⟨h2.symm,h5.symm,h6.symm⟩
    obtain ⟨hq1,hq2,hq3⟩:=hq
    rw[hq1] at hO
    rw[hq2,hq3] at hR
    have cn:=zc1 wr rb l3 e3 8 hR
    rw[uh H4] at cn
    simp only at cn
    clear hjm hq1 hq2 hq3 HE hR
    go_wp2_with fail
    refine cn.mono ?_
    rintro e w5 ⟨rfl,hR5,g5⟩
    have hB5:=(uh HB).kept g5 (by simp;omega)
    have hA5:=(uh HA).kept g5 (by simp;omega)
    have G5:w.grownBy w5 (some rb):=zac hg g5 (fun x e=>Or.inr e)
    have hO5:=za8 hO g5 (fun x e=>by cases e;exact hrb)
    have hc5:=hB5.cell 33
    rw[(zbl _ _ _ _ _ (uh HT32)).2.1] at hc5
    have hf5:=hB5.fz 33
    obtain ⟨wa,hwa⟩:∃ V,V=w5.setCell ⟨p,33,none⟩ (.int .u64 (tm:Int)):=⟨_,rfl⟩
    obtain ⟨TM,hTM⟩:∃ n:Nat,n=tm:=⟨_,rfl⟩
    obtain ⟨PV,hPV⟩:∃ V:Value,V=v:=⟨_,rfl⟩
    obtain ⟨PN,hPN⟩:∃ n,n=ps.length:=⟨_,rfl⟩
    obtain ⟨PX,hPX⟩:∃ n,n=ps.flatMap (·.map bv):=⟨_,rfl⟩
    have hPo:PV.oneCell'=true:=by rw[hPV];exact zda hO5
    have hBa:Blk wa p 156 (chR T PV TM [] []):=by
     have:=hB5.set 33 (.int .u64 (tm:Int))
     rw[(zbu _ _ v _ tm _ [] _ [] (uh HT32)).2.1] at this
     rw[hwa,hTM,hPV];exact this
    have hAa:Blk wa w.heap.size 156 Z:=by rw[hwa];exact hA5.other _ _ (by simp;omega)
    have hRa:Rd wa rb la ea:=by rw[hwa];exact hR5.blk hB5 (by decide) (by omega) 33 _
    have Ga:w.grownBy wa (some rb):=by rw[hwa];exact zae G5 _ _ (Or.inl (by simp;omega))
    have HOa:=hide (show wa.ownsRow w.heap.size 47 32 PV PN PX by rw[hwa,hPV,hPN,hPX];exact zaz hO5 hB5 (by decide) 33 _)
    obtain ⟨HWA,HTM,HPV,HPN,HPX⟩:=zh5 hwa hTM hPV hPN hPX
    have cs1:=zb0 wa rb la ea (by omega) hRa
    clear hwa hTM hPV hPN hPX HB HA hg hR5 g5 hB5 hA5 G5 hO5 hO cn
    go_wp2_with (rw[← uh HWA])
    clear hc5 hf5
    rw[← uh HNM] at cs1
    simp only at cs1
    refine cs1.mono ?_
    rintro e wb1 ⟨v1,rfl,⟨ao1,k1,rfl,hb1,hn1⟩,hR1,g1⟩
    have hcv1:=za6 hb1
    have hBb1:=hBa.kept g1 (by simp;omega)
    have hAb1:=hAa.kept g1 (by simp;omega)
    have Gb1:w.grownBy wb1 (some rb):=zac Ga g1 (fun x e=>Or.inr e)
    have hc1:=hBb1.cell 34
    rw[(zbl _ _ _ _ _ (uh HT32)).2.2.1] at hc1
    have hf1:=hBb1.fz 34
    obtain ⟨wc1,hwc1⟩:∃ V,V=wb1.setCell ⟨p,34,none⟩ (.string (str nm)):=⟨_,rfl⟩
    have hBc1:Blk wc1 p 156 (chR T PV TM nm []):=by
     have:=hBb1.set 34 (.string (str nm))
     rw[(zbu _ _ (.slice none 0 0) _ 0 _ nm _ nm (uh HT32)).2.2.1] at this
     rw[hwc1];exact this
    have hAc1:Blk wc1 w.heap.size 156 Z:=by rw[hwc1];exact hAb1.other _ _ (by simp;omega)
    have hRc1:Rd wc1 rb lb1 eb1:=by rw[hwc1];exact hR1.blk hBb1 (by decide) (by omega) 34 _
    have Gc1:w.grownBy wc1 (some rb):=by rw[hwc1];exact zae Gb1 _ _ (Or.inl (by simp;omega))
    have HWC1:=hide hwc1
    have HOb1:=za8 (uh HOa) g1 (fun x e=>by cases e;exact hrb)
    have HOc1:=hide (show wc1.ownsRow w.heap.size 47 32 PV PN PX by rw[hwc1];exact zaz HOb1 hBb1 (by decide) 34 _)
    clear HOb1 HOa
    clear cs1 hb1 hn1 hR1 g1 hBb1 hAb1 Gb1 hwc1 hBa hAa Ga hRa
    have cs2:=zb0 wc1 rb lb1 eb1 (by omega) hRc1
    rw[← uh HTX] at cs2
    simp only at cs2
    have hBc1':=hide hBc1
    go_wp2_with (rw[← uh HWC1])
    clear hcv1 hc1 hf1
    refine cs2.mono ?_
    rintro e wb2 ⟨v2,rfl,⟨ao2,k2,rfl,hb2,hn2⟩,hR2,g2⟩
    have hcv2:=za6 hb2
    have hBb2:=hBc1.kept g2 (by simp;omega)
    have hAb2:=hAc1.kept g2 (by simp;omega)
    have Gb2:w.grownBy wb2 (some rb):=zac Gc1 g2 (fun x e=>Or.inr e)
    have hc2:=hBb2.cell 35
    rw[(zbl _ _ _ _ _ (uh HT32)).2.2.2] at hc2
    have hf2:=hBb2.fz 35
    obtain ⟨wc2,hwc2⟩:∃ V,V=wb2.setCell ⟨p,35,none⟩ (.string (str tx)):=⟨_,rfl⟩
    have hBc2:Blk wc2 p 156 (chR T PV TM nm tx):=by
     have:=hBb2.set 35 (.string (str tx))
     rw[(zbu _ _ (.slice none 0 0) _ 0 _ tx _ tx (uh HT32)).2.2.2] at this
     rw[hwc2];exact this
    have hAc2:Blk wc2 w.heap.size 156 Z:=by rw[hwc2];exact hAb2.other _ _ (by simp;omega)
    have hRc2:Rd wc2 rb lc1 ec1:=by rw[hwc2];exact hR2.blk hBb2 (by decide) (by omega) 35 _
    have Gc2:w.grownBy wc2 (some rb):=by rw[hwc2];exact zae Gb2 _ _ (Or.inl (by simp;omega))
    have HWC2:=hide hwc2
    have HOb2:=za8 (uh HOc1) g2 (fun x e=>by cases e;exact hrb)
    have HOc2:=hide (show wc2.ownsRow w.heap.size 47 32 PV PN PX by rw[hwc2];exact zaz HOb2 hBb2 (by decide) 35 _)
    clear HOb2 HOc1
    clear cs2 hb2 hn2 hR2 g2 hBb2 hAb2 Gb2 hwc2 hBc1 hAc1 Gc1 hRc1
    have hrF:=zal hBc2
    obtain ⟨FC,hFC⟩:∃ L,L=chR T PV TM nm tx:=⟨_,rfl⟩
    have hF36:FC.length=36:=by rw[hFC];exact zec _ _ _ _ _ (uh HT32)
    have hFo:FC.toArray.all (·.oneCell')=true:=by rw[hFC];exact all_oneCell_toArray (zed _ _ _ _ _ hPo)
    rw[← hFC] at hrF
    have hiF:(Tryz.prog.info? 156).map (·.size)=some FC.length:=by rw[hF36];exact zbs
    have hiF2:(Tryz.prog.info? 156).map (·.size)=some FC.toArray.size:=by simpa using hiF
    have hZF:Z.toArray.size=FC.toArray.size:=by have:=uh HZL;simp[this,hF36]
    obtain ⟨HIF,HIF2,HZF,HFO,HFC⟩:=zh5 hiF hiF2 hZF hFo hFC
    clear hFC hF36 hFo hiF hiF2 hZF
    go_wp2_with (first
     | (rw[← uh HWC2];refine wpList_load_mid rfl 156 _ rfl p 0 rfl FC _ hrF Tryz.underlying156 rfl (uh HIF) ?_;clear hrF)
     | (refine wpList_store_row rfl 156 _ _ rfl w.heap.size FC.toArray rfl rfl _ _ hAc2 (uh HIF2) (uh HZF) (uh HFO) ?_))
    refine bodyPost_ret (results_cell_row rfl _ _ _ _ _ _ _ rfl (hAc2.row FC) Tryz.underlying156 rfl (uh HIF2)) rfl ?_
    have gF:=zaq Gc2 FC.toArray (Or.inl (Nat.le_refl _))
    rw[uh HFC] at gF ⊢
    have hOF:=zby (uh HOc2) hAc2 (by decide) FC.toArray
    rw[uh HFC] at hOF
    rw[uh HPV,uh HTM] at gF hOF ⊢
    rw[uh HPN,uh HPX] at hOF
    exact ⟨v,rfl,hOF,gF⟩
 ·subst n0
  have hci:¬ (4:Int)<(m:Int):=by omega
  go_wp2
  clear hci
  go_loopw [17] (fun i wr=>∃ (j:Nat) (qs:List (List UInt8)) (l' : List UInt8) (e' : Int) (v:Value),j≤m∧i = .int .u64 (j:Int)∧Hid (runP (l2,e2) j=(qs,l',e'))∧Hid (Blk wr p 156 (chR T v 0 [] []))∧wr.ownsRow w.heap.size 47 32 v qs.length (qs.flatMap (·.map bv))∧Hid (Blk wr w.heap.size 156 Z)∧Rd wr rb l' e'∧w.grownBy wr (some rb)) (fun i _=>m - (intOf i).toNat)
  case atStart=>exact ⟨0,[],l2,e2,.slice none 0 0,Nat.zero_le _,rfl,rfl,HB4,World.ownsRow_nil _ _ _ _,HA4,hR4,uh HG4⟩
  case round =>
   obtain ⟨j,qs,l',e',v,hj,rfl,HE,HB,hO,HA,hR,hg⟩:=hrel
   by_cases hlt:j<m
   ·have hel:qs.length=j:=by have:=zgw (l2,e2) j;rw[uh HE] at this;exact this
    have hlf:l'.length≤1000000:=by have:=zc9 (l2,e2) j;rw[uh HE] at this;exact Nat.le_trans this (uh H2A)
    have ci:∀ V,Rd V rb l' e'→Calls Tryz.prog 134 #[.pointer (some ⟨rb,0,none⟩)] V fun e w'=>e = .returned (.agg ((zb1 (rawS l' e' 32).1).map bv).toArray)∧Rd w' rb (rawS l' e' 32).2.1 (rawS l' e' 32).2.2∧V.grownBy w' (some rb):=fun V hV=>zca V rb l' e' (by omega) hV
    have hI32:=zbj l' e'
    obtain ⟨⟨y,l5,e5⟩,ha⟩:∃ a,a=rawS l' e' 32:=⟨_,rfl⟩
    rw[← ha] at ci hI32
    simp only at ci hI32
    have hrd:=zf8 (uh HE) ha.symm
    clear ha
    obtain ⟨I,hI⟩:∃ I,I=zb1 y:=⟨_,rfl⟩
    rw[← hI] at ci hI32 hrd
    have hbs:=zif I hI32
    have hfl:=zjc qs I
    obtain ⟨HFL,HRD⟩:=zh2 hfl hrd
    have h0:w.grownBy wr.drew (some rb):=zas hg
    have hRd:Rd wr.drew rb l' e':=hR.kept (zas (zab _ none)) (Or.inl rfl)
    have hOd:=za8 hO (zas (zab wr none)) (fun x e=>by cases e)
    have hBd:=(uh HB).drew
    have hAd:=(uh HA).drew
    have hj100:qs.length≤100000:=by omega
    clear hI hfl hrd hO hR hg HE hlf hel HB HA
    go_upto_region 7 with fail
    refine wp_region_noPanic ?_
    refine wp_region_held_drew (S:=fun V=>w.grownBy V (some rb)) (by kernel_rfl) h0 (fun _ => ?_)
    refine tq 0 19 (.fieldAddr 156 (.tmp 5) 1) (.pointer (some ⟨p,32,none⟩)) h0 ?_
    refine tq 2 21 (.move (.tmp 1)) (.pointer (some ⟨rb,0,none⟩)) h0 ?_
    (try simp only[pq])
    refine wpAnyH_ready (rs:=[1,3]) (by kernel_rfl) (by simp) ?_
    refine AllReadyH.cons (o:=⟨some 20,.load 59 (.tmp 19),_,_,_,_⟩) rfl (fun K9 hK9 => ?_) (AllReadyH.cons (o:=⟨some 22,.call { callee := .value (.func 134),args := #[(.tmp 21)],argTypes := #[84] },_,_,_,_⟩) rfl (fun K9 hK9 => ?_) AllReadyH.nil)
    ·have hc4:=hBd.cell 32
     rw[(zbl _ _ _ _ _ (uh HT32)).1] at hc4
     go_simp
     clear hc4
     refine hK9.out _ _ h0 (fun _ => ?_)
     clear hK9 K9
     (try simp only[pq])
     refine rdq 3 (some 22) (.call { callee := .value (.func 134),args := #[(.tmp 21)],argTypes := #[84] }) (fun K9 hK9 => ?_)
     go_simp
     go_at_call 134
     refine (ci _ hRd).mono ?_
     rintro e w4 ⟨rfl,hR4,g4⟩
     have G4:w.grownBy w4 (some rb):=zac h0 g4 (fun x e=>Or.inr e)
     go_wp2_with fail
     refine hK9.out _ _ G4 (fun _ => ?_)
     clear hK9 K9
     (try simp only[pq])
     have hB4:=hBd.kept g4 (by simp;omega)
     have hA4:=hAd.kept g4 (by simp;omega)
     have hO4:=za8 hOd g4 (fun x e=>by cases e;exact hrb)
     clear ci hRd hBd hAd hOd g4
     refine rdq 4 (some 23) (.buildSlice 59 1 #[(0,(.tmp 22))]) (fun K9 hK9 => ?_)
     obtain ⟨w5,hw5,hE5,g5⟩:=zah w4 47 (I.map bv)
     refine za4 (by rfl) _ _ rfl _ _ rfl (hbs w4) ?_
     rw[← hw5]
     have G5:=tn G4 g5
     refine hK9.out _ _ G5 (fun _ => ?_)
     clear hK9 K9 hw5
     (try simp only[pq])
     have hO5:=za8 hO4 g5 (fun x e=>by cases e)
     have hR5:=hR4.kept g5 (Or.inl rfl)
     have hB5:=hB4.kept g5 (by simp)
     have hA5:=hA4.kept g5 (by simp)
     refine rdq 5 (some 24) (.call { callee := .builtin .append,args := #[(.tmp 20),(.tmp 23)],argTypes := #[59,59] }) (fun K9 hK9 => ?_)
     refine za7 (by rfl) _ _ rfl w.heap.size v _ _ rfl hO5 _ (I.map bv) hE5 (by simpa using hI32) (zaw _) rfl hj100 G5.size ?_
     intro v6 w6 hO6 g6
     obtain ⟨q6,k6,e6⟩:=zb3 hO6
     subst e6
     have G6:w.grownBy w6 (some rb):=zac G5 g6 (fun x e=>Or.inl (hO5.lt x e).1)
     have hR6:Rd w6 rb l5 e5:=hR5.keptTyp g6 (fun x e=>⟨by have:=(hO5.lt x e).1;omega,zbx hO5 e (by decide)⟩)
     have hB6:=hB5.kept g6 (zan hO5 hB5 (by decide))
     have hA6:=hA5.kept g6 (zan hO5 hA5 (by decide))
     refine hK9.out _ _ G6 (fun _ => ?_)
     clear hK9 K9 g6 hO5 hR5 hB5 hA5 hE5 g5
     refine tq 6 25 (.fieldAddr 156 (.tmp 5) 1) (.pointer (some ⟨p,32,none⟩)) G6 ?_
     (try simp only[pq])
     have hc6:=hB6.cell 32
     rw[(zbl _ _ _ _ _ (uh HT32)).1] at hc6
     have hf6:=hB6.fz 32
     obtain ⟨w7,hw7⟩:∃ V,V=w6.setCell ⟨p,32,none⟩ (.slice q6 (qs.length+1) k6):=⟨_,rfl⟩
     have hB7:Blk w7 p 156 (chR T (.slice q6 (qs.length+1) k6) 0 [] []):=by
      have:=hB6.set 32 (.slice q6 (qs.length+1) k6)
      rw[(zbu _ _ (.slice q6 (qs.length+1) k6) _ 0 _ [] _ [] (uh HT32)).1] at this
      rw[hw7];exact this
     have hA7:Blk w7 w.heap.size 156 Z:=by rw[hw7];exact hA6.other _ _ (by simp;omega)
     have hR7:Rd w7 rb l5 e5:=by rw[hw7];exact hR6.blk hB6 (by decide) (by omega) 32 _
     have G7:w.grownBy w7 (some rb):=by rw[hw7];exact zae G6 _ _ (Or.inl (by simp;omega))
     have hO7:=(show w7.ownsRow w.heap.size 47 32 (.slice q6 (qs.length+1) k6) _ _ by rw[hw7];exact zaz hO6 hB6 (by decide) 32 _)
     have h1c:=zda hO7
     refine rdq 7 none (.store 59 (.tmp 25) (.tmp 24)) (fun K9 hK9 => ?_)
     go_simp
     rw[← hw7]
     refine hK9.out _ _ G7 (fun _ => ?_)
     clear hK9 K9 hw7 hc6 hf6 hB6 hA6 hR6 hO6 G6
     (try simp only[pq])
     refine wpAnyH_done (by kernel_rfl) ?_ _
     refine NoPanic.normal ?_
     obtain ⟨HB7,HO7,HA7⟩:=zh3 hB7 hO7 hA7
     clear hB7 hO7 hA7 h1c
     go_wp2
     go_roundw
     case rel =>
      refine ⟨j+1,_,l5,e5,_,by omega,by go_num,HRD,HB7,?_,HA7,hR7,G7⟩
      rw[List.length_append,uh HFL]
      exact uh HO7
     case measure=>simp[intOf];omega
    ·go_simp
     go_at_call 134
     refine (ci _ hRd).mono ?_
     rintro e w4 ⟨rfl,hR4,g4⟩
     have G4:w.grownBy w4 (some rb):=zac h0 g4 (fun x e=>Or.inr e)
     go_wp2_with fail
     refine hK9.out _ _ G4 (fun _ => ?_)
     clear hK9 K9
     (try simp only[pq])
     have hB4:=hBd.kept g4 (by simp;omega)
     have hA4:=hAd.kept g4 (by simp;omega)
     have hO4:=za8 hOd g4 (fun x e=>by cases e;exact hrb)
     clear ci hRd hBd hAd hOd g4
     refine wpAnyH_ready (rs:=[1,4]) (by kernel_rfl) (by simp) ?_
     refine AllReadyH.cons (o:=⟨some 20,.load 59 (.tmp 19),_,_,_,_⟩) rfl (fun K9 hK9 => ?_) (AllReadyH.cons (o:=⟨some 23,.buildSlice 59 1 #[(0,(.tmp 22))],_,_,_,_⟩) rfl (fun K9 hK9 => ?_) AllReadyH.nil)
     ·have hc4:=hB4.cell 32
      rw[(zbl _ _ _ _ _ (uh HT32)).1] at hc4
      go_simp
      clear hc4
      refine hK9.out _ _ G4 (fun _ => ?_)
      clear hK9 K9
      (try simp only[pq])
      refine rdq 4 (some 23) (.buildSlice 59 1 #[(0,(.tmp 22))]) (fun K9 hK9 => ?_)
      obtain ⟨w5,hw5,hE5,g5⟩:=zah w4 47 (I.map bv)
      refine za4 (by rfl) _ _ rfl _ _ rfl (hbs w4) ?_
      rw[← hw5]
      have G5:=tn G4 g5
      refine hK9.out _ _ G5 (fun _ => ?_)
      clear hK9 K9 hw5
      (try simp only[pq])
      have hO5:=za8 hO4 g5 (fun x e=>by cases e)
      have hR5:=hR4.kept g5 (Or.inl rfl)
      have hB5:=hB4.kept g5 (by simp)
      have hA5:=hA4.kept g5 (by simp)
      refine rdq 5 (some 24) (.call { callee := .builtin .append,args := #[(.tmp 20),(.tmp 23)],argTypes := #[59,59] }) (fun K9 hK9 => ?_)
      refine za7 (by rfl) _ _ rfl w.heap.size v _ _ rfl hO5 _ (I.map bv) hE5 (by simpa using hI32) (zaw _) rfl hj100 G5.size ?_
      intro v6 w6 hO6 g6
      obtain ⟨q6,k6,e6⟩:=zb3 hO6
      subst e6
      have G6:w.grownBy w6 (some rb):=zac G5 g6 (fun x e=>Or.inl (hO5.lt x e).1)
      have hR6:Rd w6 rb l5 e5:=hR5.keptTyp g6 (fun x e=>⟨by have:=(hO5.lt x e).1;omega,zbx hO5 e (by decide)⟩)
      have hB6:=hB5.kept g6 (zan hO5 hB5 (by decide))
      have hA6:=hA5.kept g6 (zan hO5 hA5 (by decide))
      refine hK9.out _ _ G6 (fun _ => ?_)
      clear hK9 K9 g6 hO5 hR5 hB5 hA5 hE5 g5
      refine tq 6 25 (.fieldAddr 156 (.tmp 5) 1) (.pointer (some ⟨p,32,none⟩)) G6 ?_
      (try simp only[pq])
      have hc6:=hB6.cell 32
      rw[(zbl _ _ _ _ _ (uh HT32)).1] at hc6
      have hf6:=hB6.fz 32
      obtain ⟨w7,hw7⟩:∃ V,V=w6.setCell ⟨p,32,none⟩ (.slice q6 (qs.length+1) k6):=⟨_,rfl⟩
      have hB7:Blk w7 p 156 (chR T (.slice q6 (qs.length+1) k6) 0 [] []):=by
       have:=hB6.set 32 (.slice q6 (qs.length+1) k6)
       rw[(zbu _ _ (.slice q6 (qs.length+1) k6) _ 0 _ [] _ [] (uh HT32)).1] at this
       rw[hw7];exact this
      have hA7:Blk w7 w.heap.size 156 Z:=by rw[hw7];exact hA6.other _ _ (by simp;omega)
      have hR7:Rd w7 rb l5 e5:=by rw[hw7];exact hR6.blk hB6 (by decide) (by omega) 32 _
      have G7:w.grownBy w7 (some rb):=by rw[hw7];exact zae G6 _ _ (Or.inl (by simp;omega))
      have hO7:=(show w7.ownsRow w.heap.size 47 32 (.slice q6 (qs.length+1) k6) _ _ by rw[hw7];exact zaz hO6 hB6 (by decide) 32 _)
      have h1c:=zda hO7
      refine rdq 7 none (.store 59 (.tmp 25) (.tmp 24)) (fun K9 hK9 => ?_)
      go_simp
      rw[← hw7]
      refine hK9.out _ _ G7 (fun _ => ?_)
      clear hK9 K9 hw7 hc6 hf6 hB6 hA6 hR6 hO6 G6
      (try simp only[pq])
      refine wpAnyH_done (by kernel_rfl) ?_ _
      refine NoPanic.normal ?_
      obtain ⟨HB7,HO7,HA7⟩:=zh3 hB7 hO7 hA7
      clear hB7 hO7 hA7 h1c
      go_wp2
      go_roundw
      case rel =>
       refine ⟨j+1,_,l5,e5,_,by omega,by go_num,HRD,HB7,?_,HA7,hR7,G7⟩
       rw[List.length_append,uh HFL]
       exact uh HO7
      case measure=>simp[intOf];omega
     ·obtain ⟨w5,hw5,hE5,g5⟩:=zah w4 47 (I.map bv)
      refine za4 (by rfl) _ _ rfl _ _ rfl (hbs w4) ?_
      rw[← hw5]
      have G5:=tn G4 g5
      refine hK9.out _ _ G5 (fun _ => ?_)
      clear hK9 K9 hw5
      (try simp only[pq])
      have hO5:=za8 hO4 g5 (fun x e=>by cases e)
      have hR5:=hR4.kept g5 (Or.inl rfl)
      have hB5:=hB4.kept g5 (by simp)
      have hA5:=hA4.kept g5 (by simp)
      refine rdq 1 (some 20) (.load 59 (.tmp 19)) (fun K9 hK9 => ?_)
      have hc4:=hB5.cell 32
      rw[(zbl _ _ _ _ _ (uh HT32)).1] at hc4
      go_simp
      clear hc4
      refine hK9.out _ _ G5 (fun _ => ?_)
      clear hK9 K9
      (try simp only[pq])
      refine rdq 5 (some 24) (.call { callee := .builtin .append,args := #[(.tmp 20),(.tmp 23)],argTypes := #[59,59] }) (fun K9 hK9 => ?_)
      refine za7 (by rfl) _ _ rfl w.heap.size v _ _ rfl hO5 _ (I.map bv) hE5 (by simpa using hI32) (zaw _) rfl hj100 G5.size ?_
      intro v6 w6 hO6 g6
      obtain ⟨q6,k6,e6⟩:=zb3 hO6
      subst e6
      have G6:w.grownBy w6 (some rb):=zac G5 g6 (fun x e=>Or.inl (hO5.lt x e).1)
      have hR6:Rd w6 rb l5 e5:=hR5.keptTyp g6 (fun x e=>⟨by have:=(hO5.lt x e).1;omega,zbx hO5 e (by decide)⟩)
      have hB6:=hB5.kept g6 (zan hO5 hB5 (by decide))
      have hA6:=hA5.kept g6 (zan hO5 hA5 (by decide))
      refine hK9.out _ _ G6 (fun _ => ?_)
      clear hK9 K9 g6 hO5 hR5 hB5 hA5 hE5 g5
      refine tq 6 25 (.fieldAddr 156 (.tmp 5) 1) (.pointer (some ⟨p,32,none⟩)) G6 ?_
      (try simp only[pq])
      have hc6:=hB6.cell 32
      rw[(zbl _ _ _ _ _ (uh HT32)).1] at hc6
      have hf6:=hB6.fz 32
      obtain ⟨w7,hw7⟩:∃ V,V=w6.setCell ⟨p,32,none⟩ (.slice q6 (qs.length+1) k6):=⟨_,rfl⟩
      have hB7:Blk w7 p 156 (chR T (.slice q6 (qs.length+1) k6) 0 [] []):=by
       have:=hB6.set 32 (.slice q6 (qs.length+1) k6)
       rw[(zbu _ _ (.slice q6 (qs.length+1) k6) _ 0 _ [] _ [] (uh HT32)).1] at this
       rw[hw7];exact this
      have hA7:Blk w7 w.heap.size 156 Z:=by rw[hw7];exact hA6.other _ _ (by simp;omega)
      have hR7:Rd w7 rb l5 e5:=by rw[hw7];exact hR6.blk hB6 (by decide) (by omega) 32 _
      have G7:w.grownBy w7 (some rb):=by rw[hw7];exact zae G6 _ _ (Or.inl (by simp;omega))
      have hO7:=(show w7.ownsRow w.heap.size 47 32 (.slice q6 (qs.length+1) k6) _ _ by rw[hw7];exact zaz hO6 hB6 (by decide) 32 _)
      have h1c:=zda hO7
      refine rdq 7 none (.store 59 (.tmp 25) (.tmp 24)) (fun K9 hK9 => ?_)
      go_simp
      rw[← hw7]
      refine hK9.out _ _ G7 (fun _ => ?_)
      clear hK9 K9 hw7 hc6 hf6 hB6 hA6 hR6 hO6 G6
      (try simp only[pq])
      refine wpAnyH_done (by kernel_rfl) ?_ _
      refine NoPanic.normal ?_
      obtain ⟨HB7,HO7,HA7⟩:=zh3 hB7 hO7 hA7
      clear hB7 hO7 hA7 h1c
      go_wp2
      go_roundw
      case rel =>
       refine ⟨j+1,_,l5,e5,_,by omega,by go_num,HRD,HB7,?_,HA7,hR7,G7⟩
       rw[List.length_append,uh HFL]
       exact uh HO7
      case measure=>simp[intOf];omega
   ·have hjm:j=m:=by omega
    have hq:qs=ps∧l'=l3∧e'=e3:=by
     have h1:=uh HE
     rw[hjm,uh H3] at h1
     injection h1 with h2 h4
     injection h4 with h5 h6
     exact ⟨h2.symm,h5.symm,h6.symm⟩
    obtain ⟨hq1,hq2,hq3⟩:=hq
    rw[hq1] at hO
    rw[hq2,hq3] at hR
    have cn:=zc1 wr rb l3 e3 8 hR
    rw[uh H4] at cn
    simp only at cn
    clear hjm hq1 hq2 hq3 HE hR
    go_wp2_with fail
    refine cn.mono ?_
    rintro e w5 ⟨rfl,hR5,g5⟩
    have hB5:=(uh HB).kept g5 (by simp;omega)
    have hA5:=(uh HA).kept g5 (by simp;omega)
    have G5:w.grownBy w5 (some rb):=zac hg g5 (fun x e=>Or.inr e)
    have hO5:=za8 hO g5 (fun x e=>by cases e;exact hrb)
    have hc5:=hB5.cell 33
    rw[(zbl _ _ _ _ _ (uh HT32)).2.1] at hc5
    have hf5:=hB5.fz 33
    obtain ⟨wa,hwa⟩:∃ V,V=w5.setCell ⟨p,33,none⟩ (.int .u64 (tm:Int)):=⟨_,rfl⟩
    obtain ⟨TM,hTM⟩:∃ n:Nat,n=tm:=⟨_,rfl⟩
    obtain ⟨PV,hPV⟩:∃ V:Value,V=v:=⟨_,rfl⟩
    obtain ⟨PN,hPN⟩:∃ n,n=ps.length:=⟨_,rfl⟩
    obtain ⟨PX,hPX⟩:∃ n,n=ps.flatMap (·.map bv):=⟨_,rfl⟩
    have hPo:PV.oneCell'=true:=by rw[hPV];exact zda hO5
    have hBa:Blk wa p 156 (chR T PV TM [] []):=by
     have:=hB5.set 33 (.int .u64 (tm:Int))
     rw[(zbu _ _ v _ tm _ [] _ [] (uh HT32)).2.1] at this
     rw[hwa,hTM,hPV];exact this
    have hAa:Blk wa w.heap.size 156 Z:=by rw[hwa];exact hA5.other _ _ (by simp;omega)
    have hRa:Rd wa rb la ea:=by rw[hwa];exact hR5.blk hB5 (by decide) (by omega) 33 _
    have Ga:w.grownBy wa (some rb):=by rw[hwa];exact zae G5 _ _ (Or.inl (by simp;omega))
    have HOa:=hide (show wa.ownsRow w.heap.size 47 32 PV PN PX by rw[hwa,hPV,hPN,hPX];exact zaz hO5 hB5 (by decide) 33 _)
    obtain ⟨HWA,HTM,HPV,HPN,HPX⟩:=zh5 hwa hTM hPV hPN hPX
    have cs1:=zb0 wa rb la ea (by omega) hRa
    clear hwa hTM hPV hPN hPX HB HA hg hR5 g5 hB5 hA5 G5 hO5 hO cn
    go_wp2_with (rw[← uh HWA])
    clear hc5 hf5
    rw[← uh HNM] at cs1
    simp only at cs1
    refine cs1.mono ?_
    rintro e wb1 ⟨v1,rfl,⟨ao1,k1,rfl,hb1,hn1⟩,hR1,g1⟩
    have hcv1:=za6 hb1
    have hBb1:=hBa.kept g1 (by simp;omega)
    have hAb1:=hAa.kept g1 (by simp;omega)
    have Gb1:w.grownBy wb1 (some rb):=zac Ga g1 (fun x e=>Or.inr e)
    have hc1:=hBb1.cell 34
    rw[(zbl _ _ _ _ _ (uh HT32)).2.2.1] at hc1
    have hf1:=hBb1.fz 34
    obtain ⟨wc1,hwc1⟩:∃ V,V=wb1.setCell ⟨p,34,none⟩ (.string (str nm)):=⟨_,rfl⟩
    have hBc1:Blk wc1 p 156 (chR T PV TM nm []):=by
     have:=hBb1.set 34 (.string (str nm))
     rw[(zbu _ _ (.slice none 0 0) _ 0 _ nm _ nm (uh HT32)).2.2.1] at this
     rw[hwc1];exact this
    have hAc1:Blk wc1 w.heap.size 156 Z:=by rw[hwc1];exact hAb1.other _ _ (by simp;omega)
    have hRc1:Rd wc1 rb lb1 eb1:=by rw[hwc1];exact hR1.blk hBb1 (by decide) (by omega) 34 _
    have Gc1:w.grownBy wc1 (some rb):=by rw[hwc1];exact zae Gb1 _ _ (Or.inl (by simp;omega))
    have HWC1:=hide hwc1
    have HOb1:=za8 (uh HOa) g1 (fun x e=>by cases e;exact hrb)
    have HOc1:=hide (show wc1.ownsRow w.heap.size 47 32 PV PN PX by rw[hwc1];exact zaz HOb1 hBb1 (by decide) 34 _)
    clear HOb1 HOa
    clear cs1 hb1 hn1 hR1 g1 hBb1 hAb1 Gb1 hwc1 hBa hAa Ga hRa
    have cs2:=zb0 wc1 rb lb1 eb1 (by omega) hRc1
    rw[← uh HTX] at cs2
    simp only at cs2
    have hBc1':=hide hBc1
    go_wp2_with (rw[← uh HWC1])
    clear hcv1 hc1 hf1
    refine cs2.mono ?_
    rintro e wb2 ⟨v2,rfl,⟨ao2,k2,rfl,hb2,hn2⟩,hR2,g2⟩
    have hcv2:=za6 hb2
    have hBb2:=hBc1.kept g2 (by simp;omega)
    have hAb2:=hAc1.kept g2 (by simp;omega)
    have Gb2:w.grownBy wb2 (some rb):=zac Gc1 g2 (fun x e=>Or.inr e)
    have hc2:=hBb2.cell 35
    rw[(zbl _ _ _ _ _ (uh HT32)).2.2.2] at hc2
    have hf2:=hBb2.fz 35
    obtain ⟨wc2,hwc2⟩:∃ V,V=wb2.setCell ⟨p,35,none⟩ (.string (str tx)):=⟨_,rfl⟩
    have hBc2:Blk wc2 p 156 (chR T PV TM nm tx):=by
     have:=hBb2.set 35 (.string (str tx))
     rw[(zbu _ _ (.slice none 0 0) _ 0 _ tx _ tx (uh HT32)).2.2.2] at this
     rw[hwc2];exact this
    have hAc2:Blk wc2 w.heap.size 156 Z:=by rw[hwc2];exact hAb2.other _ _ (by simp;omega)
    have hRc2:Rd wc2 rb lc1 ec1:=by rw[hwc2];exact hR2.blk hBb2 (by decide) (by omega) 35 _
    have Gc2:w.grownBy wc2 (some rb):=by rw[hwc2];exact zae Gb2 _ _ (Or.inl (by simp;omega))
    have HWC2:=hide hwc2
    have HOb2:=za8 (uh HOc1) g2 (fun x e=>by cases e;exact hrb)
    have HOc2:=hide (show wc2.ownsRow w.heap.size 47 32 PV PN PX by rw[hwc2];exact zaz HOb2 hBb2 (by decide) 35 _)
    clear HOb2 HOc1
    clear cs2 hb2 hn2 hR2 g2 hBb2 hAb2 Gb2 hwc2 hBc1 hAc1 Gc1 hRc1
    have hrF:=zal hBc2
    obtain ⟨FC,hFC⟩:∃ L,L=chR T PV TM nm tx:=⟨_,rfl⟩
    have hF36:FC.length=36:=by rw[hFC];exact zec _ _ _ _ _ (uh HT32)
    have hFo:FC.toArray.all (·.oneCell')=true:=by rw[hFC];exact all_oneCell_toArray (zed _ _ _ _ _ hPo)
    rw[← hFC] at hrF
    have hiF:(Tryz.prog.info? 156).map (·.size)=some FC.length:=by rw[hF36];exact zbs
    have hiF2:(Tryz.prog.info? 156).map (·.size)=some FC.toArray.size:=by simpa using hiF
    have hZF:Z.toArray.size=FC.toArray.size:=by have:=uh HZL;simp[this,hF36]
    obtain ⟨HIF,HIF2,HZF,HFO,HFC⟩:=zh5 hiF hiF2 hZF hFo hFC
    clear hFC hF36 hFo hiF hiF2 hZF
    go_wp2_with (first
     | (rw[← uh HWC2];refine wpList_load_mid rfl 156 _ rfl p 0 rfl FC _ hrF Tryz.underlying156 rfl (uh HIF) ?_;clear hrF)
     | (refine wpList_store_row rfl 156 _ _ rfl w.heap.size FC.toArray rfl rfl _ _ hAc2 (uh HIF2) (uh HZF) (uh HFO) ?_))
    refine bodyPost_ret (results_cell_row rfl _ _ _ _ _ _ _ rfl (hAc2.row FC) Tryz.underlying156 rfl (uh HIF2)) rfl ?_
    have gF:=zaq Gc2 FC.toArray (Or.inl (Nat.le_refl _))
    rw[uh HFC] at gF ⊢
    have hOF:=zby (uh HOc2) hAc2 (by decide) FC.toArray
    rw[uh HFC] at hOF
    rw[uh HPV,uh HTM] at gF hOF ⊢
    rw[uh HPN,uh HPX] at hOF
    exact ⟨v,rfl,hOF,gF⟩
end Go.Proofs.YtegbbkgmiklhcaaGreatDoor
