/- Lemmas. -/
import Derived.Test.YthhnfloohbdaiaaGreatDoorOObj
import Derived.Test.YthhnfloohbdaiaaGreatDoorSSumF
namespace Go.Proofs.YthhnfloohbdaiaaGreatDoor
open Go.RowKit
set_option maxRecDepth 100000
set_option maxHeartbeats 1000000 in
theorem zsa (w:World) (k:Int) (ao:Option Addr) (c:Nat) (d:List UInt8) (hb:Bts w ao c d) (hd:d.length≤35184372088832) (hT:Tabs w):Calls Tryz.prog 33 #[.agg #[.int .i64 k,.slice ao d.length c]] w fun e w'=>e = .returned (.agg ((shaL (putL k d)).map bv).toArray)∧w.grownBy w' none:=by
 obtain ⟨n,hn⟩:∃ n,n=d.length:=⟨_,rfl⟩
 obtain ⟨Z,hZ,hzv⟩:=zdo
 obtain ⟨W0,hW0,hB0,g0⟩:∃ W1,W1=w.alloc (.cells #[.int .i64 k,.slice ao n c] 42)∧Blk W1 w.heap.size 42 [.int .i64 k,.slice ao n c]∧w.grownBy W1 none:=zag w _ _
 obtain ⟨W1,hW1,hB1,g1⟩:∃ W1,W1=W0.alloc (.cells Z 33)∧Blk W1 W0.heap.size 33 Z.toList∧W0.grownBy W1 none:=by
  obtain ⟨W1,h1,h2,h3⟩:=zag W0 33 Z.toList
  exact ⟨W1,by simpa using h1,h2,h3⟩
 have hs0:W0.heap.size=w.heap.size+1:=by rw[hW0];simp
 rw[hs0] at hB1
 have hBo:=hB0.kept g1 (by simp)
 have c0:=hBo.cell 0
 have c1:=hBo.cell 1
 simp only[List.getElem?_cons_zero,List.getElem?_cons_succ] at c0 c1
 have G1:=tn g0 g1
 have cp:=zvd W1 k ao c d (hb.kept G1 (fun _ e=>by cases e)) hd
 rw[← hn] at cp ⊢
 have hW:W1=(w.alloc (.cells #[.int .i64 k,.slice ao n c] 42)).alloc (.cells Z 33):=by rw[hW1,hW0]
 obtain ⟨HW,HB1⟩:=zh2 hW hB1
 have hT1:=hT.kept0 G1
 have hpl:(putL k d).length<576460752303423488:=by unfold putL layS;simp[zbs];omega
 obtain ⟨P,hP⟩:∃ P,P=putL k d:=⟨_,rfl⟩
 rw[← hP] at cp hpl ⊢
 obtain ⟨S,hS⟩:∃ S,S=(shaL P).map bv:=⟨_,rfl⟩
 have hSl:S.length=32:=by rw[hS,List.length_map];exact zbc P
 have hSo:S.toArray.all (·.oneCell')=true:=by rw[hS];exact all_oneCell_toArray (za6 _)
 have hiS:(Tryz.prog.info? 33).map (·.size)=some S.toArray.size:=by rw[show S.toArray.size=32 by simpa using hSl];exact zat
 have hZS:Z.toList.toArray.size=S.toArray.size:=by simp[hZ,hSl]
 obtain ⟨HI,HZS,HSO,HS⟩:=zh4 hiS hZS hSo hS
 rw[← hS]
 clear hW hW1 hW0 hB0 hB1 g0 g1 hs0 hBo hb hd hn hT hP hS hSl hSo hiS hZS hZ
 go_enter Tryz.func33,Tryz.ntmps33
 go_wp2_with (rw[← uh HW])
 refine cp.mono ?_
 rintro e w2 ⟨v2,rfl,⟨a2,c2,rfl,hb2,_⟩,g2⟩
 have cs:=zvg w2 a2 c2 P hb2 (hT1.kept0 g2) hpl
 rw[← uh HS] at cs
 have hB2:=(uh HB1).kept g2 (by simp)
 have G2:=tn G1 g2
 clear cp hb2 c0 c1 hT1 g2
 go_wp2_with fail
 refine cs.mono ?_
 rintro e w3 ⟨rfl,g3⟩
 have hB3:=hB2.kept g3 (by simp)
 clear cs hB2
 go_wp2_with (refine wpList_store_row rfl 33 _ _ rfl (w.heap.size+1) S.toArray rfl rfl _ _ hB3 (uh HI) (uh HZS) (uh HSO) ?_)
 refine bodyPost_ret (results_cell_row rfl _ _ _ _ _ _ _ rfl (hB3.row S) Tryz.underlying33 rfl (uh HI)) rfl ?_
 exact ⟨rfl,zam (tn G2 g3) _ (Or.inl (Nat.le_succ _))⟩
theorem zp4 (w:World) (k:Int) (ao:Option Addr) (c:Nat) (d:List UInt8) (hb:Bts w ao c d):Calls Tryz.prog 78 #[.agg #[.int .i64 k,.slice ao d.length c]] w fun e w'=>∃ v,e = .returned v∧w'.ownsRow w.heap.size 33 32 v (zbm k d).length ((zbm k d).flatMap (·.map bv))∧w.grownBy w' none:=by
 obtain ⟨n,hn⟩:∃ n,n=d.length:=⟨_,rfl⟩
 obtain ⟨W0,hW0,hB0,g0⟩:∃ W1,W1=w.alloc (.cells #[.int .i64 k,.slice ao n c] 42)∧Blk W1 w.heap.size 42 [.int .i64 k,.slice ao n c]∧w.grownBy W1 none:=zag w _ _
 have c0:=hB0.cell 0
 have c1:=hB0.cell 1
 simp only[List.getElem?_cons_zero,List.getElem?_cons_succ] at c0 c1
 have cl:=zjo W0 k ao c d (hb.kept g0 (fun _ e=>by cases e))
 rw[← hn] at cl ⊢
 have HW:=hide hW0
 clear hn hb hW0 hB0
 go_enter Tryz.func78,Tryz.ntmps78
 go_wp2_with (rw[← uh HW])
 refine cl.mono ?_
 rintro e w2 ⟨v,y,rfl,_,ho,g2⟩
 have HO:=hide ho
 clear cl ho c0 c1
 go_wp2
 go_ret
 exact ⟨v,rfl,za7 (uh HO) g0.size,tn g0 g2⟩
def Occ:List (List UInt8)→List UInt8→Prop
 | [],_=>True
 | x::xs,d=>∃ p r,d=p++(x++r)∧Occ xs r
theorem Occ.front {xs:List (List UInt8)} {d:List UInt8} (h:Occ xs d) (q:List UInt8):Occ xs (q++d):=by
 cases xs with
 | nil=>trivial
 | cons x xs =>
  obtain ⟨p,r,rfl,h2⟩:=h
  exact ⟨q++p,r,by simp,h2⟩
theorem Occ.back {xs:List (List UInt8)} {d:List UInt8} {m m' : Nat} (h:Occ xs (d.drop m)) (hm:m'≤m):Occ xs (d.drop m'):=by
 have:d.drop m'=(d.drop m').take (m - m')++d.drop m:=by
  conv=>lhs;rw[← List.take_append_drop (m - m') (d.drop m')]
  rw[List.drop_drop,show m'+(m - m')=m by omega]
 rw[this]
 exact h.front _
theorem Occ.at {x:List UInt8} {xs:List (List UInt8)} {d:List UInt8} {m:Nat} (h:Occ (x::xs) (d.drop m)) (hx:x.length=32):∃ q,m≤q∧q+32≤d.length∧(d.drop q).take 32=x∧Occ xs (d.drop (q+32)):=by
 obtain ⟨p,r,h1,h2⟩:=h
 have hl:=congrArg List.length h1
 simp only[List.length_drop,List.length_append,hx] at hl
 refine ⟨m+p.length,by omega,by omega,?_,?_⟩
 ·rw[← List.drop_drop,h1,List.drop_append_of_le_length (Nat.le_refl _),List.drop_of_length_le (Nat.le_refl _),List.nil_append,← hx,List.take_append_of_le_length (Nat.le_refl _),List.take_of_length_le (Nat.le_refl _)]
 ·rw[show m+p.length+32=m+(p.length+32) by omega,← List.drop_drop,h1,← List.append_assoc,List.drop_append_of_le_length (by simp[hx]),List.drop_of_length_le (by simp[hx]),List.nil_append]
  exact h2
theorem zvh (es:List EntL) (m:List UInt8):Occ (es.map (·.id)) (es.flatMap entB++m):=by
 induction es with
 | nil=>trivial
 | cons e es ih=>exact ⟨lb (dirN e.dir) 1++layS e.name,es.flatMap entB++m,by simp[entB],ih⟩
theorem zxr (ps:List (List UInt8)) (m:List UInt8):Occ ps (ps.flatten++m):=by
 induction ps with
 | nil=>trivial
 | cons e es ih=>exact ⟨[],es.flatten++m,by simp,ih⟩
theorem zsb {d x:List UInt8} (h:fitB x=(0,d)):d=x:=by
 unfold fitB at h
 split at h
 ·exact absurd (congrArg Prod.fst h) (by simp)
 ·exact (congrArg Prod.snd h).symm
theorem zsc {es:List EntL} {d:List UInt8} (h:za9 es=(0,d)):d=zhx es:=by
 unfold za9 at h
 split at h
 ·exact absurd (congrArg Prod.fst h) (by simp)
 ·split at h
  ·exact zsb h
  ·exact absurd (congrArg Prod.fst h) (by simp)
theorem zvi {c:ChgL} {d:List UInt8} (h:zcf c=(0,d)):d=chgB c:=by
 unfold zcf at h
 split at h
 ·exact absurd (congrArg Prod.fst h) (by simp)
 ·split at h
  ·exact zsb h
  ·exact absurd (congrArg Prod.fst h) (by simp)
theorem zvj {m:MrkL} {d:List UInt8} (h:zcv m=(0,d)):d=mrkB m:=by
 unfold zcv at h
 split at h
 ·exact zsb h
 ·exact absurd (congrArg Prod.fst h) (by simp)
theorem zsd (k:Int) (d:List UInt8):Occ (zbm k d) d∧∀ x∈zbm k d,x.length=32:=by
 unfold zbm
 split
 ·exact ⟨trivial,fun x hx=>by simp at hx⟩
 ·split
  ·cases ht:zeq d with
   | none=>exact ⟨trivial,fun x hx=>by simp at hx⟩
   | some es =>
    unfold zeq at ht
    split at ht
    ·rename_i hq
     have he:zbz d=es:=Option.some.inj ht
     rw[he] at hq
     refine ⟨?_,?_⟩
     ·have hd:=zsc hq
      conv=>rhs;rw[hd]
      have:=(zvh es []).front (lb es.length 2)
      rw[List.append_nil] at this
      simpa[zhx] using this
     ·intro x hx
      simp only[Option.getD_some,List.mem_map] at hx
      obtain ⟨e,he2,rfl⟩:=hx
      rw[← he] at he2
      exact zim d e he2
    ·cases ht
  ·split
   ·cases ht:zfk d with
    | none =>
     rename_i hc h2 h3
     exfalso
     have hk:k=3:=h3
     subst hk
     have hcc:zau 3 d≠0:=by
      unfold zau
      rw[if_neg (by omega)]
      split
      ·decide
      ·simp[ht,errO]
     exact hc hcc
    | some c =>
     unfold zfk at ht
     split at ht
     ·rename_i hq
      have he:zbh d=c:=Option.some.inj ht
      rw[he] at hq
      have hok:=zdh d
      rw[he] at hok
      refine ⟨?_,?_⟩
      ·have hd:=zvi hq
       refine ⟨[],lb c.pars.length 1++c.pars.flatten++lb c.time 8++layS c.author++layS c.text,?_,?_⟩
       ·conv=>lhs;rw[hd]
        simp[chgB]
       ·have:=(zxr c.pars (lb c.time 8++layS c.author++layS c.text)).front (lb c.pars.length 1)
        simpa using this
      ·intro x hx
       simp only[Option.getD_some,List.mem_cons] at hx
       rcases hx with rfl | hx
       ·exact hok.1
       ·exact hok.2.1 x hx
     ·cases ht
   ·split
    ·cases ht:zi9 d with
     | none =>
      rename_i hc h2 h3 h4
      exfalso
      have hk:k=4:=h4
      subst hk
      have hcc:zau 4 d≠0:=by
       unfold zau
       rw[if_neg (by omega)]
       split
       ·decide
       ·simp[ht,errO]
      exact hc hcc
     | some m =>
      unfold zi9 at ht
      split at ht
      ·rename_i hq
       have he:zb2 d=m:=Option.some.inj ht
       rw[he] at hq
       have hok:=zho d
       rw[he] at hok
       refine ⟨?_,?_⟩
       ·have hd:=zvj hq
        refine ⟨[],layS m.name++layS m.text,?_,trivial⟩
        conv=>lhs;rw[hd]
        simp[mrkB]
       ·intro x hx
        simp only[Option.getD_some,List.mem_singleton] at hx
        subst hx
        exact hok.1
      ·cases ht
    ·exact ⟨trivial,fun x hx=>by simp at hx⟩
theorem zlo (k:Int) (d:List UInt8):(zbm k d).length≤33:=by
 unfold zbm
 split
 ·simp
 ·split
  ·cases ht:zeq d with
   | none=>simp
   | some es =>
    unfold zeq at ht
    split at ht
    ·have he:zbz d=es:=Option.some.inj ht
     have:=zn4 2 d
     rename_i hq
     simp only[telT,hq,if_true] at this
     simp only[Option.getD_some,List.length_map]
     rw[he] at this
     omega
    ·cases ht
  ·split
   ·cases ht:zfk d with
    | none=>simp[default];exact Nat.zero_le _
    | some c =>
     unfold zfk at ht
     split at ht
     ·have he:zbh d=c:=Option.some.inj ht
      have hok:=zdh d
      rw[he] at hok
      simp only[Option.getD_some,List.length_cons]
      omega
     ·cases ht
   ·split <;> simp
end Go.Proofs.YthhnfloohbdaiaaGreatDoor
