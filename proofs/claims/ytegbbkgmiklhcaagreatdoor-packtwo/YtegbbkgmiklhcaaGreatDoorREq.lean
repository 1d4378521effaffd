/- Lemmas. -/
import Derived.Test.YtegbbkgmiklhcaaGreatDoorOPutR
import Derived.Test.YtegbbkgmiklhcaaGreatDoorSSumF
import Derived.Test.YtegbbkgmiklhcaaGreatDoorPkM
namespace Go.Proofs.YtegbbkgmiklhcaaGreatDoor
open Go.RowKit
set_option maxRecDepth 100000 in
set_option maxHeartbeats 1000000 in
theorem zg5 (w:World) (k:Int) (ao:Option Addr) (c:Nat) (d:List UInt8) (hb:Bts w ao c d) (hd:d.length≤35184372088832) (hT:Tabs w):Calls Tryz.prog 17 #[.agg #[.int .i64 k,.slice ao d.length c]] w fun e w'=>e = .returned (.agg ((shaL (putL k d)).map bv).toArray)∧w.grownBy w' none:=by
 obtain ⟨n,hn⟩:∃ n,n=d.length:=⟨_,rfl⟩
 obtain ⟨Z,hZ,hzv⟩:=zc8
 obtain ⟨W0,hW0,hB0,g0⟩:∃ W1,W1=w.alloc (.cells #[.int .i64 k,.slice ao n c] 42)∧Blk W1 w.heap.size 42 [.int .i64 k,.slice ao n c]∧w.grownBy W1 none:=zah w _ _
 obtain ⟨W1,hW1,hB1,g1⟩:∃ W1,W1=W0.alloc (.cells Z 47)∧Blk W1 W0.heap.size 47 Z.toList∧W0.grownBy W1 none:=by
  obtain ⟨W1,h1,h2,h3⟩:=zah W0 47 Z.toList
  exact ⟨W1,by simpa using h1,h2,h3⟩
 have hs0:W0.heap.size=w.heap.size+1:=by rw[hW0];simp
 rw[hs0] at hB1
 have hBo:=hB0.kept g1 (by simp)
 have c0:=hBo.cell 0
 have c1:=hBo.cell 1
 simp only[List.getElem?_cons_zero,List.getElem?_cons_succ] at c0 c1
 have G1:=tn g0 g1
 have cp:=zjo W1 k ao c d (hb.kept G1 (fun _ e=>by cases e)) hd
 rw[← hn] at cp ⊢
 have hW:W1=(w.alloc (.cells #[.int .i64 k,.slice ao n c] 42)).alloc (.cells Z 47):=by rw[hW1,hW0]
 obtain ⟨HW,HB1⟩:=zh2 hW hB1
 have hT1:=hT.kept0 G1
 have hpl:(putL k d).length<576460752303423488:=by unfold putL layS;simp[zbp];omega
 obtain ⟨P,hP⟩:∃ P,P=putL k d:=⟨_,rfl⟩
 rw[← hP] at cp hpl ⊢
 obtain ⟨S,hS⟩:∃ S,S=(shaL P).map bv:=⟨_,rfl⟩
 have hSl:S.length=32:=by rw[hS,List.length_map];exact zcv P
 have hSo:S.toArray.all (·.oneCell')=true:=by rw[hS];exact all_oneCell_toArray (zaw _)
 have hiS:(Tryz.prog.info? 47).map (·.size)=some S.toArray.size:=by rw[show S.toArray.size=32 by simpa using hSl];exact zax
 have hZS:Z.toList.toArray.size=S.toArray.size:=by simp[hZ,hSl]
 obtain ⟨HI,HZS,HSO,HS⟩:=zh4 hiS hZS hSo hS
 rw[← hS]
 clear hW hW1 hW0 hB0 hB1 g0 g1 hs0 hBo hb hd hn hT hP hS hSl hSo hiS hZS hZ
 go_enter Tryz.func17,Tryz.ntmps17
 go_wp2_with (rw[← uh HW])
 refine cp.mono ?_
 rintro e w2 ⟨v2,rfl,⟨a2,c2,rfl,hb2,_⟩,g2⟩
 have cs:=zn9 w2 a2 c2 P hb2 (hT1.kept0 g2) hpl
 rw[← uh HS] at cs
 have hB2:=(uh HB1).kept g2 (by simp)
 have G2:=tn G1 g2
 clear cp hb2 c0 c1 hT1 g2
 go_wp2_with fail
 refine cs.mono ?_
 rintro e w3 ⟨rfl,g3⟩
 have hB3:=hB2.kept g3 (by simp)
 clear cs hB2
 go_wp2_with (refine wpList_store_row rfl 47 _ _ rfl (w.heap.size+1) S.toArray rfl rfl _ _ hB3 (uh HI) (uh HZS) (uh HSO) ?_)
 refine bodyPost_ret (results_cell_row rfl _ _ _ _ _ _ _ rfl (hB3.row S) Tryz.underlying47 rfl (uh HI)) rfl ?_
 exact ⟨rfl,zaq (tn G2 g3) _ (Or.inl (Nat.le_succ _))⟩
theorem zd2 {b:List UInt8} {s:List Ob} (h:PackOf b s):6≤b.length∧b.take 4=[67,80,75,49]∧numS (b.drop 4) 0 2=(s.length,s.flatMap obB,0)∧rdOs s.length (s.flatMap obB) 0=(s,[],0):=by
 have h1:=zfp h.ok h.few
 have e:=h.eq
 subst e
 refine ⟨by rw[zjh];omega,zhl.1,h1.1,h1.2⟩
theorem pr1 (w:World) (k:Int) (s:ByteArray):(part 9 #[.int .i64 k,.string s] 1).run Tryz.prog w = .ok (.string s) w:=by kernel_rfl
end Go.Proofs.YtegbbkgmiklhcaaGreatDoor
