/- Lemmas. -/
import Derived.Test.YtoilcpdhhlcidaaGreatDoorSSum
import Derived.Stop.BytesEq
namespace Go.Proofs.YtoilcpdhhlcidaaGreatDoor
open Go.RowKit
set_option maxRecDepth 100000
theorem Bts.offNew {w:World} {ao:Option Addr} {c b:Nat} {x:List UInt8} (h:Bts w ao c x) (hb:w.heap.size≤b):0<x.length→Off ao b:=by
 intro h0 ad e e2
 have h1:=h.cell ad e 0 h0
 have:=World.block_lt_of_cell? w _ h1
 simp only at this
 omega
theorem HAt.fresh (w:World):HAt (w.alloc (.cells (hc (List.replicate 8 0) (List.replicate 64 0) 0).toArray 169)) w.heap.size 169 [] [] (List.replicate 8 0) (List.replicate 64 0) [] :=
 ⟨by have:=Blk.new w 169 (hc (List.replicate 8 0) (List.replicate 64 0) 0);simpa using this,Took.none⟩
theorem zi6 {L:List (List UInt8)} {k:Nat} (h:k<L.length):(L.take (k+1)).flatten=(L.take k).flatten++L[k]:=by
 rw[zli h,List.flatten_append];simp
theorem zjv (L:List (List UInt8)) (k:Nat):((L.take k).flatten).length≤L.flatten.length:=by
 conv=>rhs;rw[← List.take_append_drop k L,List.flatten_append,List.length_append]
 omega
set_option maxHeartbeats 1000000 in
theorem zr6 (w:World) (ao:Option Addr) (c:Nat) (L:List (List UInt8)) (hL:Lst w ao c L) (hT:Tabs w) (hlen:L.flatten.length<576460752303423488) :
  Calls Tryz.prog 95 #[.slice ao L.length c] w fun e w'=>e = .returned (.agg ((shaL L.flatten).map bv).toArray)∧w.grownBy w' none:=by
 have hi32:(Tryz.prog.info? 102).map (·.size)=some 32:=by kernel_rfl
 obtain ⟨Z,hZ⟩:∃ Z:Array Value,Z=(hc (List.replicate 8 0) (List.replicate 64 0) 0).toArray:=⟨_,rfl⟩
 have hzv:=zi4
 rw[← hZ] at hzv
 obtain ⟨q,hq⟩:∃ q,q=L.length:=⟨_,rfl⟩
 rw[← hq]
 have hqc:q≤c:=by have:=hL.fits;omega
 have hqm:q≤maxLen:=by have:=hL.most;omega
 unfold maxLen at hqm
 obtain ⟨HZ,HQ⟩:=zh2 hZ hq
 clear hZ hq
 go_enter Tryz.func95,Tryz.ntmps95
 go_wp2
 go_loopw [8] (fun i wr=>∃ (k:Nat) (words:List W) (rest:List UInt8),k≤q∧i = .int .i64 k∧HAt wr (w.heap.size+1) 169 [] [] words rest (L.take k).flatten∧Blk wr w.heap.size 102 ((List.replicate 32 (0:UInt8)).map bv)∧w.grownBy wr none) (fun i _=>q - (intOf i).toNat)
 case atStart =>
  refine ⟨0,List.replicate 8 0,List.replicate 64 0,Nat.zero_le _,rfl,?_,?_,zaf (zaf (zac _ _) _) _⟩
  ·rw[uh HZ]
   have:=HAt.fresh (w.alloc (.cells ((List.replicate 32 (0:UInt8)).map bv).toArray 102))
   rw[World.size_alloc] at this
   exact this
  ·exact (Blk.new w 102 ((List.replicate 32 (0:UInt8)).map bv)).alloc _
 case round =>
  obtain ⟨k,words,rest,hk,rfl,hH,hR,hg⟩:=hrel
  by_cases hlt:k<q
  ·have hkL:k<L.length:=by have:=uh HQ;omega
   obtain ⟨ad,rfl⟩:∃ ad,ao=some ad:=by
    cases ao with
    | none=>have:=hL.zip rfl;omega
    | some ad=>exact ⟨ad,rfl⟩
   obtain ⟨ai,ci,hc,hbi⟩:=hL.cell ad rfl k hkL
   have hs:=hL.shape ad rfl (by omega)
   obtain ⟨b,o,s⟩:=ad
   simp only at hs hc
   subst hs
   have hcr:=hg.cell hc (by simp)
   have hbr:=hbi.kept hg (fun x e=>by cases e)
   have hfl:=zjv L (k+1)
   rw[zi6 hkL,List.length_append] at hfl
   have hwr:=zgd wr (w.heap.size+1) 169 [] [] words rest _ hH (hT.kept0 hg) (hT.glb (by omega)) ai ci L[k] hbr (hbi.offNew (by omega)) (by omega)
   rw[show ([]:List Value).length=0 from rfl,← zi6 hkL] at hwr
   obtain ⟨xl,hxl⟩:∃ xl,xl=(L[k]).length:=⟨_,rfl⟩
   rw[← hxl] at hcr hwr
   have HR:=hide hR
   have hq0:(0:Int)≤(k:Int):=by omega
   clear hH hc hbi hbr hfl hxl hL hR hT hlen
   go_wp2_with (go_at_call 112;refine hwr.mono ?_;rintro e w2 ⟨rfl,⟨wo,re,hH2⟩,g2⟩)
   go_roundw
   case rel=>exact ⟨k+1,wo,re,by omega,by go_num,hH2,(uh HR).kept g2 (by simp),zae hg g2 (fun y e=>by cases e;exact Or.inl (by omega))⟩
   case measure=>simp[intOf];omega
  ·obtain rfl:k=q:=by omega
   rw[show L.take k=L by rw[uh HQ,List.take_length]] at hH
   have hsm:=zrj wr (w.heap.size+1) 169 [] [] words rest _ hH (hT.kept0 hg) hlen
   rw[show ([]:List Value).length=0 from rfl] at hsm
   obtain ⟨sl,hsl⟩:∃ sl,sl=shaL L.flatten:=⟨_,rfl⟩
   rw[← hsl] at hsm
   have hl32:sl.length=32:=by rw[hsl];exact zc5 _
   have hsz:((sl.map bv).toArray).size=32:=by simp[hl32]
   obtain ⟨HSZ,HSL⟩:=zh2 hsz hsl
   clear hsz hl32 hsl hH hL
   go_wp2_with (first | (go_at_call 113;refine hsm.mono ?_;rintro e w2 ⟨rfl,g2⟩;have hR2:=hR.kept g2 (by simp)) | (refine wpList_store_row rfl 102 _ _ rfl w.heap.size _ rfl rfl _ _ hR2 ?_ ?_ ?_ ?_;(rw[uh HSZ];exact hi32);(rw[uh HSZ];rfl);(exact all_oneCell_toArray (zch _))))
   have hS:=hR2.row (sl.map bv)
   have hG:w.grownBy (w2.setRow w.heap.size (sl.map bv).toArray) none:=zaj (zae hg g2 (fun y e=>by cases e)) _ (Or.inl (Nat.le_refl _))
   refine bodyPost_ret (v := .agg (sl.map bv).toArray) (results_cell_row (g:=w.heap.size) rfl _ _ _ _ _ _ ?_ hS Tryz.underlying102 rfl ?_) rfl ⟨?_,hG⟩
   ·rfl
   ·rw[uh HSZ];exact hi32
   ·rw[uh HSL]
theorem zpy (w:World) (ao:Option Addr) (c:Nat) (x:List UInt8) (hx:Bts w ao c x) (hT:Tabs w) (hlen:x.length<576460752303423488) :
  Calls Tryz.prog 77 #[.slice ao x.length c] w fun e w'=>e = .returned (.agg ((shaL x).map bv).toArray)∧w.grownBy w' none:=by
 have hi32:(Tryz.prog.info? 102).map (·.size)=some 32:=by kernel_rfl
 obtain ⟨W1,hW1⟩:∃ W1,W1=(w.alloc (.cells #[.int .u8 0,.int .u8 0,.int .u8 0,.int .u8 0,.int .u8 0,.int .u8 0,.int .u8 0,.int .u8 0,.int .u8 0,.int .u8 0,.int .u8 0,.int .u8 0,.int .u8 0,.int .u8 0,.int .u8 0,.int .u8 0,.int .u8 0,.int .u8 0,.int .u8 0,.int .u8 0,.int .u8 0,.int .u8 0,.int .u8 0,.int .u8 0,.int .u8 0,.int .u8 0,.int .u8 0,.int .u8 0,.int .u8 0,.int .u8 0,.int .u8 0,.int .u8 0] 102)).alloc (.cells #[.slice ao x.length c] 53):=⟨_,rfl⟩
 have hg1:w.grownBy W1 none:=by rw[hW1];exact zaf (zaf (zac _ _) _) _
 have hR1:Blk W1 w.heap.size 102 ((List.replicate 32 (0:UInt8)).map bv):=by
  rw[hW1];exact (Blk.new w 102 ((List.replicate 32 (0:UInt8)).map bv)).alloc _
 have hB1:Blk W1 (w.heap.size+1) 53 [.slice ao x.length c]:=by
  have:=Blk.new (w.alloc (.cells ((List.replicate 32 (0:UInt8)).map bv).toArray 102)) 53 [.slice ao x.length c]
  rw[World.size_alloc] at this
  rw[hW1];exact this
 have hL1:Lst W1 (some ⟨w.heap.size+1,0,none⟩) 1 [x]:=by
  refine ⟨(fun e=>by cases e),by simp,by unfold maxLen;omega,(fun ad e _=>by cases e;rfl),(fun ad e i hi => ?_)⟩
  cases e
  obtain rfl:i=0:=by simpa using hi
  exact ⟨ao,c,by rw[hB1.cell];rfl,hx.kept hg1 (fun y e=>by cases e)⟩
 have hof:=zr6 W1 _ 1 [x] hL1 (hT.kept0 hg1) (by simpa using hlen)
 obtain ⟨sl,hsl⟩:∃ sl,sl=shaL x:=⟨_,rfl⟩
 rw[show [x].flatten=x by simp,← hsl,show [x].length=1 from rfl] at hof
 have hl32:sl.length=32:=by rw[hsl];exact zc5 _
 have hsz:((sl.map bv).toArray).size=32:=by simp[hl32]
 obtain ⟨HSZ,HSL,HW1⟩:=zh3 hsz hsl hW1
 clear hsz hl32 hsl hB1 hL1 hW1 hx hT hlen
 go_enter Tryz.func77,Tryz.ntmps77
 go_wp2_with (first | (go_at_call 95;rw[← uh HW1];refine hof.mono ?_;rintro e w2 ⟨rfl,g2⟩;have hR2:=hR1.kept g2 (by simp)) | (refine wpList_store_row rfl 102 _ _ rfl w.heap.size _ rfl rfl _ _ hR2 ?_ ?_ ?_ ?_;(rw[uh HSZ];exact hi32);(rw[uh HSZ];rfl);(exact all_oneCell_toArray (zch _))))
 have hS:=hR2.row (sl.map bv)
 have hG:w.grownBy (w2.setRow w.heap.size (sl.map bv).toArray) none:=zaj (zae hg1 g2 (fun y e=>by cases e)) _ (Or.inl (Nat.le_refl _))
 refine bodyPost_ret (v := .agg (sl.map bv).toArray) (results_cell_row (g:=w.heap.size) rfl _ _ _ _ _ _ ?_ hS Tryz.underlying102 rfl ?_) rfl ⟨?_,hG⟩
 ·rfl
 ·rw[uh HSZ];exact hi32
 ·rw[uh HSL]
end Go.Proofs.YtoilcpdhhlcidaaGreatDoor
