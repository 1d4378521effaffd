/- Lemmas. -/
import Derived.Test.YtoilcpdhhlcidaaGreatDoorSEnd
namespace Go.Proofs.YtoilcpdhhlcidaaGreatDoor
open Go.RowKit
theorem zhv (w:World):(zeroValue 169).run Tryz.prog w = .ok (.agg (hc (List.replicate 8 0) (List.replicate 64 0) 0).toArray) w:=by kernel_rfl
theorem zod (x:W):wz x=((x.toNat:Nat):Int):=rfl
theorem zl4 (x:W):IntKind.u64.wrap (wz x)=((x.toNat:Nat):Int):=by
 have:=zpw x
 have:=zpx x
 rw[IntKind.wrap_u64,← zod];omega
theorem zhw (ws:List W) (k:Nat) (h:k<ws.length):(za4 ws).take (4*(k+1))=(za4 ws).take (4*k)++be8 4 (ws[k].toNat):=by
 induction ws generalizing k with
 | nil=>simp at h
 | cons x ws ih =>
   have e:za4 (x::ws)=be8 4 x.toNat++za4 ws:=rfl
   have hl:(be8 4 x.toNat).length=4:=zbe _ _
   cases k with
   | zero =>
     rw[e,show 4*(0+1)=(be8 4 x.toNat).length from hl.symm,List.take_left]
     rfl
   | succ k =>
     rw[e,show 4*(k+1+1)=(be8 4 x.toNat).length+4*(k+1) by omega,List.take_length_add_append,show 4*(k+1)=(be8 4 x.toNat).length+4*k by omega,List.take_length_add_append,← show 4*(k+1)=(be8 4 x.toNat).length+4*k by omega,ih k (by simpa using h),List.append_assoc]
     rfl
theorem zkd (ws:List W) (k:Nat) (h:k<8):((za4 ws).take (4*k)++List.replicate (32 - 4*k) (0:UInt8)).map bv=((za4 ws).take (4*k)).map bv++((List.replicate 4 (0:UInt8)).map bv++(List.replicate (32 - 4*(k+1)) (0:UInt8)).map bv):=by
 rw[List.map_append]
 congr 1
 rw[← List.map_append,List.replicate_append_replicate]
 congr 2
 omega
set_option maxRecDepth 100000 in
set_option maxHeartbeats 1000000 in
theorem zo3 (w:World) (b:Nat) (t:TypeId) (pre post:List Value) (words:List W) (rest l:List UInt8) (hH:HAt w b t pre post words rest l) (hT:Tabs w) (hlen:l.length<576460752303423488) :
  Calls Tryz.prog 113 #[.pointer (some ⟨b,pre.length,none⟩)] w fun e w'=>e = .returned (.agg ((shaL l).map bv).toArray)∧w.grownBy w' none:=by
 obtain ⟨o,ho⟩:∃ o,o=pre.length:=⟨_,rfl⟩
 rw[← ho]
 have hi8:(Tryz.prog.info? 166).map (·.size)=some 8:=by kernel_rfl
 have hi32:(Tryz.prog.info? 102).map (·.size)=some 32:=by kernel_rfl
 have hi73:(Tryz.prog.info? 169).map (·.size)=some 73:=by kernel_rfl
 obtain ⟨Z,hZ⟩:∃ Z:Array Value,Z=(hc (List.replicate 8 0) (List.replicate 64 0) 0).toArray:=⟨_,rfl⟩
 have hzv:=zhv
 rw[← hZ] at hzv
 obtain ⟨W1,hW1⟩:∃ W1,W1=(w.alloc (.cells #[.int .u8 0,.int .u8 0,.int .u8 0,.int .u8 0,.int .u8 0,.int .u8 0,.int .u8 0,.int .u8 0,.int .u8 0,.int .u8 0,.int .u8 0,.int .u8 0,.int .u8 0,.int .u8 0,.int .u8 0,.int .u8 0,.int .u8 0,.int .u8 0,.int .u8 0,.int .u8 0,.int .u8 0,.int .u8 0,.int .u8 0,.int .u8 0,.int .u8 0,.int .u8 0,.int .u8 0,.int .u8 0,.int .u8 0,.int .u8 0,.int .u8 0,.int .u8 0] 102)).alloc (.cells Z 169):=⟨_,rfl⟩
 have hR1:Blk W1 w.heap.size 102 ((List.replicate 32 (0:UInt8)).map bv):=by
  rw[hW1];exact (Blk.new w 102 ((List.replicate 32 (0:UInt8)).map bv)).alloc _
 have hZ1:Blk W1 (w.heap.size+1) 169 (hc (List.replicate 8 0) (List.replicate 64 0) 0):=by
  have:=Blk.new (w.alloc (.cells ((List.replicate 32 (0:UInt8)).map bv).toArray 102)) 169 (hc (List.replicate 8 0) (List.replicate 64 0) 0)
  rw[World.size_alloc] at this
  rw[hW1,hZ];exact this
 have hg1:w.grownBy W1 none:=by rw[hW1];exact zad (zad (zab _ _) _) _
 have hHr:W1.rangeAt b o (hc words rest l.length):=by
  have:=(hH.kept hg1 (by simp)).blk.range
  rw[← ho] at this
  exact this
 have hl73:(hc words rest l.length).length=73:=zl0 _ _ _ hH.took.w8 hH.took.r64
 obtain ⟨cells,hcells⟩:∃ cells,cells=hc words rest l.length:=⟨_,rfl⟩
 rw[← hcells] at hHr hl73
 have hs73:cells.toArray.size=73:=by simpa using hl73
 have hone:cells.toArray.all (·.oneCell')=true:=by
  rw[hcells]
  refine all_oneCell_toArray (fun v hv => ?_)
  rcases List.mem_append.1 hv with h | h
  ·exact zhu _ v h
  ·rcases List.mem_append.1 h with h | h
   ·exact zbw _ v h
   ·simp at h;subst h;rfl
 obtain ⟨W2,hW2⟩:∃ W2,W2=W1.setRow (w.heap.size+1) cells.toArray:=⟨_,rfl⟩
 have hB2:Blk W2 (w.heap.size+1) 169 ([]++(hc words rest l.length++[])):=by
  rw[hW2,hcells];simpa using hZ1.row (hc words rest l.length)
 have hR2:Blk W2 w.heap.size 102 ((List.replicate 32 (0:UInt8)).map bv):=by rw[hW2];exact hR1.row_other _ _ (by omega)
 have hg2:w.grownBy W2 none:=by rw[hW2];exact zai hg1 _ (Or.inl (by omega))
 have hT2:=hT.kept0 hg2
 have hend:=zo2 W2 (w.heap.size+1) 169 [] [] words rest l ⟨hB2,hH.took⟩ hT2 (hT.glb (by omega)) hlen
 have hZs:Z.size=73:=by rw[hZ];rfl
 have hZ1' : W1.heap[w.heap.size+1]? = some (.cells Z 169 (0,0)):=by rw[hZ];exact hZ1
 rw[show ([]:List Value).length=0 from rfl] at hend
 rw[hW2] at hend
 have HW1:=hide hW1
 clear hW1
 obtain ⟨HR2,HZ,HW2⟩:=zh3 hR2 hZ hW2
 clear hR2 hZ hB2 hT hT2 hR1 hZ1 hW2 hH hlen hcells ho
 go_enter Tryz.func113,Tryz.ntmps113
 go_wp2_with (first
  | (rw[← uh HW1];refine wpList_load_mid rfl 169 _ rfl b o rfl _ _ hHr Tryz.underlying169 rfl ?_ ?_;(rw[hl73];exact hi73))
  | (refine wpList_store_row rfl 169 _ _ rfl (w.heap.size+1) _ rfl rfl _ _ hZ1' ?_ ?_ hone ?_;(rw[hs73];exact hi73);(rw[hZs,hs73]))
  | (go_at_call 130;refine hend.mono ?_;rintro e w3 ⟨rfl,⟨wo,re,hH3⟩,g3⟩;rw[← uh HW2] at g3;have hr3:w3.rangeAt (w.heap.size+1) 0 (wo.map wv):=hH3.words.range;have hw8:(wo.map wv).length=8:=by rw[List.length_map];exact hH3.took.w8)
  | (refine wpList_load_mid rfl 166 _ rfl (w.heap.size+1) 0 rfl _ _ (World.rangeAt_alloc hr3 _) Tryz.underlying166 rfl ?_ ?_;(rw[hw8];exact hi8)))
 have hwo:wo=shaW l:=hH3.took.ended
 obtain ⟨W3,hW3⟩:∃ W3,W3=w3.alloc (.cells #[.int .u8 0,.int .u8 0,.int .u8 0,.int .u8 0,.int .u8 0,.int .u8 0,.int .u8 0,.int .u8 0,.int .u8 0,.int .u8 0,.int .u8 0,.int .u8 0,.int .u8 0,.int .u8 0,.int .u8 0,.int .u8 0,.int .u8 0,.int .u8 0,.int .u8 0,.int .u8 0,.int .u8 0,.int .u8 0,.int .u8 0,.int .u8 0,.int .u8 0,.int .u8 0,.int .u8 0,.int .u8 0,.int .u8 0,.int .u8 0,.int .u8 0,.int .u8 0] 102):=⟨_,rfl⟩
 rw[← hW3]
 have hN3:Blk W3 w3.heap.size 102 ((List.replicate 32 (0:UInt8)).map bv):=by rw[hW3];exact Blk.new w3 _ _
 have hg3:w.grownBy w3 none:=zae hg2 g3 (fun y e=>by cases e;exact Or.inl (by omega))
 have hgW3:w.grownBy W3 none:=by rw[hW3];exact zad hg3 _
 have hR3:Blk W3 w.heap.size 102 ((List.replicate 32 (0:UInt8)).map bv):=by
  rw[hW3];exact ((uh HR2).kept g3 (by simp)).alloc _
 have hsz3:=hg3.size
 have hlt3:w.heap.size<w3.heap.size:=Nat.lt_of_lt_of_le (uh HR2).lt g3.size
 obtain ⟨N,hN⟩:∃ N,N=w3.heap.size:=⟨_,rfl⟩
 rw[← hN] at hN3 hlt3 ⊢
 have hw8' : wo.length=8:=by simpa using hw8
 have HW8:=hide hw8'
 have HWO:=hide hwo
 clear hH3 hr3 hw8 hwo hend hW3 hg3 hg2 g3 hsz3 hN hw8'
 go_loopw [15] (fun i wr=>∃ k:Nat,k≤8∧i = .int .i64 k∧Blk wr N 102 (((za4 wo).take (4*k)++List.replicate (32 - 4*k) (0:UInt8)).map bv)∧Blk wr w.heap.size 102 ((List.replicate 32 (0:UInt8)).map bv)∧w.grownBy wr none) (fun i _=>8 - (intOf i).toNat)
 case atStart=>exact ⟨0,Nat.zero_le _,rfl,hN3,hR3,hgW3⟩
 case round =>
  clear hN3 hR3 hgW3
  obtain ⟨k,hk,rfl,hB,hR,hg⟩:=hrel
  by_cases hlt:k<8
  ·have hq0:(0:Int)≤(k:Int):=by omega
   have hkw:k<wo.length:=by rw[uh HW8];exact hlt
   obtain ⟨xk,hxk⟩:∃ xk,xk=wo[k]:=⟨_,rfl⟩
   have hidx:=ze0 166 165 8 (wo.map wv) k (.int .u32 (wz xk)) Tryz.underlying166 zfe zgx hlt (by
    rw[List.getElem?_map,List.getElem?_eq_getElem hkw,hxk];rfl)
   have hsl:=zdg 102 5 32 Tryz.underlying102 zav N 0 (4*k) (4*k+4) ((k:Int)*4) (((k:Int)+1)*4) (by omega) (by omega) (by omega) (by omega) (by omega)
   rw[show 4*k+4 - 4*k=4 by omega,Nat.zero_add] at hsl
   have hal:(((za4 wo).take (4*k)).map bv).length=4*k:=by rw[List.length_map,List.length_take,zb0,uh HW8];omega
   rw[zkd wo k hlt] at hB
   have hth:=hB.thereIn
   rw[hal,List.length_map,List.length_replicate] at hth
   obtain ⟨HX,HB,HR,HAL⟩:=zh4 hxk hB hR hal
   clear hxk hB hR hal
   go_wp2_with (go_at_call 131;refine (zfg _ N (4*k) 4 _ xk.toNat _ ?_ ?_ hth).mono ?_;(first | rw[zl4] | exact zod xk);(omega);rintro e w4 ⟨rfl,rfl⟩)
   go_roundw
   case rel =>
    have hS:=Blk.setCells ((be8 4 xk.toNat).map bv) _ (uh HB) (by simp[zbe])
    rw[uh HAL] at hS
    refine ⟨k+1,by omega,by go_num,?_,(uh HR).setCells_other (by omega) _ _,zas (Or.inl (by omega)) _ _ hg⟩
    rw[zhw wo k hkw,List.map_append,List.map_append,List.append_assoc,← uh HX]
    exact hS
   case measure=>simp[intOf];omega
  ·obtain rfl:k=8:=by omega
   have hbl:(za4 wo).length=32:=by rw[zb0,uh HW8]
   rw[List.take_of_length_le (by omega),show 32 - 4*8=0 from rfl,List.replicate_zero,List.append_nil] at hB
   have hsz:(((za4 wo).map bv).toArray).size=32:=by simp[hbl]
   have HSZ:=hide hsz
   clear hsz hbl
   go_wp2_with (first | (refine wpList_load_row rfl 102 _ rfl N rfl _ _ _ _ hB Tryz.underlying102 rfl ?_ ?_;(rw[uh HSZ];exact hi32)) | (refine wpList_store_row rfl 102 _ _ rfl w.heap.size _ rfl rfl _ _ hR ?_ ?_ ?_ ?_;(rw[uh HSZ];exact hi32);(rw[uh HSZ];rfl);(exact all_oneCell_toArray (zbw _))))
   have hS:=hR.row ((za4 wo).map bv)
   have hG:w.grownBy (wr.setRow w.heap.size ((za4 wo).map bv).toArray) none:=zai hg _ (Or.inl (Nat.le_refl _))
   refine bodyPost_ret (v := .agg ((za4 wo).map bv).toArray) (results_cell_row (g:=w.heap.size) rfl _ _ _ _ _ _ ?_ hS Tryz.underlying102 rfl ?_) rfl ⟨?_,hG⟩
   ·rfl
   ·rw[uh HSZ];exact hi32
   ·rw[uh HWO];rfl
end Go.Proofs.YtoilcpdhhlcidaaGreatDoor
