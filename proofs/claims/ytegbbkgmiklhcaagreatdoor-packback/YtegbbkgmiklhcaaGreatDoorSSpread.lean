/- Lemmas. -/
import Derived.Test.YtegbbkgmiklhcaaGreatDoorSWord
import Derived.Deep.MidRow
import Derived.Deep.RegionHeld3
import Derived.BigQuiet
namespace Go.Proofs.YtegbbkgmiklhcaaGreatDoor
open Go.RowKit
set_option maxRecDepth 100000
theorem zn1 (w:World) (x:W) (n:Nat) (h0:0<n) (h1:n<32) :
  Calls Tryz.prog 133 #[.int .u32 (wz x),.int .i64 (n:Int)] w fun e w'=>e = .returned (.int .u32 (wz (ror x n)))∧w'=w:=zki w x n h0 h1
theorem zi4 (w:World) (x:W) (z:Int) (h0:0<z) (h1:z<32) :
  Calls Tryz.prog 133 #[.int .u32 (wz x),.int .i64 z] w fun e w'=>e = .returned (.int .u32 (wz (ror x z.toNat)))∧w'=w:=by
 have:=zn1 w x z.toNat (by omega) (by omega)
 rw[Int.toNat_of_nonneg (by omega)] at this
 exact this
theorem zq5 (n0 n1 n2 n3:Nat) (h0:n0<256) (h1:n1<256) (h2:n2<256) (h3:n3<256) :
  bits .or .u32 (bits .or .u32 (bits .or .u32 ((n0:Int)*16777216) ((n1:Int)*65536)) ((n2:Int)*256)) (n3:Int) =
   ((n0*16777216+n1*65536+n2*256+n3:Nat):Int):=by
 have e0:(n0:Int)*16777216=((n0*16777216:Nat):Int):=by omega
 have e1:(n1:Int)*65536=((n1*65536:Nat):Int):=by omega
 have e2:(n2:Int)*256=((n2*256:Nat):Int):=by omega
 have p24:(2:Nat) ^ 24=16777216:=rfl
 have p16:(2:Nat) ^ 16=65536:=rfl
 have p8:(2:Nat) ^ 8=256:=rfl
 have j1:n0*16777216 ||| n1*65536=n0*16777216+n1*65536:=by
  have:=Nat.shiftLeft_add_eq_or_of_lt (b:=n1*65536) (i:=24) (by rw[p24];omega) n0
  rw[Nat.shiftLeft_eq,p24] at this;exact this.symm
 have k2:(n0*256+n1)*65536=n0*16777216+n1*65536:=by omega
 have k3:(n0*65536+n1*256+n2)*256=n0*16777216+n1*65536+n2*256:=by omega
 have j2:(n0*16777216+n1*65536) ||| n2*256=n0*16777216+n1*65536+n2*256:=by
  have:=Nat.shiftLeft_add_eq_or_of_lt (b:=n2*256) (i:=16) (by rw[p16];omega) (n0*256+n1)
  rw[Nat.shiftLeft_eq,p16,k2] at this;exact this.symm
 have j3:(n0*16777216+n1*65536+n2*256) ||| n3=n0*16777216+n1*65536+n2*256+n3:=by
  have:=Nat.shiftLeft_add_eq_or_of_lt (b:=n3) (i:=8) (by rw[p8];omega) (n0*65536+n1*256+n2)
  rw[Nat.shiftLeft_eq,p8,k3] at this;exact this.symm
 rw[e0,e1,e2,u32_or_nat _ _ (by omega) (by omega),j1,u32_or_nat _ _ (by omega) (by omega),j2,u32_or_nat _ _ (by omega) (by omega),j3]
theorem zlw (a b c d:UInt8):wz (zls a b c d)=((a.toNat*16777216+b.toNat*65536+c.toNat*256+d.toNat:Nat):Int):=by
 have:=a.toNat_lt
 have:=b.toNat_lt
 have:=c.toNat_lt
 have:=d.toNat_lt
 unfold wz zls
 rw[BitVec.toNat_ofNat,Nat.mod_eq_of_lt (by omega)]
set_option maxHeartbeats 400000 in
theorem zkj (w:World) (b o:Nat) (l:List UInt8) (hl:l.length=64) (hr:w.rangeAt b o (l.map bv)) :
  Calls Tryz.prog 132 #[.pointer (some ⟨b,o,none⟩)] w fun e w'=>e = .returned (.agg ((zcl l).map wv).toArray)∧w.grownBy w' none:=by
 go_enter Tryz.func132,Tryz.ntmps132
 go_wp2
 go_loopw [11] (fun i wr=>∃ k:Nat,k≤16∧i = .int .i64 k∧Blk wr (w.heap.size+1) 181 (((w16 l).take k++List.replicate (64 - k) 0).map wv)∧Blk wr w.heap.size 181 ((List.replicate 64 (0:W)).map wv)∧w.grownBy wr none) (fun i _=>16 - (intOf i).toNat)
 case atStart =>
  refine ⟨0,Nat.zero_le _,rfl,?_,?_,?_⟩
  ·have:=Blk.new (w.alloc (.cells ((List.replicate 64 (0:W)).map wv).toArray 181)) 181 ((List.replicate 64 (0:W)).map wv)
   rw[World.size_alloc] at this
   exact this
  ·exact (Blk.new w 181 ((List.replicate 64 (0:W)).map wv)).alloc _
  ·exact zai (zai (zaa _ _) _) _
 case round =>
  obtain ⟨k,hk,rfl,hB,hR,hg⟩:=hrel
  by_cases hlt:k<16
  ·have hsl:=zc3 145 5 64 Tryz.underlying145 zat b o (4*k) (4*k+4) ((k:Int)*4) (((k:Int)+1)*4) (by omega) (by omega) (by omega) (by omega) (by omega)
   rw[show 4*k+4 - 4*k=4 by omega] at hsl
   have hc:∀ j,j<4→∃ n:Nat,n<256∧n=(l.getD (4*k+j) 0).toNat∧wr.cell? ⟨b,o+4*k+j,none⟩=some (.int .u8 (n:Int)):=by
    intro j hj
    refine ⟨_,(l.getD (4*k+j) 0).toNat_lt,rfl,?_⟩
    have hq:4*k+j<l.length:=by omega
    have:=(zac hr hg (by simp)) (4*k+j) (bv (l.getD (4*k+j) 0)) (by simp[hq])
    rw[← Nat.add_assoc] at this
    exact this
   obtain ⟨n0,hn0,e0,hc0⟩:=hc 0 (by omega)
   obtain ⟨n1,hn1,e1,hc1⟩:=hc 1 (by omega)
   obtain ⟨n2,hn2,e2,hc2⟩:=hc 2 (by omega)
   obtain ⟨n3,hn3,e3,hc3⟩:=hc 3 (by omega)
   clear hc
   have hq0:(0:Int)≤(k:Int):=by omega
   have hq1:(k:Int)<64:=by omega
   obtain ⟨p,hp⟩:∃ p,p=o+4*k:=⟨_,rfl⟩
   rw[← hp] at hsl hc0 hc1 hc2 hc3
   rw[Nat.add_zero] at hc0
   have hcs:(wr.cell? ⟨w.heap.size+1,k,none⟩).isSome=true∧wr.frozen? ⟨w.heap.size+1,k,none⟩=false:=by
    have:=hB.there k 1 (by simp[zcq];omega) 0 (by omega)
    simpa using this
   obtain ⟨hcs,hcf⟩:=hcs
   obtain ⟨ov,hcs⟩:=Option.isSome_iff_exists.1 hcs
   have hbs:b<w.heap.size:=World.block_lt_of_cell? w ⟨b,o+0,none⟩ (hr 0 (bv (l.getD 0 0)) (by simp[hl]))
   have hne1:w.heap.size+1≠b:=by omega
   have hne2:b≠w.heap.size+1:=by omega
   obtain ⟨H0,H1,H2,H3,HP,HB⟩:=zh6 e0 e1 e2 e3 hp hB
   have HR:=hide hR
   clear e0 e1 e2 e3 hp hr hB hR hl
   go_wp2
   go_region_held3 (fun w'=>w'.cell? ⟨b,p,none⟩=some (.int .u8 (n0:Int))∧w'.cell? ⟨b,p+1,none⟩=some (.int .u8 (n1:Int))∧w'.cell? ⟨b,p+2,none⟩=some (.int .u8 (n2:Int))∧w'.cell? ⟨b,p+3,none⟩=some (.int .u8 (n3:Int))) (go_keep) (fail)
   go_wp2
   go_roundw
   case rel =>
    rw[zq5 n0 n1 n2 n3 hn0 hn1 hn2 hn3]
    have hx:((n0*16777216+n1*65536+n2*256+n3:Nat):Int)=wz (zi1 l k):=by
     unfold zi1
     rw[zlw,uh H0,uh H1,uh H2,uh H3,Nat.add_zero]
    rw[hx]
    refine ⟨k+1,by omega,by go_num,?_,?_,?_⟩
    ·have:=(uh HB).set k (wv (zi1 l k))
     rw[zlu (w16 l) 64 k _ (by rw[zcq];omega) (by simp[w16]) (by omega)] at this
     first | exact this | exact this.drew
    ·first | exact (uh HR).other _ _ (by simp) | exact ((uh HR).other _ _ (by simp)).drew
    ·first | exact zae hg _ _ (Or.inl (by simp)) | exact zaq (zae hg _ _ (Or.inl (by simp)))
   case measure=>simp[intOf];omega
  ·obtain rfl:k=16:=by omega
   rw[show ((16:Nat):Int)=16 from rfl]
   rw[show (w16 l).take 16=w16 l by rw[List.take_of_length_le (by rw[zcq];omega)],show 64 - 16=48 from rfl] at hB
   obtain ⟨HB,HR⟩:=zh2 hB hR
   clear hB hR hr
   go_wp2
   go_loopw [6] (fun i wr=>∃ k:Nat,k≤48∧i = .int .i64 ((16+k:Nat):Int)∧Blk wr (w.heap.size+1) 181 ((zfs (w16 l) k++List.replicate (48 - k) 0).map wv)∧Blk wr w.heap.size 181 ((List.replicate 64 (0:W)).map wv)∧w.grownBy wr none) (fun i _=>64 - (intOf i).toNat)
   case atStart=>exact ⟨0,Nat.zero_le _,rfl,uh HB,uh HR,hg⟩
   case round =>
    clear HB HR hg
    obtain ⟨k,hk,rfl,hB,hR,hg⟩:=hrel
    by_cases hlt:k<48
    ·have hll:(zfs (w16 l) k).length=16+k:=by rw[zed,zcq]
     obtain ⟨q,hq⟩:∃ q,q=zfs (w16 l) k:=⟨_,rfl⟩
     rw[← hq] at hB hll
     obtain ⟨t,ht⟩:∃ t,t=16+k:=⟨_,rfl⟩
     rw[← ht] at hll ⊢
     have hc:∀ j,0<j→j≤16→wr.cell? ⟨w.heap.size+1,t - j,none⟩=some (.int .u32 (wz (q.getD (q.length - j) 0))):=by
      intro j h0 h1
      rw[hB.cell,hll]
      have hlq:t - j<q.length:=by omega
      rw[List.getElem?_map,List.getElem?_append_left hlq,List.getElem?_eq_getElem hlq,show q.getD (t - j) 0=q[t - j] by simp[List.getD,hlq]]
      rfl
     have hc15:=hc 15 (by omega) (by omega)
     have hc2:=hc 2 (by omega) (by omega)
     have hc7:=hc 7 (by omega) (by omega)
     have hc16:=hc 16 (by omega) (by omega)
     clear hc
     obtain ⟨x15,hx15⟩:∃ x,x=q.getD (q.length - 15) 0:=⟨_,rfl⟩
     obtain ⟨x2,hx2⟩:∃ x,x=q.getD (q.length - 2) 0:=⟨_,rfl⟩
     obtain ⟨x7,hx7⟩:∃ x,x=q.getD (q.length - 7) 0:=⟨_,rfl⟩
     obtain ⟨x16,hx16⟩:∃ x,x=q.getD (q.length - 16) 0:=⟨_,rfl⟩
     rw[← hx15] at hc15
     rw[← hx2] at hc2
     rw[← hx7] at hc7
     rw[← hx16] at hc16
     have hcs:(wr.cell? ⟨w.heap.size+1,t,none⟩).isSome=true∧wr.frozen? ⟨w.heap.size+1,t,none⟩=false:=by
      have:=hB.there t 1 (by simp;omega) 0 (by omega)
      simpa using this
     obtain ⟨hcs,hcf⟩:=hcs
     obtain ⟨ov,hcs⟩:=Option.isSome_iff_exists.1 hcs
     have ht0:16≤t:=by omega
     have ht1:t<64:=by omega
     have hz1:(16:Int)≤(t:Int):=by omega
     have hz2:(t:Int)<64:=by omega
     obtain ⟨H2,H7,H15,H16,HQ,HT⟩:=zh6 hx2 hx7 hx15 hx16 hq ht
     obtain ⟨HL,HB,HR⟩:=zh3 hll hB hR
     clear hx2 hx7 hx15 hx16 hq ht hll hB hR hl
     go_wp2
     go_quiet (fail)
     obtain ⟨wq,hwq⟩:∃ wq,wq=wr.drewN nq:=⟨_,rfl⟩
     rw[← hwq]
     have hd:∀ a,wq.cell? a=wr.cell? a:=fun a=>by rw[hwq];simp
     have hdf:∀ a,wq.frozen? a=wr.frozen? a:=fun a=>by rw[hwq];simp
     have hdh:wq.heap=wr.heap:=by rw[hwq];simp
     have hdg:w.grownBy wq none:=by rw[hwq];exact ziu hg _
     rw[← hd] at hc15 hc2 hc7 hc16 hcs
     rw[← hdf] at hcf
     have HH:=hide hdh
     clear hd hdf hdh hwq hg
     have hx:=zny
     have hsr3:wz x15 / (8:Int)=wz (x15 >>> 3):=zpg x15 3
     have hsr10:wz x2 / (1024:Int)=wz (x2 >>> 10):=zpg x2 10
     have ha:=znz
     have ham:=zhb
     go_wp2_with (go_at_call 133;refine (zi4 _ _ _ ?_ ?_).mono ?_;(decide);(decide);rintro e w' ⟨rfl,rfl⟩)
     obtain ⟨i7,hi7⟩:∃ i7:Nat,t - 7=i7:=⟨_,rfl⟩
     obtain ⟨i16,hi16⟩:∃ i16:Nat,t - 16=i16:=⟨_,rfl⟩
     have hw7:IntKind.i64.wrap ((t:Int) - 7)=(i7:Int):=by rw[IntKind.wrap_i64];omega
     have hw16:IntKind.i64.wrap ((t:Int) - 16)=(i16:Int):=by rw[IntKind.wrap_i64];omega
     rw[hi7] at hc7
     rw[hi16] at hc16
     have b70:(0:Int)≤(i7:Int):=by omega
     have b71:(i7:Int)<64:=by omega
     have b80:(0:Int)≤(i16:Int):=by omega
     have b81:(i16:Int)<64:=by omega
     have b90:(0:Int)≤(t:Int):=by omega
     have hn7:t≠i7:=by omega
     have hn16:t≠i16:=by omega
     have hk7:∀ (V:World) (v:Value),(V.setCell ⟨w.heap.size+1,t,none⟩ v).cell? ⟨w.heap.size+1,i7,none⟩=V.cell? ⟨w.heap.size+1,i7,none⟩:=fun V v=>World.cell?_setCell_other _ _ _ _ (by simp)
     have hk16:∀ (V:World) (v:Value),(V.setCell ⟨w.heap.size+1,t,none⟩ v).cell? ⟨w.heap.size+1,i16,none⟩=V.cell? ⟨w.heap.size+1,i16,none⟩:=fun V v=>World.cell?_setCell_other _ _ _ _ (by simp)
     clear hi7 hi16 hc15 hc2
     go_region_held3 (fun w'=>w'.cell? ⟨w.heap.size+1,i7,none⟩=some (.int .u32 (wz x7))∧w'.cell? ⟨w.heap.size+1,i16,none⟩=some (.int .u32 (wz x16))) (go_keep) (fail)
     go_wp2
     go_roundw
     case rel =>
      try simp only[zny,hsr3,hsr10,znz,zhb]
      have hE:((ror x2 17 ^^^ ror x2 19 ^^^ x2 >>> 10)+x7+(ror x15 7 ^^^ ror x15 18 ^^^ x15 >>> 3))+x16=nxt q:=by
       rw[nxt,← uh H2,← uh H7,← uh H15,← uh H16];rfl
      rw[hE]
      have hB1:Blk w' (w.heap.size+1) 181 ((q++List.replicate (48 - k) 0).map wv):=by
       have:=uh HB
       unfold Blk at this ⊢
       rw[uh HH];exact this
      have hR1:Blk w' w.heap.size 181 ((List.replicate 64 (0:W)).map wv):=by
       have:=uh HR
       unfold Blk at this ⊢
       rw[uh HH];exact this
      have hs:=hB1.set t (wv (nxt q))
      rw[← uh HL,zlv q _ _ (by omega),show q++[nxt q]=zfs (w16 l) (k+1) by rw[uh HQ];rfl,show 48 - k - 1=48 - (k+1) by omega,uh HL] at hs
      refine ⟨k+1,by omega,?_,?_,?_,?_⟩
      ·have:=uh HT
       rw[show (16+(k+1):Nat)=t+1 by omega]
       simp
      ·first | exact hs | exact hs.drew
      ·first | exact hR1.other _ _ (by simp) | exact (hR1.other _ _ (by simp)).drew
      ·first | exact zae hdg _ _ (Or.inl (by simp)) | exact zaq (zae hdg _ _ (Or.inl (by simp)))
     case measure=>simp[intOf];omega
    ·obtain rfl:k=48:=by omega
     rw[show 48 - 48=0 from rfl,List.replicate_zero,List.append_nil,show zfs (w16 l) 48=zcl l from rfl] at hB
     have hi64:(Tryz.prog.info? 181).map (·.size)=some 64:=by kernel_rfl
     have hsz:(((zcl l).map wv).toArray).size=64:=by simp[zdi]
     have HZ:=hide hsz
     clear hsz
     go_wp2_with (first | (refine wpList_load_row rfl 181 _ rfl (w.heap.size+1) rfl _ _ _ _ hB Tryz.underlying181 rfl ?_ ?_;(rw[uh HZ];exact hi64)) | (refine wpList_store_row rfl 181 _ _ rfl w.heap.size _ rfl rfl _ _ hR ?_ ?_ ?_ ?_;(rw[uh HZ];exact hi64);(rw[uh HZ];rfl);(exact all_oneCell_toArray (zhc _))))
     have hS:=hR.row ((zcl l).map wv)
     have hG:w.grownBy (wr.setRow w.heap.size ((zcl l).map wv).toArray) none:=zar hg _ (Or.inl (Nat.le_refl _))
     refine bodyPost_ret (v := .agg ((zcl l).map wv).toArray) (results_cell_row (g:=w.heap.size) rfl _ _ _ _ _ _ ?_ hS Tryz.underlying181 rfl ?_) rfl ⟨rfl,hG⟩
     ·rfl
     ·rw[uh HZ];exact hi64
end Go.Proofs.YtegbbkgmiklhcaaGreatDoor
