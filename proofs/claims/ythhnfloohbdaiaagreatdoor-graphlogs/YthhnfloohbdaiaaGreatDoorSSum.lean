/- Lemmas. -/
import Derived.Test.YthhnfloohbdaiaaGreatDoorSWord
import Derived.Deep.MidRow
import Derived.Deep.RegionHeld3
import Derived.BigQuiet
namespace Go.Proofs.YthhnfloohbdaiaaGreatDoor
open Go.RowKit
set_option maxRecDepth 100000
theorem zu3 (w:World) (x:W) (n:Nat) (h0:0<n) (h1:n<32) :
  Calls Tryz.prog 170 #[.int .u32 (wz x),.int .i64 (n:Int)] w fun e w'=>e = .returned (.int .u32 (wz (ror x n)))∧w'=w:=zpm w x n h0 h1
theorem zn3 (w:World) (x:W) (z:Int) (h0:0<z) (h1:z<32) :
  Calls Tryz.prog 170 #[.int .u32 (wz x),.int .i64 z] w fun e w'=>e = .returned (.int .u32 (wz (ror x z.toNat)))∧w'=w:=by
 have:=zu3 w x z.toNat (by omega) (by omega)
 rw[Int.toNat_of_nonneg (by omega)] at this
 exact this
theorem zzn (n0 n1 n2 n3:Nat) (h0:n0<256) (h1:n1<256) (h2:n2<256) (h3:n3<256) :
  bits .or .u32 (bits .or .u32 (bits .or .u32 ((n0:Int)*16777216) ((n1:Int)*65536)) ((n2:Int)*256)) (n3:Int) =
   ((n0*16777216+n1*65536+n2*256+n3:Nat):Int):=by
 have e0:(n0:Int)*16777216=((n0*16777216:Nat):Int):=by omega
 have e1:(n1:Int)*65536=((n1*65536:Nat):Int):=by omega
 have e2:(n2:Int)*256=((n2*256:Nat):Int):=by omega
 have p24:(2:Nat) ^ 24=16777216:=rfl
 have p16:(2:Nat) ^ 16=65536:=rfl
 have p8:(2:Nat) ^ 8=256:=rfl
 have j1:n0*16777216 ||| n1*65536=n0*16777216+n1*65536:=by
  have:=Nat.shiftLeft_add_eq_or_of_lt (b:=n1*65536) (i:=24) (by rw[p24];omega) n0
  rw[Nat.shiftLeft_eq,p24] at this;exact this.symm
 have k2:(n0*256+n1)*65536=n0*16777216+n1*65536:=by omega
 have k3:(n0*65536+n1*256+n2)*256=n0*16777216+n1*65536+n2*256:=by omega
 have j2:(n0*16777216+n1*65536) ||| n2*256=n0*16777216+n1*65536+n2*256:=by
  have:=Nat.shiftLeft_add_eq_or_of_lt (b:=n2*256) (i:=16) (by rw[p16];omega) (n0*256+n1)
  rw[Nat.shiftLeft_eq,p16,k2] at this;exact this.symm
 have j3:(n0*16777216+n1*65536+n2*256) ||| n3=n0*16777216+n1*65536+n2*256+n3:=by
  have:=Nat.shiftLeft_add_eq_or_of_lt (b:=n3) (i:=8) (by rw[p8];omega) (n0*65536+n1*256+n2)
  rw[Nat.shiftLeft_eq,p8,k3] at this;exact this.symm
 rw[e0,e1,e2,u32_or_nat _ _ (by omega) (by omega),j1,u32_or_nat _ _ (by omega) (by omega),j2,u32_or_nat _ _ (by omega) (by omega),j3]
theorem zli (a b c d:UInt8):wz (zrk a b c d)=((a.toNat*16777216+b.toNat*65536+c.toNat*256+d.toNat:Nat):Int):=by
 have:=a.toNat_lt
 have:=b.toNat_lt
 have:=c.toNat_lt
 have:=d.toNat_lt
 unfold wz zrk
 rw[BitVec.toNat_ofNat,Nat.mod_eq_of_lt (by omega)]
set_option maxHeartbeats 400000 in
theorem zpn (w:World) (b o:Nat) (l:List UInt8) (hl:l.length=64) (hr:w.rangeAt b o (l.map bv)) :
  Calls Tryz.prog 169 #[.pointer (some ⟨b,o,none⟩)] w fun e w'=>e = .returned (.agg ((zbq l).map wv).toArray)∧w.grownBy w' none:=by
 go_enter Tryz.func169,Tryz.ntmps169
 go_wp2
 go_loopw [11] (fun i wr=>∃ k:Nat,k≤16∧i = .int .i64 k∧Blk wr (w.heap.size+1) 239 (((w16 l).take k++List.replicate (64 - k) 0).map wv)∧Blk wr w.heap.size 239 ((List.replicate 64 (0:W)).map wv)∧w.grownBy wr none) (fun i _=>16 - (intOf i).toNat)
 case atStart =>
  refine ⟨0,Nat.zero_le _,rfl,?_,?_,?_⟩
  ·have:=Blk.new (w.alloc (.cells ((List.replicate 64 (0:W)).map wv).toArray 239)) 239 ((List.replicate 64 (0:W)).map wv)
   rw[World.size_alloc] at this
   exact this
  ·exact (Blk.new w 239 ((List.replicate 64 (0:W)).map wv)).alloc _
  ·exact zah (zah (zab _ _) _) _
 case round =>
  obtain ⟨k,hk,rfl,hB,hR,hg⟩:=hrel
  by_cases hlt:k<16
  ·have hsl:=zfx 211 5 64 Tryz.underlying211 zbf b o (4*k) (4*k+4) ((k:Int)*4) (((k:Int)+1)*4) (by omega) (by omega) (by omega) (by omega) (by omega)
   rw[show 4*k+4 - 4*k=4 by omega] at hsl
   have hc:∀ j,j<4→∃ n:Nat,n<256∧n=(l.getD (4*k+j) 0).toNat∧wr.cell? ⟨b,o+4*k+j,none⟩=some (.int .u8 (n:Int)):=by
    intro j hj
    refine ⟨_,(l.getD (4*k+j) 0).toNat_lt,rfl,?_⟩
    have hq:4*k+j<l.length:=by omega
    have:=(zaf hr hg (by simp)) (4*k+j) (bv (l.getD (4*k+j) 0)) (by simp[hq])
    rw[← Nat.add_assoc] at this
    exact this
   obtain ⟨n0,hn0,e0,hc0⟩:=hc 0 (by omega)
   obtain ⟨n1,hn1,e1,hc1⟩:=hc 1 (by omega)
   obtain ⟨n2,hn2,e2,hc2⟩:=hc 2 (by omega)
   obtain ⟨n3,hn3,e3,hc3⟩:=hc 3 (by omega)
   clear hc
   have hq0:(0:Int)≤(k:Int):=by omega
   have hq1:(k:Int)<64:=by omega
   obtain ⟨p,hp⟩:∃ p,p=o+4*k:=⟨_,rfl⟩
   rw[← hp] at hsl hc0 hc1 hc2 hc3
   rw[Nat.add_zero] at hc0
   have hcs:(wr.cell? ⟨w.heap.size+1,k,none⟩).isSome=true∧wr.frozen? ⟨w.heap.size+1,k,none⟩=false:=by
    have:=hB.there k 1 (by simp[zc6];omega) 0 (by omega)
    simpa using this
   obtain ⟨hcs,hcf⟩:=hcs
   obtain ⟨ov,hcs⟩:=Option.isSome_iff_exists.1 hcs
   have hbs:b<w.heap.size:=World.block_lt_of_cell? w ⟨b,o+0,none⟩ (hr 0 (bv (l.getD 0 0)) (by simp[hl]))
   have hne1:w.heap.size+1≠b:=by omega
   have hne2:b≠w.heap.size+1:=by omega
   obtain ⟨H0,H1,H2,H3,HP,HB⟩:=zh6 e0 e1 e2 e3 hp hB
   have HR:=hide hR
   clear e0 e1 e2 e3 hp hr hB hR hl
   go_wp2
   go_region_held3 (fun w'=>w'.cell? ⟨b,p,none⟩=some (.int .u8 (n0:Int))∧w'.cell? ⟨b,p+1,none⟩=some (.int .u8 (n1:Int))∧w'.cell? ⟨b,p+2,none⟩=some (.int .u8 (n2:Int))∧w'.cell? ⟨b,p+3,none⟩=some (.int .u8 (n3:Int))) (go_keep) (fail)
   go_wp2
   go_roundw
   case rel =>
    rw[zzn n0 n1 n2 n3 hn0 hn1 hn2 hn3]
    have hx:((n0*16777216+n1*65536+n2*256+n3:Nat):Int)=wz (zfg l k):=by
     unfold zfg
     rw[zli,uh H0,uh H1,uh H2,uh H3,Nat.add_zero]
    rw[hx]
    refine ⟨k+1,by omega,by go_num,?_,?_,?_⟩
    ·have:=(uh HB).set k (wv (zfg l k))
     rw[zlh (w16 l) 64 k _ (by rw[zc6];omega) (by simp[w16]) (by omega)] at this
     first | exact this | exact this.drew
    ·first | exact (uh HR).other _ _ (by simp) | exact ((uh HR).other _ _ (by simp)).drew
    ·first | exact zad hg _ _ (Or.inl (by simp)) | exact zak (zad hg _ _ (Or.inl (by simp)))
   case measure=>simp[intOf];omega
  ·obtain rfl:k=16:=by omega
   rw[show ((16:Nat):Int)=16 from rfl]
   rw[show (w16 l).take 16=w16 l by rw[List.take_of_length_le (by rw[zc6];omega)],show 64 - 16=48 from rfl] at hB
   obtain ⟨HB,HR⟩:=zh2 hB hR
   clear hB hR hr
   go_wp2
   go_loopw [6] (fun i wr=>∃ k:Nat,k≤48∧i = .int .i64 ((16+k:Nat):Int)∧Blk wr (w.heap.size+1) 239 ((zd1 (w16 l) k++List.replicate (48 - k) 0).map wv)∧Blk wr w.heap.size 239 ((List.replicate 64 (0:W)).map wv)∧w.grownBy wr none) (fun i _=>64 - (intOf i).toNat)
   case atStart=>exact ⟨0,Nat.zero_le _,rfl,uh HB,uh HR,hg⟩
   case round =>
    clear HB HR hg
    obtain ⟨k,hk,rfl,hB,hR,hg⟩:=hrel
    by_cases hlt:k<48
    ·have hll:(zd1 (w16 l) k).length=16+k:=by rw[zdb,zc6]
     obtain ⟨q,hq⟩:∃ q,q=zd1 (w16 l) k:=⟨_,rfl⟩
     rw[← hq] at hB hll
     obtain ⟨t,ht⟩:∃ t,t=16+k:=⟨_,rfl⟩
     rw[← ht] at hll ⊢
     have hc:∀ j,0<j→j≤16→wr.cell? ⟨w.heap.size+1,t - j,none⟩=some (.int .u32 (wz (q.getD (q.length - j) 0))):=by
      intro j h0 h1
      rw[hB.cell,hll]
      have hlq:t - j<q.length:=by omega
      rw[List.getElem?_map,List.getElem?_append_left hlq,List.getElem?_eq_getElem hlq,show q.getD (t - j) 0=q[t - j] by simp[List.getD,hlq]]
      rfl
     have hc15:=hc 15 (by omega) (by omega)
     have hc2:=hc 2 (by omega) (by omega)
     have hc7:=hc 7 (by omega) (by omega)
     have hc16:=hc 16 (by omega) (by omega)
     clear hc
     obtain ⟨x15,hx15⟩:∃ x,x=q.getD (q.length - 15) 0:=⟨_,rfl⟩
     obtain ⟨x2,hx2⟩:∃ x,x=q.getD (q.length - 2) 0:=⟨_,rfl⟩
     obtain ⟨x7,hx7⟩:∃ x,x=q.getD (q.length - 7) 0:=⟨_,rfl⟩
     obtain ⟨x16,hx16⟩:∃ x,x=q.getD (q.length - 16) 0:=⟨_,rfl⟩
     rw[← hx15] at hc15
     rw[← hx2] at hc2
     rw[← hx7] at hc7
     rw[← hx16] at hc16
     have hcs:(wr.cell? ⟨w.heap.size+1,t,none⟩).isSome=true∧wr.frozen? ⟨w.heap.size+1,t,none⟩=false:=by
      have:=hB.there t 1 (by simp;omega) 0 (by omega)
      simpa using this
     obtain ⟨hcs,hcf⟩:=hcs
     obtain ⟨ov,hcs⟩:=Option.isSome_iff_exists.1 hcs
     have ht0:16≤t:=by omega
     have ht1:t<64:=by omega
     have hz1:(16:Int)≤(t:Int):=by omega
     have hz2:(t:Int)<64:=by omega
     obtain ⟨H2,H7,H15,H16,HQ,HT⟩:=zh6 hx2 hx7 hx15 hx16 hq ht
     obtain ⟨HL,HB,HR⟩:=zh3 hll hB hR
     clear hx2 hx7 hx15 hx16 hq ht hll hB hR hl
     go_wp2
     go_quiet (fail)
     obtain ⟨wq,hwq⟩:∃ wq,wq=wr.drewN nq:=⟨_,rfl⟩
     rw[← hwq]
     have hd:∀ a,wq.cell? a=wr.cell? a:=fun a=>by rw[hwq];simp
     have hdf:∀ a,wq.frozen? a=wr.frozen? a:=fun a=>by rw[hwq];simp
     have hdh:wq.heap=wr.heap:=by rw[hwq];simp
     have hdg:w.grownBy wq none:=by rw[hwq];exact ze7 hg _
     rw[← hd] at hc15 hc2 hc7 hc16 hcs
     rw[← hdf] at hcf
     have HH:=hide hdh
     clear hd hdf hdh hwq hg
     have hx:=zmo
     have hsr3:wz x15 / (8:Int)=wz (x15 >>> 3):=zpl x15 3
     have hsr10:wz x2 / (1024:Int)=wz (x2 >>> 10):=zpl x2 10
     have ha:=zmp
     have ham:=zhb
     go_wp2_with (go_at_call 170;refine (zn3 _ _ _ ?_ ?_).mono ?_;(decide);(decide);rintro e w' ⟨rfl,rfl⟩)
     obtain ⟨i7,hi7⟩:∃ i7:Nat,t - 7=i7:=⟨_,rfl⟩
     obtain ⟨i16,hi16⟩:∃ i16:Nat,t - 16=i16:=⟨_,rfl⟩
     have hw7:IntKind.i64.wrap ((t:Int) - 7)=(i7:Int):=by rw[IntKind.wrap_i64];omega
     have hw16:IntKind.i64.wrap ((t:Int) - 16)=(i16:Int):=by rw[IntKind.wrap_i64];omega
     rw[hi7] at hc7
     rw[hi16] at hc16
     have b70:(0:Int)≤(i7:Int):=by omega
     have b71:(i7:Int)<64:=by omega
     have b80:(0:Int)≤(i16:Int):=by omega
     have b81:(i16:Int)<64:=by omega
     have b90:(0:Int)≤(t:Int):=by omega
     have hn7:t≠i7:=by omega
     have hn16:t≠i16:=by omega
     have hk7:∀ (V:World) (v:Value),(V.setCell ⟨w.heap.size+1,t,none⟩ v).cell? ⟨w.heap.size+1,i7,none⟩=V.cell? ⟨w.heap.size+1,i7,none⟩:=fun V v=>World.cell?_setCell_other _ _ _ _ (by simp)
     have hk16:∀ (V:World) (v:Value),(V.setCell ⟨w.heap.size+1,t,none⟩ v).cell? ⟨w.heap.size+1,i16,none⟩=V.cell? ⟨w.heap.size+1,i16,none⟩:=fun V v=>World.cell?_setCell_other _ _ _ _ (by simp)
     clear hi7 hi16 hc15 hc2
     go_region_held3 (fun w'=>w'.cell? ⟨w.heap.size+1,i7,none⟩=some (.int .u32 (wz x7))∧w'.cell? ⟨w.heap.size+1,i16,none⟩=some (.int .u32 (wz x16))) (go_keep) (fail)
     go_wp2
     go_roundw
     case rel =>
      try simp only[zmo,hsr3,hsr10,zmp,zhb]
      have hE:((ror x2 17 ^^^ ror x2 19 ^^^ x2 >>> 10)+x7+(ror x15 7 ^^^ ror x15 18 ^^^ x15 >>> 3))+x16=nxt q:=by
       rw[nxt,← uh H2,← uh H7,← uh H15,← uh H16];rfl
      rw[hE]
      have hB1:Blk w' (w.heap.size+1) 239 ((q++List.replicate (48 - k) 0).map wv):=by
       have:=uh HB
       unfold Blk at this ⊢
       rw[uh HH];exact this
      have hR1:Blk w' w.heap.size 239 ((List.replicate 64 (0:W)).map wv):=by
       have:=uh HR
       unfold Blk at this ⊢
       rw[uh HH];exact this
      have hs:=hB1.set t (wv (nxt q))
      rw[← uh HL,zrw q _ _ (by omega),show q++[nxt q]=zd1 (w16 l) (k+1) by rw[uh HQ];rfl,show 48 - k - 1=48 - (k+1) by omega,uh HL] at hs
      refine ⟨k+1,by omega,?_,?_,?_,?_⟩
      ·have:=uh HT
       rw[show (16+(k+1):Nat)=t+1 by omega]
       simp
      ·first | exact hs | exact hs.drew
      ·first | exact hR1.other _ _ (by simp) | exact (hR1.other _ _ (by simp)).drew
      ·first | exact zad hdg _ _ (Or.inl (by simp)) | exact zak (zad hdg _ _ (Or.inl (by simp)))
     case measure=>simp[intOf];omega
    ·obtain rfl:k=48:=by omega
     rw[show 48 - 48=0 from rfl,List.replicate_zero,List.append_nil,show zd1 (w16 l) 48=zbq l from rfl] at hB
     have hi64:(Tryz.prog.info? 239).map (·.size)=some 64:=by kernel_rfl
     have hsz:(((zbq l).map wv).toArray).size=64:=by simp[zd2]
     have HZ:=hide hsz
     clear hsz
     go_wp2_with (first | (refine wpList_load_row rfl 239 _ rfl (w.heap.size+1) rfl _ _ _ _ hB Tryz.underlying239 rfl ?_ ?_;(rw[uh HZ];exact hi64)) | (refine wpList_store_row rfl 239 _ _ rfl w.heap.size _ rfl rfl _ _ hR ?_ ?_ ?_ ?_;(rw[uh HZ];exact hi64);(rw[uh HZ];rfl);(exact all_oneCell_toArray (zhc _))))
     have hS:=hR.row ((zbq l).map wv)
     have hG:w.grownBy (wr.setRow w.heap.size ((zbq l).map wv).toArray) none:=zam hg _ (Or.inl (Nat.le_refl _))
     refine bodyPost_ret (v := .agg ((zbq l).map wv).toArray) (results_cell_row (g:=w.heap.size) rfl _ _ _ _ _ _ ?_ hS Tryz.underlying239 rfl ?_) rfl ⟨rfl,hG⟩
     ·rfl
     ·rw[uh HZ];exact hi64
structure Tabs (w:World):Prop where
 cube:∃ t fr,w.heap[1]? = some (.cells (Ks.map wv).toArray t fr)
 square:∃ t fr,w.heap[2]? = some (.cells (Hs.map wv).toArray t fr)
def Glb (b:Nat):Prop:=b≠1∧b≠2
theorem Tabs.kept {w a:World} {r:Option Nat} (h:Tabs w) (g:w.grownBy a r) (hr:∀ x,r=some x→Glb x):Tabs a:=by
 obtain ⟨⟨t,f,h1⟩,⟨t2,f2,h2⟩⟩:=h
 refine ⟨⟨t,f,?_⟩,⟨t2,f2,?_⟩⟩
 ·rw[g.block _ (Array.getElem?_eq_some_iff.1 h1).1 (fun e=>(hr _ e.symm).1 rfl)];exact h1
 ·rw[g.block _ (Array.getElem?_eq_some_iff.1 h2).1 (fun e=>(hr _ e.symm).2 rfl)];exact h2
theorem Tabs.kept0 {w a:World} (h:Tabs w) (g:w.grownBy a none):Tabs a:=h.kept g (fun x e=>by cases e)
theorem Tabs.glb {w:World} (h:Tabs w) {b:Nat} (hb:w.heap.size≤b):Glb b:=by
 obtain ⟨⟨t,f,h1⟩,⟨t2,f2,h2⟩⟩:=h
 have:=(Array.getElem?_eq_some_iff.1 h1).1
 have:=(Array.getElem?_eq_some_iff.1 h2).1
 constructor <;> omega
theorem Tabs.cube_cell {w:World} (h:Tabs w) (k:Nat) (hk:k<64):w.cell? ⟨1,k,none⟩=some (.int .u32 (wz (Ks.getD k 0))):=by
 obtain ⟨t,f,h1⟩:=h.cube
 rw[cell_of_row w _ k _ _ _ h1]
 have hl:k<Ks.length:=by rw[zlb];exact hk
 rw[List.getElem?_toArray,List.getElem?_map,List.getElem?_eq_getElem hl,show Ks.getD k 0=Ks[k] by simp[List.getD,hl]]
 rfl
set_option maxHeartbeats 1000000 in
theorem zrx (w:World) (b o:Nat) (l:List UInt8) (hs:List W) (h8:hs.length=8) (hl:l.length=64) (hr:w.rangeAt b o (l.map bv)) (hT:Tabs w) :
  Calls Tryz.prog 150 #[.agg (hs.map wv).toArray,.pointer (some ⟨b,o,none⟩)] w fun e w'=>e = .returned (.agg ((comp hs l).map wv).toArray)∧w.grownBy w' none:=by
 obtain ⟨h0,h1,h2,h3,h4,h5,h6,h7,rfl⟩:∃ h0 h1 h2 h3 h4 h5 h6 h7,hs=[h0,h1,h2,h3,h4,h5,h6,h7]:=by
  match hs,h8 with
  | [h0,h1,h2,h3,h4,h5,h6,h7],_=>exact ⟨h0,h1,h2,h3,h4,h5,h6,h7,rfl⟩
 obtain ⟨s0,hs0⟩:∃ s0:S8,s0=S8.ofL [h0,h1,h2,h3,h4,h5,h6,h7]:=⟨_,rfl⟩
 obtain ⟨H0,HR,HL,HT⟩:=zh4 hs0 hr hl hT
 clear hs0 hr hl h8 hT
 show Calls Tryz.prog 150 #[.agg #[.int .u32 (wz h0),.int .u32 (wz h1),.int .u32 (wz h2),.int .u32 (wz h3),.int .u32 (wz h4),.int .u32 (wz h5),.int .u32 (wz h6),.int .u32 (wz h7)],.pointer (some ⟨b,o,none⟩)] w _
 go_enter Tryz.func150,Tryz.ntmps150
 go_wp2
 go_quiet (fail)
 obtain ⟨w1,hw1⟩:∃ w1,w1=((w.alloc (.cells #[.int .u32 (wz h0),.int .u32 (wz h1),.int .u32 (wz h2),.int .u32 (wz h3),.int .u32 (wz h4),.int .u32 (wz h5),.int .u32 (wz h6),.int .u32 (wz h7)] 210)).alloc (.cells #[.int .u32 0,.int .u32 0,.int .u32 0,.int .u32 0,.int .u32 0,.int .u32 0,.int .u32 0,.int .u32 0] 210)).drewN nq:=⟨_,rfl⟩
 rw[← hw1]
 have hB:Blk w1 w.heap.size 210 ([h0,h1,h2,h3,h4,h5,h6,h7].map wv):=by
  rw[hw1];exact (Blk.new w 210 ([h0,h1,h2,h3,h4,h5,h6,h7].map wv)).alloc _
 have hR:Blk w1 (w.heap.size+1) 210 ((List.replicate 8 (0:W)).map wv):=by
  have:=Blk.new (w.alloc (.cells ([h0,h1,h2,h3,h4,h5,h6,h7].map wv).toArray 210)) 210 ((List.replicate 8 (0:W)).map wv)
  rw[World.size_alloc] at this
  rw[hw1];exact this
 have hg:w.grownBy w1 none:=by
  rw[hw1];exact ze7 (zah (zah (zab _ _) _) _) _
 have hr1:=zaf (uh HR) hg (by simp)
 obtain ⟨HB,HR1⟩:=zh2 hB hR
 clear hB hR hw1 HR
 go_wp2_with (go_at_call 169;refine (zpn _ b o l (uh HL) hr1).mono ?_;rintro e w2 ⟨rfl,hg2⟩)
 have hB2:=(uh HB).kept hg2 (by simp)
 have hR2:=(uh HR1).kept hg2 (by simp)
 have hT2:=(uh HT).kept0 (zae hg hg2 (fun _ e=>by cases e))
 have hg3:=zae hg hg2 (fun _ e=>by cases e)
 obtain ⟨ws,hws⟩:∃ ws,ws=zbq l:=⟨_,rfl⟩
 rw[← hws]
 have hwl:ws.length=64:=by rw[hws];exact zd2 l
 obtain ⟨HW,HWL,HB2,HR2,HT2⟩:=zh5 hws hwl hB2 hR2 hT2
 clear hws hwl hB2 hR2 hT2 HB HR1 hg2 hr1 hg
 go_loopw [5,6,7,8,9,10,11,12,39] (fun xa xb xc xd xe xf xg xh i wr=>∃ k:Nat,k≤64∧i = .int .i64 k∧wr=w2∧xa = .int .u32 (wz (rds s0 ws k).a)∧xb = .int .u32 (wz (rds s0 ws k).b)∧xc = .int .u32 (wz (rds s0 ws k).c)∧xd = .int .u32 (wz (rds s0 ws k).d)∧xe = .int .u32 (wz (rds s0 ws k).e)∧xf = .int .u32 (wz (rds s0 ws k).f)∧xg = .int .u32 (wz (rds s0 ws k).g)∧xh = .int .u32 (wz (rds s0 ws k).h)) (fun _ _ _ _ _ _ _ _ i _=>64 - (intOf i).toNat)
 case atStart =>
  refine ⟨0,Nat.zero_le _,rfl,rfl,?_⟩
  have e0:rds s0 ws 0=S8.ofL [h0,h1,h2,h3,h4,h5,h6,h7]:=uh H0
  rw[e0]
  exact ⟨rfl,rfl,rfl,rfl,rfl,rfl,rfl,rfl⟩
 case round =>
  obtain ⟨k,hk,rfl,rfl,rfl,rfl,rfl,rfl,rfl,rfl,rfl,rfl⟩:=hrel
  obtain ⟨s,hs⟩:∃ s,s=rds s0 ws k:=⟨_,rfl⟩
  rw[← hs]
  have HS:=hide hs
  clear hs
  by_cases hlt:k<64
  ·have hq0:(0:Int)≤(k:Int):=by omega
   have hq1:(k:Int)<64:=by omega
   obtain ⟨xk,hxk⟩:∃ xk,xk=ws.getD k 0:=⟨_,rfl⟩
   have hidx:=zhu 239 209 64 (ws.map wv) k (.int .u32 (wz xk)) Tryz.underlying239 zih zkg hlt (by
    have hl2:k<ws.length:=by rw[uh HWL];exact hlt
    rw[List.getElem?_map,List.getElem?_eq_getElem hl2,hxk,show ws.getD k 0=ws[k] by simp[List.getD,hl2]];rfl)
   obtain ⟨ck,hck⟩:∃ ck,ck=Ks.getD k 0:=⟨_,rfl⟩
   have hcc:=(uh HT2).cube_cell k hlt
   rw[← hck] at hcc
   obtain ⟨HX,HC⟩:=zh2 hxk hck
   clear hxk hck
   have hx:=zmo
   have ha:=zmp
   have ham:=zhb
   have hn:∀ x:W,bits .xor .u32 (if IntKind.u32.signed=true then -1 else IntKind.u32.max) (wz x)=wz (~~~x):=fun x=>zzm x
   have hnd:=zyv
   go_wp2_with (go_at_call 170;refine (zn3 _ _ _ ?_ ?_).mono ?_;(decide);(decide);rintro e w' ⟨rfl,rfl⟩)
   go_roundw
   case rel =>
    have er:rds s0 ws (k+1)=rnd s ck xk:=by
     show rnd (rds s0 ws k) (Ks.getD k 0) (ws.getD k 0)=_
     rw[← uh HS,← uh HC,← uh HX]
    refine ⟨k+1,by omega,by go_num,trivial,?_⟩
    rw[er]
    exact ⟨rfl,rfl,rfl,rfl,rfl,rfl,rfl,rfl⟩
   case measure=>simp[intOf];omega
  ·obtain rfl:k=64:=by omega
   have hi8:(Tryz.prog.info? 210).map (·.size)=some 8:=by kernel_rfl
   rw[show ((64:Nat):Int)=64 from rfl]
   go_wp2
   go_loopw [112] (fun i wr=>∃ k:Nat,k≤8∧i = .int .i64 k∧Blk wr w.heap.size 210 (((List.zipWith (· + ·) [h0,h1,h2,h3,h4,h5,h6,h7] s.toL).take k++[h0,h1,h2,h3,h4,h5,h6,h7].drop k).map wv)∧Blk wr (w.heap.size+1) 210 ((List.replicate 8 (0:W)).map wv)∧w.grownBy wr none) (fun i _=>8 - (intOf i).toNat)
   case atStart=>exact ⟨0,Nat.zero_le _,rfl,uh HB2,uh HR2,hg3⟩
   case round =>
    obtain ⟨k,hk,rfl,hB,hR,hg⟩:=hrel
    by_cases hlt:k<8
    ·have hq0:(0:Int)≤(k:Int):=by omega
     have hq1:(k:Int)<8:=by omega
     obtain ⟨hs,hhs⟩:∃ hs,hs=[h0,h1,h2,h3,h4,h5,h6,h7]:=⟨_,rfl⟩
     have hl8:hs.length=8:=by rw[hhs];rfl
     rw[← hhs] at hB
     obtain ⟨xk,hxk⟩:∃ xk,xk=s.toL.getD k 0:=⟨_,rfl⟩
     have hidx:=zhu 210 209 8 (s.toL.map wv) k (.int .u32 (wz xk)) Tryz.underlying210 zih zkg hlt (by
      have hl2:k<s.toL.length:=by rw[S8.toL_length];exact hlt
      rw[List.getElem?_map,List.getElem?_eq_getElem hl2,hxk,show s.toL.getD k 0=s.toL[k] by simp[List.getD,hl2]];rfl)
     have hidx2:∀ W,(Instr.index 210 (.agg #[.int .u32 (wz s.a),.int .u32 (wz s.b),.int .u32 (wz s.c),.int .u32 (wz s.d),.int .u32 (wz s.e),.int .u32 (wz s.f),.int .u32 (wz s.g),.int .u32 (wz s.h)]) (.int .i64 (k:Int))).run Tryz.prog W = .ok (.int .u32 (wz xk)) W:=hidx
     obtain ⟨yk,hyk⟩:∃ yk,yk=hs.getD k 0:=⟨_,rfl⟩
     have hcc:wr.cell? ⟨w.heap.size,k,none⟩=some (.int .u32 (wz yk)):=by
      have hkh:k<hs.length:=by omega
      have hll:((List.zipWith (· + ·) hs s.toL).take k).length=k:=by simp[S8.toL_length];omega
      rw[hB.cell,List.getElem?_map,List.getElem?_append_right (by omega),hll,Nat.sub_self,List.getElem?_drop,Nat.add_zero,List.getElem?_eq_getElem hkh,hyk,show hs.getD k 0=hs[k] by simp[List.getD,hkh]]
      rfl
     have hfz:=hB.fz k
     have ha:=zmp
     have ham:=zhb
     obtain ⟨HX,HY,HB,HHS,HL8,HR⟩:=zh6 hxk hyk hB hhs hl8 hR
     clear hxk hyk hB hhs hl8 hR hidx
     go_wp2
     go_roundw
     case rel =>
      rw[← uh HHS]
      have hS:=(uh HB).set k (wv (yk+xk))
      rw[zn2 hs s.toL k (by rw[uh HL8];exact hlt) (by rw[uh HL8];rfl) (yk+xk) (by rw[← uh HX,← uh HY])] at hS
      exact ⟨k+1,by omega,by go_num,hS,(uh HR).other _ _ (by simp),zad hg _ _ (Or.inl (Nat.le_refl _))⟩
     case measure=>simp[intOf];omega
    ·obtain rfl:k=8:=by omega
     rw[show ([h0,h1,h2,h3,h4,h5,h6,h7]:List W).drop 8=[] from rfl,List.append_nil,List.take_of_length_le (by simp;omega)] at hB
     have hcomp:List.zipWith (· + ·) [h0,h1,h2,h3,h4,h5,h6,h7] s.toL=comp [h0,h1,h2,h3,h4,h5,h6,h7] l:=by
      unfold comp
      rw[uh HS,uh HW,uh H0]
     rw[hcomp] at hB
     obtain ⟨cs,hcs⟩:∃ cs,cs=comp [h0,h1,h2,h3,h4,h5,h6,h7] l:=⟨_,rfl⟩
     rw[← hcs] at hB
     have hcl:cs.length=8:=by rw[hcs];exact zdq rfl _
     have hsz:((cs.map wv).toArray).size=8:=by simp[hcl]
     obtain ⟨HZ,HC⟩:=zh2 hsz hcs
     clear hsz hcs hcl hcomp
     go_wp2_with (first | (refine wpList_load_row rfl 210 _ rfl w.heap.size rfl _ _ _ _ hB Tryz.underlying210 rfl ?_ ?_;(rw[uh HZ];exact hi8)) | (refine wpList_store_row rfl 210 _ _ rfl (w.heap.size+1) _ rfl rfl _ _ hR ?_ ?_ ?_ ?_;(rw[uh HZ];exact hi8);(rw[uh HZ];rfl);(exact all_oneCell_toArray (zhc _))))
     have hS:=hR.row (cs.map wv)
     have hG:w.grownBy (wr.setRow (w.heap.size+1) (cs.map wv).toArray) none:=zam hg _ (Or.inl (by omega))
     refine bodyPost_ret (v := .agg (cs.map wv).toArray) (results_cell_row (g:=w.heap.size+1) rfl _ _ _ _ _ _ ?_ hS Tryz.underlying210 rfl ?_) rfl ⟨?_,hG⟩
     ·rfl
     ·rw[uh HZ];exact hi8
     ·rw[uh HC]
def hc (words:List W) (rest:List UInt8) (n:Nat):List Value:=words.map wv++(rest.map bv++[.int .u64 (n:Int)])
theorem zry (words:List W) (rest:List UInt8) (n:Nat) (h8:words.length=8) (h64:rest.length=64):(hc words rest n).length=73:=by simp[hc,h8,h64]
structure HAt (w:World) (b:Nat) (t:TypeId) (pre post:List Value) (words:List W) (rest l:List UInt8):Prop where
 blk:Blk w b t (pre++(hc words rest l.length++post))
 took:Took words rest l
theorem HAt.words {w:World} {b:Nat} {t:TypeId} {pre post:List Value} {words:List W} {rest l:List UInt8} (h:HAt w b t pre post words rest l):Blk w b t (pre++(words.map wv++(rest.map bv++(.int .u64 (l.length:Int)::post)))):=by
 have:=h.blk
 simpa[hc] using this
theorem HAt.rest {w:World} {b:Nat} {t:TypeId} {pre post:List Value} {words:List W} {rest l:List UInt8} (h:HAt w b t pre post words rest l):Blk w b t ((pre++words.map wv)++(rest.map bv++(.int .u64 (l.length:Int)::post))):=by
 have:=h.blk
 simpa[hc] using this
theorem HAt.size {w:World} {b:Nat} {t:TypeId} {pre post:List Value} {words:List W} {rest l:List UInt8} (h:HAt w b t pre post words rest l):w.cell? ⟨b,pre.length+72,none⟩=some (.int .u64 (l.length:Int)):=by
 have h1:Blk w b t ((pre++words.map wv++rest.map bv)++(.int .u64 (l.length:Int)::post)):=by
  have:=h.blk
  simpa[hc] using this
 rw[h1.cell,List.getElem?_append_right (by simp[h.took.w8,h.took.r64]),show pre.length+72 - (pre++words.map wv++rest.map bv).length=0 by simp[h.took.w8,h.took.r64]]
 rfl
theorem HAt.lt {w:World} {b:Nat} {t:TypeId} {pre post:List Value} {words:List W} {rest l:List UInt8} (h:HAt w b t pre post words rest l):b<w.heap.size:=h.blk.lt
theorem HAt.kept {w a:World} {b:Nat} {t:TypeId} {pre post:List Value} {words:List W} {rest l:List UInt8} {r:Option Nat} (h:HAt w b t pre post words rest l) (g:w.grownBy a r) (hr:some b≠r):HAt a b t pre post words rest l:=⟨h.blk.kept g hr,h.took⟩
theorem zrz (w:World) (b o n:Nat) (words:List W) (h8:words.length=8) (hr:w.rangeAt b o (words.map wv)) (hz:w.cell? ⟨b,o+72,none⟩=some (.int .u64 (n:Int))) (hT:Tabs w) :
  Calls Tryz.prog 151 #[.pointer (some ⟨b,o,none⟩)] w fun e w'=>e = .returned (.agg ((zha words n).map wv).toArray)∧w.grownBy w' none:=by
 have hi8:(Tryz.prog.info? 210).map (·.size)=some 8:=by kernel_rfl
 have hb:b<w.heap.size:=World.block_lt_of_cell? w _ hz
 obtain ⟨W1,hW1⟩:∃ W1,W1=w.alloc (.cells #[.int .u32 0,.int .u32 0,.int .u32 0,.int .u32 0,.int .u32 0,.int .u32 0,.int .u32 0,.int .u32 0] 210):=⟨_,rfl⟩
 have hR:Blk W1 w.heap.size 210 ((List.replicate 8 (0:W)).map wv):=by rw[hW1];exact Blk.new w _ _
 have hg:w.grownBy W1 none:=by rw[hW1];exact zah (zab _ _) _
 have hr1:=zaf hr hg (by simp)
 have hT1:=hT.kept0 hg
 obtain ⟨tq,fq,hq⟩:=hT1.square
 obtain ⟨HH,HT,HR,HR1,HB,HQ⟩:=zh6 h8 hT hr hr1 hR hq
 clear h8 hT hr hr1 hT1 hR hq
 by_cases hn:n<64
 ·have hn2:(n:Int)<64:=by omega
  go_enter Tryz.func151,Tryz.ntmps151
  go_wp2_with (first | (rw[← hW1];refine wpList_load_row rfl 210 _ rfl 2 rfl _ _ _ _ (uh HQ) Tryz.underlying210 rfl (by kernel_rfl) ?_) | (refine wpList_store_row rfl 210 _ _ rfl w.heap.size _ rfl rfl _ _ (uh HB) (by kernel_rfl) (by kernel_rfl) (by kernel_rfl) ?_))
  have hS:=(uh HB).row (Hs.map wv)
  have hG:w.grownBy (W1.setRow w.heap.size (Hs.map wv).toArray) none:=zam hg _ (Or.inl (Nat.le_refl _))
  refine bodyPost_ret (v := .agg (Hs.map wv).toArray) (results_cell_row (g:=w.heap.size) rfl _ _ _ _ _ _ ?_ hS Tryz.underlying210 rfl (by kernel_rfl)) rfl ⟨?_,hG⟩
  ·rfl
  ·rw[zha,if_pos hn]
 ·have hn2:¬ (n:Int)<64:=by omega
  have hsz:((words.map wv).toArray).size=8:=by simp[uh HH]
  have hlz:(words.map wv).length=8:=by simp[uh HH]
  obtain ⟨HZ,HLZ⟩:=zh2 hsz hlz
  clear hsz hlz
  go_enter Tryz.func151,Tryz.ntmps151
  go_wp2_with (first | (rw[← hW1];refine wpList_load_mid rfl 210 _ rfl b o rfl _ _ (uh HR1) Tryz.underlying210 rfl ?_ ?_;(rw[uh HLZ];exact hi8)) | (refine wpList_store_row rfl 210 _ _ rfl w.heap.size _ rfl rfl _ _ (uh HB) ?_ ?_ ?_ ?_;(rw[uh HZ];exact hi8);(rw[uh HZ];rfl);(exact all_oneCell_toArray (zhc _))))
  have hS:=(uh HB).row (words.map wv)
  have hG:w.grownBy (W1.setRow w.heap.size (words.map wv).toArray) none:=zam hg _ (Or.inl (Nat.le_refl _))
  subst hW1
  refine bodyPost_ret (v := .agg (words.map wv).toArray) (results_cell_row (g:=w.heap.size) rfl _ _ _ _ _ _ ?_ hS Tryz.underlying210 rfl ?_) rfl ⟨?_,hG⟩
  ·rfl
  ·rw[uh HZ];exact hi8
  ·rw[zha,if_neg hn]
theorem zyy (v m k:Nat) (h:k<(be8 m v).length):Value.int .u8 ((v:Int) / 2 ^ (8*(m - 1 - k)) % 256)=bv (be8 m v)[k]:=by
 unfold bv
 rw[zmj,UInt8.toNat_ofNat']
 congr 1
set_option maxHeartbeats 400000 in
theorem zmq (w:World) (b p m c v:Nat) (hm:m≤8) (ht:w.there b p m) :
  Calls Tryz.prog 153 #[.slice (some ⟨b,p,none⟩) m c,.int .u64 (v:Int)] w fun e w'=>e = .returned (.tuple #[])∧w'=w.setCells b p ((be8 m v).map bv):=by
 go_enter Tryz.func153,Tryz.ntmps153
 go_wp2
 go_loopw [7] (fun i wr=>∃ k:Nat,k≤m∧i = .int .i64 k∧wr=w.setCells b p (((be8 m v).take k).map bv)) (fun i _=>m - (intOf i).toNat)
 case atStart=>exact ⟨0,Nat.zero_le _,rfl,rfl⟩
 case round =>
  obtain ⟨k,hk,rfl,rfl⟩:=hrel
  by_cases hlt:k<m
  ·have hlen:(be8 m v).length=m:=zb5 m v
   have hbk:k<(be8 m v).length:=by omega
   obtain ⟨wq,hwq⟩:∃ wq,wq=w.setCells b p (((be8 m v).take k).map bv):=⟨_,rfl⟩
   rw[← hwq]
   have hth:=World.there_setCells ht b p (((be8 m v).take k).map bv) k hlt
   rw[← hwq] at hth
   obtain ⟨hcs,hcf⟩:=hth
   obtain ⟨ov,hcs⟩:=Option.isSome_iff_exists.1 hcs
   obtain ⟨HW,HL⟩:=zh2 hwq hlen
   clear hwq hlen
   go_wp2
   go_roundw
   case rel =>
    refine ⟨k+1,by omega,by go_num,?_⟩
    rw[zyy v m k hbk,uh HW]
    have hl2:(((be8 m v).take k).map bv).length=k:=by simp[uh HL];omega
    have:=zfy b (bv (be8 m v)[k]) (((be8 m v).take k).map bv) p w
    rw[hl2] at this
    rw[this,zd4 hbk,List.map_append]
    rfl
   case measure=>simp[intOf];omega
  ·obtain rfl:k=m:=by omega
   go_wp2
   go_end0
   rw[List.take_of_length_le (by simp[zb5])]
   exact ⟨rfl,rfl⟩
def lenS:Value→Nat
 | .slice _ n _=>n
 | _=>0
theorem Blk.sized {w:World} {b:Nat} {t:TypeId} {pre post:List Value} {words:List W} {rest:List UInt8} {n:Nat} (h:Blk w b t (pre++(hc words rest n++post))) (h8:words.length=8) (h64:rest.length=64) (k:Nat) :
  Blk (w.setCell ⟨b,pre.length+72,none⟩ (.int .u64 (k:Int))) b t (pre++(hc words rest k++post)):=by
 have h1:Blk w b t ((pre++words.map wv++rest.map bv)++(.int .u64 (n:Int)::post)):=by simpa[hc,List.append_assoc] using h
 have h2:(pre++words.map wv++rest.map bv).length=pre.length+72:=by simp[h8,h64]
 have h3:=h1.set (pre.length+72) (.int .u64 (k:Int))
 rw[List.set_append_right _ _ (by omega),h2,Nat.sub_self,List.set_cons_zero] at h3
 simpa[hc,List.append_assoc] using h3
theorem Blk.worded {w:World} {b:Nat} {t:TypeId} {pre post:List Value} {words words' : List W} {rest:List UInt8} {n:Nat} (h:Blk w b t (pre++(hc words rest n++post))) (hl:words.length=words'.length) :
  Blk (w.setCells b pre.length (words'.map wv)) b t (pre++(hc words' rest n++post)):=by
 have h1:Blk w b t (pre++(words.map wv++(rest.map bv++(.int .u64 (n:Int)::post)))):=by simpa[hc,List.append_assoc] using h
 have h2:=Blk.setCells (words'.map wv) _ h1 (by simp[hl])
 simpa[hc,List.append_assoc] using h2
theorem Blk.sizeAt {w:World} {b:Nat} {t:TypeId} {pre post:List Value} {words:List W} {rest:List UInt8} {n:Nat} (h:Blk w b t (pre++(hc words rest n++post))) (h8:words.length=8) (h64:rest.length=64) :
  w.cell? ⟨b,pre.length+72,none⟩=some (.int .u64 (n:Int)):=by
 have h1:Blk w b t ((pre++words.map wv++rest.map bv)++(.int .u64 (n:Int)::post)):=by simpa[hc,List.append_assoc] using h
 have h2:(pre++words.map wv++rest.map bv).length=pre.length+72:=by simp[h8,h64]
 rw[h1.cell,List.getElem?_append_right (by omega),h2,Nat.sub_self];rfl
set_option maxHeartbeats 1000000 in
theorem zii (w:World) (b:Nat) (t:TypeId) (pre post:List Value) (words:List W) (rest l:List UInt8) (hH:HAt w b t pre post words rest l) (hT:Tabs w) (hG:Glb b)
  (ao:Option Addr) (c:Nat) (x:List UInt8) (hx:Bts w ao c x) (hoff:0<x.length→Off ao b) (hlen:l.length+x.length<1152921504606846976) :
  Calls Tryz.prog 122 #[.pointer (some ⟨b,pre.length,none⟩),.slice ao x.length c] w fun e w'=>e = .returned (.tuple #[])∧(∃ words' rest',HAt w' b t pre post words' rest' (l++x))∧w.grownBy w' (some b):=by
 go_enter Tryz.func122,Tryz.ntmps122
 go_wp2
 go_loopw [1] (fun sv wr=>∃ (done left:List UInt8) (ao:Option Addr) (c:Nat) (words:List W) (rest:List UInt8),x=done++left∧sv = .slice ao left.length c∧Bts wr ao c left∧(0<left.length→Off ao b)∧HAt wr b t pre post words rest (l++done)∧w.grownBy wr (some b)) (fun sv _=>lenS sv)
 case atStart=>exact ⟨[],x,ao,c,words,rest,rfl,rfl,hx,hoff,by simpa using hH,zab _ _⟩
 case round =>
  clear hx hoff hH
  obtain ⟨done,left,ao,c,words,rest,hd,rfl,hx,hoff,hH,hg⟩:=hrel
  obtain ⟨o,ho⟩:∃ o,o=pre.length:=⟨_,rfl⟩
  rw[← ho]
  by_cases hlt:0<left.length
  ·have hoff:=hoff hlt
   have hz:=hH.size
   obtain ⟨n,hn⟩:∃ n,n=(l++done).length:=⟨_,rfl⟩
   have hnl:n+left.length<1152921504606846976:=by
    rw[hn,List.length_append]
    rw[hd,List.length_append] at hlen
    omega
   rw[← hn,← ho] at hz
   obtain ⟨at',hat⟩:∃ at',at'=n % 64:=⟨_,rfl⟩
   have hat1:at'<64:=by omega
   obtain ⟨ad,rfl⟩:∃ ad,ao=some ad:=by
    cases ao with
    | none=>have:=hx.zip rfl;omega
    | some ad=>exact ⟨ad,rfl⟩
   obtain ⟨m,hm⟩:∃ m,m=min left.length (64 - at'):=⟨_,rfl⟩
   have hm0:0<m:=by omega
   have hm1:m≤left.length:=by omega
   have hm2:at'+m≤64:=by omega
   have hm3:at'+m<64→m=left.length:=by omega
   have hsl:=zi7 211 5 64 Tryz.underlying211 zbf b (o+8) at' (at' : Int) rfl hat1
   have hnm:(n:Int) % 64=(at' : Int):=by omega
   have hT1:Tabs wr:=hT.kept hg (fun y e=>by cases e;exact hG)
   obtain ⟨cs,hcs⟩:∃ cs,cs=left.take m:=⟨_,rfl⟩
   have hcl:cs.length=m:=by rw[hcs,List.length_take];omega
   have hrb:=hH.rest
   have hol:(pre++words.map wv).length=o+8:=by rw[List.length_append,List.length_map,hH.took.w8,ho]
   have hr64:=hH.took.r64
   have hw8:=hH.took.w8
   have hsplit:rest.map bv=(rest.take at').map bv++(((rest.drop at').take m).map bv++(rest.drop (at'+m)).map bv):=by
    rw[← List.map_append,← List.map_append,← List.drop_drop,List.take_append_drop,List.take_append_drop]
   have hblk:Blk wr b t ((pre++words.map wv++(rest.take at').map bv)++(((rest.drop at').take m).map bv++((rest.drop (at'+m)).map bv++(.int .u64 (n:Int)::post)))):=by
    rw[hsplit,← hn] at hrb
    simpa[List.append_assoc] using hrb
   have hal:(pre++words.map wv++(rest.take at').map bv).length=o+8+at':=by
    rw[List.length_append,hol,List.length_map,List.length_take];omega
   have hvl:(((rest.drop at').take m).map bv).length=m:=by rw[List.length_map,List.length_take,List.length_drop];omega
   have hth:=hblk.thereIn
   rw[hal,hvl] at hth
   have hcp:(Builtin.copy_ #[37,37] 3 #[.slice (some ⟨b,o+8+at',none⟩) (64 - at') (64 - at'),.slice (some ad) left.length c]).run Tryz.prog wr = .ok (goInt (cs.map bv).length) (wr.setCells b (o+8+at') (cs.map bv)) :=
    run_copy_cells wr _ _ _ 5 b (o+8+at') _ _ ad _ _ (cs.map bv) Tryz.underlying37 (by kernel_rfl) (by rw[List.length_map,hcl,hm]) (by rw[hcs];exact (hx.take m hm1).news ad rfl) (fun j hj=>(hth j (by rw[List.length_map,hcl] at hj;exact hj)).1) (fun j hj=>(hth j (by rw[List.length_map,hcl] at hj;exact hj)).2) (za6 _)
   rw[List.length_map,hcl] at hcp
   obtain ⟨W1,hW1⟩:∃ W1,W1=wr.setCells b (o+8+at') (cs.map bv):=⟨_,rfl⟩
   rw[← hW1] at hcp
   have hg1:w.grownBy W1 (some b):=by rw[hW1];exact zbi (Or.inr rfl) _ _ hg
   have hg0:wr.grownBy W1 (some b):=by rw[hW1];exact zbi (Or.inr rfl) _ _ (zab _ _)
   have hB1:Blk W1 b t (pre++(hc words (zbo rest at' cs) n++post)):=by
    have:=Blk.setCells (cs.map bv) _ hblk (by rw[hvl,List.length_map,hcl])
    rw[hal,← hW1] at this
    simpa[hc,zbo,hcl,List.append_assoc] using this
   have hx1:Bts W1 (some ad) c left:=hx.kept hg0 (fun y e=>by cases e;exact hoff)
   have hfrom:=fun W=>zgo (P:=Tryz.prog) W 37 5 Tryz.underlying37 zbf (some ad) left.length c m hm1
   have hT2:Tabs W1:=hT1.kept hg0 (fun y e=>by cases e;exact hG)
   have hsz1:W1.cell? ⟨b,o+72,none⟩=some (.int .u64 (n:Int)):=by
    have h1:Blk W1 b t ((pre++words.map wv++(zbo rest at' cs).map bv)++(.int .u64 (n:Int)::post)):=by simpa[hc,List.append_assoc] using hB1
    have h2:(pre++words.map wv++(zbo rest at' cs).map bv).length=o+72:=by
     rw[List.length_append,hol,List.length_map,zct _ _ _ (by omega)];omega
    rw[h1.cell,List.getElem?_append_right (by omega),h2,Nat.sub_self];rfl
   have hfz1:=hB1.fz (o+72)
   have hadd:IntKind.u64.wrap ((n:Int)+(m:Int))=((n+m:Nat):Int):=by rw[IntKind.wrap_u64];omega
   obtain ⟨HD,HX,HH,HO,HN,HA⟩:=zh6 hd hx1 hH ho hn hat
   obtain ⟨HM,HCS,HCL,HB,HT,HW8⟩:=zh6 hm hcs hcl hB1 hT2 hw8
   obtain ⟨HR64,HOL⟩:=zh2 hr64 hol
   clear hd hx hx1 hH ho hn hat hlen hm hcs hcl hB1 hT2 hT1 hT hblk hsplit hal hvl hth hrb hW1 hg0 hw8 hr64 hol
   have hl0:(0:Int)<(left.length:Int):=by omega
   have hsl64:(zbo rest at' cs).length=64:=by
    rw[zct _ _ _ (by rw[uh HR64,uh HCL];omega),uh HR64]
   have HS64:=hide hsl64
   clear hsl64
   have hfin:∀ (V:World) (words' : List W),Blk V b t (pre++(hc words' (zbo rest at' cs) n++post))→Took words' (zbo rest at' cs) (l++(done++cs))→W1.grownBy V (some b)→∀ z:Int,z=((n+m:Nat):Int) →
     ∃ (done' left' : List UInt8) (ao' : Option Addr) (c' : Nat) (words:List W) (rest:List UInt8),x=done'++left'∧Value.slice (cutA (some ad) c m) (left.length - m) (c - m) = .slice ao' left'.length c'∧Bts (V.setCell ⟨b,o+72,none⟩ (.int .u64 z)) ao' c' left'∧(0<left'.length→Off ao' b)∧HAt (V.setCell ⟨b,o+72,none⟩ (.int .u64 z)) b t pre post words rest (l++done')∧w.grownBy (V.setCell ⟨b,o+72,none⟩ (.int .u64 z)) (some b):=by
    intro V words' hBW htk hgW z hzz
    subst hzz
    refine ⟨done++cs,left.drop m,cutA (some ad) c m,c - m,words',zbo rest at' cs,?_,?_,?_,fun _=>zfv hoff,⟨?_,htk⟩,?_⟩
    ·rw[uh HD,uh HCS,List.append_assoc,List.take_append_drop]
    ·rw[List.length_drop]
    ·exact (((uh HX).drop m hm1).kept hgW (fun y e=>by cases e;exact zfv hoff)).kept (zcp V b (o+72) _) (fun y e=>by cases e;exact zfv hoff)
    ·have:=hBW.sized htk.w8 (uh HS64) (n+m)
     rw[← uh HO,show n+m=(l++(done++cs)).length by rw[← List.append_assoc,List.length_append,uh HCL,uh HN]] at this
     rw[show n+m=(l++(done++cs)).length by rw[← List.append_assoc,List.length_append,uh HCL,uh HN]]
     exact this
    ·exact zad (zae hg1 hgW (fun y e=>by cases e;exact Or.inr rfl)) _ _ (Or.inr rfl)
   by_cases hful:at'+m=64
   ·have hf1:(at' : Int)+(m:Int)=64:=by omega
    obtain ⟨sf,hsf⟩:∃ sf,sf=zha words n:=⟨_,rfl⟩
    have hsl8:sf.length=8:=by rw[hsf,uh HN];exact (uh HH).took.soFar_length
    obtain ⟨cw,hcw⟩:∃ cw,cw=comp sf (zbo rest at' cs):=⟨_,rfl⟩
    have hcw8:cw.length=8:=by rw[hcw];exact zdq hsl8 _
    have hso:∀ W,W1.grownBy W none→Calls Tryz.prog 151 #[.pointer (some ⟨b,o,none⟩)] W fun e w'=>e = .returned (.agg (sf.map wv).toArray)∧W.grownBy w' none:=by
     intro W gW
     have hBW:=(uh HB).kept gW (by simp)
     have h1:Blk W b t (pre++(words.map wv++((zbo rest at' cs).map bv++(.int .u64 (n:Int)::post)))):=by simpa[hc,List.append_assoc] using hBW
     have h2:=h1.range
     rw[← uh HO] at h2
     rw[hsf]
     exact zrz W b o n words (uh HW8) h2 (gW.cell hsz1 (by simp)) ((uh HT).kept0 gW)
    have htk:∀ W,W1.grownBy W none→Calls Tryz.prog 150 #[.agg (sf.map wv).toArray,.pointer (some ⟨b,o+8,none⟩)] W fun e w'=>e = .returned (.agg (cw.map wv).toArray)∧W.grownBy w' none:=by
     intro W gW
     have hBW:=(uh HB).kept gW (by simp)
     have h1:Blk W b t ((pre++words.map wv)++((zbo rest at' cs).map bv++(.int .u64 (n:Int)::post))):=by simpa[hc,List.append_assoc] using hBW
     have h2:=h1.range
     rw[uh HOL] at h2
     rw[hcw]
     exact zrx W b (o+8) (zbo rest at' cs) sf hsl8 (uh HS64) h2 ((uh HT).kept0 gW)
    have hst:∀ V:World,W1.grownBy V none→(storeCells ⟨b,o,none⟩ (cw.map wv)).run Tryz.prog V = .ok () (V.setCells b o (cw.map wv)):=by
     intro V gW
     have hBW:=(uh HB).kept gW (by simp)
     have h1:Blk V b t (pre++(words.map wv++((zbo rest at' cs).map bv++(.int .u64 (n:Int)::post)))):=by simpa[hc,List.append_assoc] using hBW
     have h2:=h1.thereIn
     rw[← uh HO,List.length_map,uh HW8] at h2
     exact run_storeCells_cells (P:=Tryz.prog) b o (cw.map wv) 0 V (fun j hj=>(h2 j (by rw[List.length_map,hcw8] at hj;exact hj)).1) (fun j hj=>(h2 j (by rw[List.length_map,hcw8] at hj;exact hj)).2) (zhc _)
    have hBW:∀ W,W1.grownBy W none→Blk (W.setCells b o (cw.map wv)) b t (pre++(hc cw (zbo rest at' cs) n++post)):=by
     intro W gW
     have hBW:=(uh HB).kept gW (by simp)
     have:=Blk.worded (words':=cw) hBW (by rw[uh HW8,hcw8])
     rw[← uh HO] at this
     exact this
    have hsz2:∀ W,W1.grownBy W none→(W.setCells b o (cw.map wv)).cell? ⟨b,o+72,none⟩=some (.int .u64 (n:Int)):=by
     intro W gW
     have:=(hBW W gW).sizeAt hcw8 (uh HS64)
     rw[← uh HO] at this
     exact this
    have hfz2:∀ W,W1.grownBy W none→(W.setCells b o (cw.map wv)).frozen? ⟨b,o+72,none⟩=false:=fun W gW=>(hBW W gW).fz _
    have hgr:=zab W1 none
    have htook:Took cw (zbo rest at' cs) (l++(done++cs)):=by
     have:=(uh HH).took.full cs (by rw[← uh HN,← uh HA,uh HCL];exact hful)
     rw[← uh HN,← uh HA,← hsf,← hcw,List.append_assoc] at this
     exact this
    obtain ⟨HTK,HF,HBW,HCW,HSF,HC8⟩:=zh6 htook hfin hBW hcw hsf hcw8
    have HS8:=hide hsl8
    clear htook hfin hBW hcw hsf hcw8 hsl8
    go_wp2
    go_region_with (first
     | (go_at_call 151;refine (hso _ ?_).mono ?_;(exact zak (zab _ _));rintro e w2 ⟨rfl,g2⟩;have G2:W1.grownBy w2 none:=zae (zak (zab _ _)) g2 (fun _ e=>by cases e))
     | (go_at_call 150;refine (htk _ ?_).mono ?_;(first | assumption | exact zak (by assumption));rintro e w3 ⟨rfl,g3⟩;have G3:W1.grownBy w3 none:=zae G2 g3 (fun _ e=>by cases e)))
    have hs3:=hsz2 w3 G3
    have hf3:=hfz2 w3 G3
    clear hso htk hst hsz2 hfz2
    go_wp2
    go_roundw
    case rel=>exact uh HF (w3.setCells b o (cw.map wv)) cw (uh HBW w3 G3) (uh HTK) (zbi (Or.inr rfl) _ _ (zaw _ G3)) _ (by omega)
    case measure=>simp[lenS];omega
   ·have hf1:((at' : Int)+(m:Int) == 64)=false:=by simp;omega
    have HF:=hide hfin
    clear hfin
    go_wp2
    go_roundw
    case rel =>
     exact uh HF W1 words (uh HB) (by
      have:=(uh HH).took.less cs (by rw[← uh HN,← uh HA,uh HCL];omega)
      rw[← uh HN,← uh HA,List.append_assoc] at this
      exact this) (zab _ _) _ (by omega)
    case measure=>simp[lenS];omega
  ·obtain rfl:left=[]:=List.length_eq_zero_iff.1 (by omega)
   rw[List.append_nil] at hd
   subst hd
   go_wp2
   go_end0
   exact ⟨rfl,⟨words,rest,hH⟩,hg⟩
theorem zij (w:World) (b p m c v:Nat) (z:Int) (hz:z=(v:Int)) (hm:m≤8) (ht:w.there b p m) :
  Calls Tryz.prog 153 #[.slice (some ⟨b,p,none⟩) m c,.int .u64 z] w fun e w'=>e = .returned (.tuple #[])∧w'=w.setCells b p ((be8 m v).map bv):=by
 subst hz
 exact zmq w b p m c v hm ht
theorem zhd {P:Program} (t e:TypeId) (n:Nat) (ht:P.underlying t=some (.array n e)) (hz:∀ w,(Go.sizeOf e).run P w = .ok 1 w) (b o hi:Nat) (zh:Int) (hh:zh=(hi:Int)) (h2:hi≤n) (h3:0<n) (W:World) :
  (Instr.sliceAt t (.pointer (some ⟨b,o,none⟩)) none (some (.int .i64 zh)) none).run P W = .ok (.slice (some ⟨b,o,none⟩) hi n) W:=by
 subst hh
 have ea:P.arrayLen t=n:=by simp[Program.arrayLen,ht]
 have ee:P.elem t=e:=by simp[Program.elem,ht]
 rw[run_sliceAt_array_h W t ⟨b,o,none⟩ (by rw[ea,ee];exact ht) .i64 _ (by omega) (by omega),ea,ee,hz]
 simp only[Result.andThen_ok,slicedAt,Int.toNat_natCast,Nat.zero_mul,Nat.sub_zero]
 rw[if_neg (by omega),Addr.add_mid]
 rfl
theorem zr0 {w:World} {b:Nat} {t:TypeId} {A C:List Value} {l:List UInt8} (h:Blk w b t (A++(l.map bv++C))) (c:Nat) (hc:l.length≤c) (hm:c≤maxLen):Bts w (some ⟨b,A.length,none⟩) c l:=by
 refine ⟨(fun e=>by cases e),hc,hm,(fun ad e _=>by cases e;rfl),(fun ad e i hi => ?_)⟩
 cases e
 exact h.range i (bv l[i]) (by simp[hi])
theorem zr1 (w:World):(zeroValue 253).run Tryz.prog w = .ok (.agg (Array.replicate 72 (.int .u8 0))) w:=by kernel_rfl
theorem zjn (z m:Nat) (hz:z+9=m) (hm:m≤72):(128::List.replicate 71 (0:UInt8)).map bv=(128::List.replicate z (0:UInt8)).map bv++((List.replicate 8 (0:UInt8)).map bv++(List.replicate (72 - m) (0:UInt8)).map bv):=by
 rw[← List.map_append,← List.map_append]
 congr 1
 rw[List.replicate_append_replicate,List.cons_append,List.replicate_append_replicate]
 congr 2
 omega
set_option maxHeartbeats 1000000 in
theorem zxm (w:World) (b:Nat) (t:TypeId) (pre post:List Value) (words:List W) (rest l:List UInt8) (hH:HAt w b t pre post words rest l) (hT:Tabs w) (hG:Glb b) (hlen:l.length<576460752303423488) :
  Calls Tryz.prog 152 #[.pointer (some ⟨b,pre.length,none⟩)] w fun e w'=>e = .returned (.tuple #[])∧(∃ words' rest',HAt w' b t pre post words' rest' (padL l))∧w.grownBy w' (some b):=by
 obtain ⟨o,ho⟩:∃ o,o=pre.length:=⟨_,rfl⟩
 obtain ⟨n,hn⟩:∃ n,n=l.length:=⟨_,rfl⟩
 obtain ⟨f,hf⟩:∃ f,f=n % 64:=⟨_,rfl⟩
 have hz:=hH.size
 rw[← ho,← hn] at hz
 rw[← hn] at hlen
 have hb:=hH.lt
 have hf64:f<64:=by omega
 have hnm:(n:Int) % 64=(f:Int):=by omega
 obtain ⟨Z,hZ⟩:∃ Z:Array Value,Z=Array.replicate 72 (.int .u8 0):=⟨_,rfl⟩
 have hzv:=zr1
 rw[← hZ] at hzv
 have hZ0:Z[0]? = some (.int .u8 0):=by rw[hZ];rfl
 have hZs:Z.size=72:=by rw[hZ];simp
 obtain ⟨HZ,HH,HT,HO,HN,HF⟩:=zh6 hZ hH hT ho hn hf
 clear hZ hH hT hn hf
 rw[← ho]
 clear ho
 go_enter Tryz.func152,Tryz.ntmps152
 go_wp2
 ·obtain ⟨m,hm⟩:∃ m:Nat,m=zb6 n+9:=⟨_,rfl⟩
  have hfn:=uh HF
  have hme:(64 - (f:Int)+64:Int)=(m:Int):=by rw[hm];unfold zb6;omega
  have hm9:9≤m:=by omega
  have hm72:m≤72:=by rw[hm];unfold zb6;omega
  rw[hme]
  obtain ⟨W1,hW1⟩:∃ W1,W1=w.alloc (.cells (Z.setIfInBounds 0 (.int .u8 128)) 253):=⟨_,rfl⟩
  rw[← hW1]
  have hB0:Blk W1 w.heap.size 253 ((128::List.replicate 71 (0:UInt8)).map bv):=by
   have:Z.setIfInBounds 0 (.int .u8 128)=((128::List.replicate 71 (0:UInt8)).map bv).toArray:=by rw[uh HZ];rfl
   rw[hW1,this]
   exact Blk.new w _ _
  rw[zjn (zb6 n) m hm.symm hm72] at hB0
  have hg1:w.grownBy W1 none:=by rw[hW1];exact zah (zab _ _) _
  have hz1:W1.cell? ⟨b,o+72,none⟩=some (.int .u64 (n:Int)):=hg1.cell hz (by simp)
  have hsl:=zfx 253 5 72 Tryz.underlying253 zbf w.heap.size 0 (m - 8) m (IntKind.i64.wrap ((m:Int) - 8)) (m:Int) (by rw[IntKind.wrap_i64];omega) rfl (by omega) (by omega) (by omega)
  rw[show m - (m - 8)=8 by omega,Nat.zero_add] at hsl
  have hto:=zhd 253 5 72 Tryz.underlying253 zbf w.heap.size 0 m (m:Int) rfl (by omega) (by omega)
  have hal:((128::List.replicate (zb6 n) (0:UInt8)).map bv).length=m - 8:=by simp;omega
  have hth:=hB0.thereIn
  rw[hal,List.length_map,List.length_replicate] at hth
  have hthd:W1.drew.there w.heap.size (m - 8) 8:=by simpa using hth
  obtain ⟨HB0,HAL,HM,HW1⟩:=zh4 hB0 hal hm hW1
  clear hB0 hal hm hme hW1 hfn
  go_region_with (first | (go_at_call 153;refine (zij _ w.heap.size (m - 8) 8 _ (n*8) _ ?_ ?_ ?_).mono ?_;(first | omega | (rw[IntKind.wrap_u64];omega));(omega);(first | exact hthd | exact hth);rintro e w2 ⟨rfl,rfl⟩))
  obtain ⟨W2,hW2⟩:∃ W2,W2=W1.drew.setCells w.heap.size (m - 8) ((be8 8 (n*8)).map bv):=⟨_,rfl⟩
  rw[← hW2]
  have hB2:Blk W2 w.heap.size 253 ([]++((zhg n).map bv++(List.replicate (72 - m) (0:UInt8)).map bv)):=by
   have:=Blk.setCells ((be8 8 (n*8)).map bv) _ ((uh HB0).drew) (by simp[zb5])
   rw[uh HAL,← hW2] at this
   simpa[zhg,List.append_assoc] using this
  have hg2:w.grownBy W2 none:=by
   rw[hW2];exact zbi (Or.inl (Nat.le_refl _)) _ _ (zak hg1)
  have htl:(zhg n).length=m:=by rw[ze0,uh HM]
  have hbt:=zr0 hB2 72 (by omega) (by unfold maxLen;omega)
  have hH2:=(uh HH).kept hg2 (by simp)
  have hwr:=zii W2 b t pre post words rest l hH2 ((uh HT).kept0 hg2) hG _ 72 (zhg n) hbt (by intro _ ad e;cases e;simp;omega) (by rw[← uh HN];omega)
  rw[htl,← uh HO,show ([]:List Value).length=0 from rfl] at hwr
  have HT2:=hide htl
  clear hB2 hbt hH2 htl hW2
  go_wp2_with (go_at_call 122;refine hwr.mono ?_;rintro e w3 ⟨rfl,⟨wo,re,hH3⟩,g3⟩)
  go_end0
  rw[uh HN] at hH3
  exact ⟨rfl,⟨wo,re,hH3⟩,zae (zaw _ hg2) g3 (fun y e=>by cases e;exact Or.inr rfl)⟩
 ·obtain ⟨m,hm⟩:∃ m:Nat,m=zb6 n+9:=⟨_,rfl⟩
  have hfn:=uh HF
  have hme:(64 - (f:Int):Int)=(m:Int):=by rw[hm];unfold zb6;omega
  have hm9:9≤m:=by omega
  have hm72:m≤72:=by rw[hm];unfold zb6;omega
  rw[hme]
  obtain ⟨W1,hW1⟩:∃ W1,W1=w.alloc (.cells (Z.setIfInBounds 0 (.int .u8 128)) 253):=⟨_,rfl⟩
  rw[← hW1]
  have hB0:Blk W1 w.heap.size 253 ((128::List.replicate 71 (0:UInt8)).map bv):=by
   have:Z.setIfInBounds 0 (.int .u8 128)=((128::List.replicate 71 (0:UInt8)).map bv).toArray:=by rw[uh HZ];rfl
   rw[hW1,this]
   exact Blk.new w _ _
  rw[zjn (zb6 n) m hm.symm hm72] at hB0
  have hg1:w.grownBy W1 none:=by rw[hW1];exact zah (zab _ _) _
  have hz1:W1.cell? ⟨b,o+72,none⟩=some (.int .u64 (n:Int)):=hg1.cell hz (by simp)
  have hsl:=zfx 253 5 72 Tryz.underlying253 zbf w.heap.size 0 (m - 8) m (IntKind.i64.wrap ((m:Int) - 8)) (m:Int) (by rw[IntKind.wrap_i64];omega) rfl (by omega) (by omega) (by omega)
  rw[show m - (m - 8)=8 by omega,Nat.zero_add] at hsl
  have hto:=zhd 253 5 72 Tryz.underlying253 zbf w.heap.size 0 m (m:Int) rfl (by omega) (by omega)
  have hal:((128::List.replicate (zb6 n) (0:UInt8)).map bv).length=m - 8:=by simp;omega
  have hth:=hB0.thereIn
  rw[hal,List.length_map,List.length_replicate] at hth
  have hthd:W1.drew.there w.heap.size (m - 8) 8:=by simpa using hth
  obtain ⟨HB0,HAL,HM,HW1⟩:=zh4 hB0 hal hm hW1
  clear hB0 hal hm hme hW1 hfn
  go_region_with (first | (go_at_call 153;refine (zij _ w.heap.size (m - 8) 8 _ (n*8) _ ?_ ?_ ?_).mono ?_;(first | omega | (rw[IntKind.wrap_u64];omega));(omega);(first | exact hthd | exact hth);rintro e w2 ⟨rfl,rfl⟩))
  obtain ⟨W2,hW2⟩:∃ W2,W2=W1.drew.setCells w.heap.size (m - 8) ((be8 8 (n*8)).map bv):=⟨_,rfl⟩
  rw[← hW2]
  have hB2:Blk W2 w.heap.size 253 ([]++((zhg n).map bv++(List.replicate (72 - m) (0:UInt8)).map bv)):=by
   have:=Blk.setCells ((be8 8 (n*8)).map bv) _ ((uh HB0).drew) (by simp[zb5])
   rw[uh HAL,← hW2] at this
   simpa[zhg,List.append_assoc] using this
  have hg2:w.grownBy W2 none:=by
   rw[hW2];exact zbi (Or.inl (Nat.le_refl _)) _ _ (zak hg1)
  have htl:(zhg n).length=m:=by rw[ze0,uh HM]
  have hbt:=zr0 hB2 72 (by omega) (by unfold maxLen;omega)
  have hH2:=(uh HH).kept hg2 (by simp)
  have hwr:=zii W2 b t pre post words rest l hH2 ((uh HT).kept0 hg2) hG _ 72 (zhg n) hbt (by intro _ ad e;cases e;simp;omega) (by rw[← uh HN];omega)
  rw[htl,← uh HO,show ([]:List Value).length=0 from rfl] at hwr
  have HT2:=hide htl
  clear hB2 hbt hH2 htl hW2
  go_wp2_with (go_at_call 122;refine hwr.mono ?_;rintro e w3 ⟨rfl,⟨wo,re,hH3⟩,g3⟩)
  go_end0
  rw[uh HN] at hH3
  exact ⟨rfl,⟨wo,re,hH3⟩,zae (zaw _ hg2) g3 (fun y e=>by cases e;exact Or.inr rfl)⟩
theorem zlj (w:World):(zeroValue 213).run Tryz.prog w = .ok (.agg (hc (List.replicate 8 0) (List.replicate 64 0) 0).toArray) w:=by kernel_rfl
theorem zwx (x:W):wz x=((x.toNat:Nat):Int):=rfl
theorem zr2 (x:W):IntKind.u64.wrap (wz x)=((x.toNat:Nat):Int):=by
 have:=zzk x
 have:=zzl x
 rw[IntKind.wrap_u64,← zwx];omega
theorem zhe (ws:List W) (k:Nat) (h:k<ws.length):(bytesOf ws).take (4*(k+1))=(bytesOf ws).take (4*k)++be8 4 (ws[k].toNat):=by
 induction ws generalizing k with
 | nil=>simp at h
 | cons x ws ih =>
  have e:bytesOf (x::ws)=be8 4 x.toNat++bytesOf ws:=rfl
  have hl:(be8 4 x.toNat).length=4:=zb5 _ _
  cases k with
  | zero =>
   rw[e,show 4*(0+1)=(be8 4 x.toNat).length from hl.symm,List.take_left]
   rfl
  | succ k =>
   rw[e,show 4*(k+1+1)=(be8 4 x.toNat).length+4*(k+1) by omega,List.take_length_add_append,show 4*(k+1)=(be8 4 x.toNat).length+4*k by omega,List.take_length_add_append,← show 4*(k+1)=(be8 4 x.toNat).length+4*k by omega,ih k (by simpa using h),List.append_assoc]
   rfl
theorem zpo (ws:List W) (k:Nat) (h:k<8):((bytesOf ws).take (4*k)++List.replicate (32 - 4*k) (0:UInt8)).map bv=((bytesOf ws).take (4*k)).map bv++((List.replicate 4 (0:UInt8)).map bv++(List.replicate (32 - 4*(k+1)) (0:UInt8)).map bv):=by
 rw[List.map_append]
 congr 1
 rw[← List.map_append,List.replicate_append_replicate]
 congr 2
 omega
set_option maxHeartbeats 1000000 in
theorem zxn (w:World) (b:Nat) (t:TypeId) (pre post:List Value) (words:List W) (rest l:List UInt8) (hH:HAt w b t pre post words rest l) (hT:Tabs w) (hlen:l.length<576460752303423488) :
  Calls Tryz.prog 123 #[.pointer (some ⟨b,pre.length,none⟩)] w fun e w'=>e = .returned (.agg ((shaL l).map bv).toArray)∧w.grownBy w' none:=by
 obtain ⟨o,ho⟩:∃ o,o=pre.length:=⟨_,rfl⟩
 rw[← ho]
 have hi8:(Tryz.prog.info? 210).map (·.size)=some 8:=by kernel_rfl
 have hi32:(Tryz.prog.info? 32).map (·.size)=some 32:=by kernel_rfl
 have hi73:(Tryz.prog.info? 213).map (·.size)=some 73:=by kernel_rfl
 obtain ⟨Z,hZ⟩:∃ Z:Array Value,Z=(hc (List.replicate 8 0) (List.replicate 64 0) 0).toArray:=⟨_,rfl⟩
 have hzv:=zlj
 rw[← hZ] at hzv
 obtain ⟨W1,hW1⟩:∃ W1,W1=(w.alloc (.cells #[.int .u8 0,.int .u8 0,.int .u8 0,.int .u8 0,.int .u8 0,.int .u8 0,.int .u8 0,.int .u8 0,.int .u8 0,.int .u8 0,.int .u8 0,.int .u8 0,.int .u8 0,.int .u8 0,.int .u8 0,.int .u8 0,.int .u8 0,.int .u8 0,.int .u8 0,.int .u8 0,.int .u8 0,.int .u8 0,.int .u8 0,.int .u8 0,.int .u8 0,.int .u8 0,.int .u8 0,.int .u8 0,.int .u8 0,.int .u8 0,.int .u8 0,.int .u8 0] 32)).alloc (.cells Z 213):=⟨_,rfl⟩
 have hR1:Blk W1 w.heap.size 32 ((List.replicate 32 (0:UInt8)).map bv):=by
  rw[hW1];exact (Blk.new w 32 ((List.replicate 32 (0:UInt8)).map bv)).alloc _
 have hZ1:Blk W1 (w.heap.size+1) 213 (hc (List.replicate 8 0) (List.replicate 64 0) 0):=by
  have:=Blk.new (w.alloc (.cells ((List.replicate 32 (0:UInt8)).map bv).toArray 32)) 213 (hc (List.replicate 8 0) (List.replicate 64 0) 0)
  rw[World.size_alloc] at this
  rw[hW1,hZ];exact this
 have hg1:w.grownBy W1 none:=by rw[hW1];exact zah (zah (zab _ _) _) _
 have hHr:W1.rangeAt b o (hc words rest l.length):=by
  have:=(hH.kept hg1 (by simp)).blk.range
  rw[← ho] at this
  exact this
 have hl73:(hc words rest l.length).length=73:=zry _ _ _ hH.took.w8 hH.took.r64
 obtain ⟨cells,hcells⟩:∃ cells,cells=hc words rest l.length:=⟨_,rfl⟩
 rw[← hcells] at hHr hl73
 have hs73:cells.toArray.size=73:=by simpa using hl73
 have hone:cells.toArray.all (·.oneCell')=true:=by
  rw[hcells]
  refine all_oneCell_toArray (fun v hv => ?_)
  rcases List.mem_append.1 hv with h | h
  ·exact zhc _ v h
  ·rcases List.mem_append.1 h with h | h
   ·exact za6 _ v h
   ·simp at h;subst h;rfl
 obtain ⟨W2,hW2⟩:∃ W2,W2=W1.setRow (w.heap.size+1) cells.toArray:=⟨_,rfl⟩
 have hB2:Blk W2 (w.heap.size+1) 213 ([]++(hc words rest l.length++[])):=by
  rw[hW2,hcells];simpa using hZ1.row (hc words rest l.length)
 have hR2:Blk W2 w.heap.size 32 ((List.replicate 32 (0:UInt8)).map bv):=by rw[hW2];exact hR1.row_other _ _ (by omega)
 have hg2:w.grownBy W2 none:=by rw[hW2];exact zam hg1 _ (Or.inl (by omega))
 have hT2:=hT.kept0 hg2
 have hend:=zxm W2 (w.heap.size+1) 213 [] [] words rest l ⟨hB2,hH.took⟩ hT2 (hT.glb (by omega)) hlen
 have hZs:Z.size=73:=by rw[hZ];rfl
 have hZ1' : W1.heap[w.heap.size+1]? = some (.cells Z 213 (0,0)):=by rw[hZ];exact hZ1
 rw[show ([]:List Value).length=0 from rfl] at hend
 rw[hW2] at hend
 have HW1:=hide hW1
 clear hW1
 obtain ⟨HR2,HZ,HW2⟩:=zh3 hR2 hZ hW2
 clear hR2 hZ hB2 hT hT2 hR1 hZ1 hW2 hH hlen hcells ho
 go_enter Tryz.func123,Tryz.ntmps123
 go_wp2_with (first
  | (rw[← uh HW1];refine wpList_load_mid rfl 213 _ rfl b o rfl _ _ hHr Tryz.underlying213 rfl ?_ ?_;(rw[hl73];exact hi73))
  | (refine wpList_store_row rfl 213 _ _ rfl (w.heap.size+1) _ rfl rfl _ _ hZ1' ?_ ?_ hone ?_;(rw[hs73];exact hi73);(rw[hZs,hs73]))
  | (go_at_call 152;refine hend.mono ?_;rintro e w3 ⟨rfl,⟨wo,re,hH3⟩,g3⟩;rw[← uh HW2] at g3;have hr3:w3.rangeAt (w.heap.size+1) 0 (wo.map wv):=hH3.words.range;have hw8:(wo.map wv).length=8:=by rw[List.length_map];exact hH3.took.w8)
  | (refine wpList_load_mid rfl 210 _ rfl (w.heap.size+1) 0 rfl _ _ (World.rangeAt_alloc hr3 _) Tryz.underlying210 rfl ?_ ?_;(rw[hw8];exact hi8)))
 have hwo:wo=shaW l:=hH3.took.ended
 obtain ⟨W3,hW3⟩:∃ W3,W3=w3.alloc (.cells #[.int .u8 0,.int .u8 0,.int .u8 0,.int .u8 0,.int .u8 0,.int .u8 0,.int .u8 0,.int .u8 0,.int .u8 0,.int .u8 0,.int .u8 0,.int .u8 0,.int .u8 0,.int .u8 0,.int .u8 0,.int .u8 0,.int .u8 0,.int .u8 0,.int .u8 0,.int .u8 0,.int .u8 0,.int .u8 0,.int .u8 0,.int .u8 0,.int .u8 0,.int .u8 0,.int .u8 0,.int .u8 0,.int .u8 0,.int .u8 0,.int .u8 0,.int .u8 0] 32):=⟨_,rfl⟩
 rw[← hW3]
 have hN3:Blk W3 w3.heap.size 32 ((List.replicate 32 (0:UInt8)).map bv):=by rw[hW3];exact Blk.new w3 _ _
 have hg3:w.grownBy w3 none:=zae hg2 g3 (fun y e=>by cases e;exact Or.inl (by omega))
 have hgW3:w.grownBy W3 none:=by rw[hW3];exact zah hg3 _
 have hR3:Blk W3 w.heap.size 32 ((List.replicate 32 (0:UInt8)).map bv):=by
  rw[hW3];exact ((uh HR2).kept g3 (by simp)).alloc _
 have hsz3:=hg3.size
 have hlt3:w.heap.size<w3.heap.size:=Nat.lt_of_lt_of_le (uh HR2).lt g3.size
 obtain ⟨N,hN⟩:∃ N,N=w3.heap.size:=⟨_,rfl⟩
 rw[← hN] at hN3 hlt3 ⊢
 have hw8' : wo.length=8:=by simpa using hw8
 have HW8:=hide hw8'
 have HWO:=hide hwo
 clear hH3 hr3 hw8 hwo hend hW3 hg3 hg2 g3 hsz3 hN hw8'
 go_loopw [15] (fun i wr=>∃ k:Nat,k≤8∧i = .int .i64 k∧Blk wr N 32 (((bytesOf wo).take (4*k)++List.replicate (32 - 4*k) (0:UInt8)).map bv)∧Blk wr w.heap.size 32 ((List.replicate 32 (0:UInt8)).map bv)∧w.grownBy wr none) (fun i _=>8 - (intOf i).toNat)
 case atStart=>exact ⟨0,Nat.zero_le _,rfl,hN3,hR3,hgW3⟩
 case round =>
  clear hN3 hR3 hgW3
  obtain ⟨k,hk,rfl,hB,hR,hg⟩:=hrel
  by_cases hlt:k<8
  ·have hq0:(0:Int)≤(k:Int):=by omega
   have hkw:k<wo.length:=by rw[uh HW8];exact hlt
   obtain ⟨xk,hxk⟩:∃ xk,xk=wo[k]:=⟨_,rfl⟩
   have hidx:=zhu 210 209 8 (wo.map wv) k (.int .u32 (wz xk)) Tryz.underlying210 zih zkg hlt (by
    rw[List.getElem?_map,List.getElem?_eq_getElem hkw,hxk];rfl)
   have hsl:=zfx 32 5 32 Tryz.underlying32 zbf N 0 (4*k) (4*k+4) ((k:Int)*4) (((k:Int)+1)*4) (by omega) (by omega) (by omega) (by omega) (by omega)
   rw[show 4*k+4 - 4*k=4 by omega,Nat.zero_add] at hsl
   have hal:(((bytesOf wo).take (4*k)).map bv).length=4*k:=by rw[List.length_map,List.length_take,zca,uh HW8];omega
   rw[zpo wo k hlt] at hB
   have hth:=hB.thereIn
   rw[hal,List.length_map,List.length_replicate] at hth
   obtain ⟨HX,HB,HR,HAL⟩:=zh4 hxk hB hR hal
   clear hxk hB hR hal
   go_wp2_with (go_at_call 153;refine (zij _ N (4*k) 4 _ xk.toNat _ ?_ ?_ hth).mono ?_;(first | rw[zr2] | exact zwx xk);(omega);rintro e w4 ⟨rfl,rfl⟩)
   go_roundw
   case rel =>
    have hS:=Blk.setCells ((be8 4 xk.toNat).map bv) _ (uh HB) (by simp[zb5])
    rw[uh HAL] at hS
    refine ⟨k+1,by omega,by go_num,?_,(uh HR).setCells_other (by omega) _ _,zbi (Or.inl (by omega)) _ _ hg⟩
    rw[zhe wo k hkw,List.map_append,List.map_append,List.append_assoc,← uh HX]
    exact hS
   case measure=>simp[intOf];omega
  ·obtain rfl:k=8:=by omega
   have hbl:(bytesOf wo).length=32:=by rw[zca,uh HW8]
   rw[List.take_of_length_le (by omega),show 32 - 4*8=0 from rfl,List.replicate_zero,List.append_nil] at hB
   have hsz:(((bytesOf wo).map bv).toArray).size=32:=by simp[hbl]
   have HSZ:=hide hsz
   clear hsz hbl
   go_wp2_with (first | (refine wpList_load_row rfl 32 _ rfl N rfl _ _ _ _ hB Tryz.underlying32 rfl ?_ ?_;(rw[uh HSZ];exact hi32)) | (refine wpList_store_row rfl 32 _ _ rfl w.heap.size _ rfl rfl _ _ hR ?_ ?_ ?_ ?_;(rw[uh HSZ];exact hi32);(rw[uh HSZ];rfl);(exact all_oneCell_toArray (za6 _))))
   have hS:=hR.row ((bytesOf wo).map bv)
   have hG:w.grownBy (wr.setRow w.heap.size ((bytesOf wo).map bv).toArray) none:=zam hg _ (Or.inl (Nat.le_refl _))
   refine bodyPost_ret (v := .agg ((bytesOf wo).map bv).toArray) (results_cell_row (g:=w.heap.size) rfl _ _ _ _ _ _ ?_ hS Tryz.underlying32 rfl ?_) rfl ⟨?_,hG⟩
   ·rfl
   ·rw[uh HSZ];exact hi32
   ·rw[uh HWO];rfl
end Go.Proofs.YthhnfloohbdaiaaGreatDoor
