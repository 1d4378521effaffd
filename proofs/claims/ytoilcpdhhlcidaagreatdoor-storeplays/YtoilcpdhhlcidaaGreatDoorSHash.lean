/- Lemmas. -/
import Derived.Test.YtoilcpdhhlcidaaGreatDoorSWord
import Derived.Deep.MidRow
import Derived.Deep.RegionHeld3
import Derived.BigQuiet
namespace Go.Proofs.YtoilcpdhhlcidaaGreatDoor
open Go.RowKit
set_option maxRecDepth 100000
theorem zpx (w:World) (x:W) (n:Nat) (h0:0<n) (h1:n<32) :
  Calls Tryz.prog 141 #[.int .u32 (wz x),.int .i64 (n:Int)] w fun e w'=>e = .returned (.int .u32 (wz (ror x n)))∧w'=w:=zlw w x n h0 h1
theorem zk5 (w:World) (x:W) (z:Int) (h0:0<z) (h1:z<32) :
  Calls Tryz.prog 141 #[.int .u32 (wz x),.int .i64 z] w fun e w'=>e = .returned (.int .u32 (wz (ror x z.toNat)))∧w'=w:=by
 have:=zpx w x z.toNat (by omega) (by omega)
 rw[Int.toNat_of_nonneg (by omega)] at this
 exact this
theorem zso (n0 n1 n2 n3:Nat) (h0:n0<256) (h1:n1<256) (h2:n2<256) (h3:n3<256) :
  bits .or .u32 (bits .or .u32 (bits .or .u32 ((n0:Int)*16777216) ((n1:Int)*65536)) ((n2:Int)*256)) (n3:Int) =
   ((n0*16777216+n1*65536+n2*256+n3:Nat):Int):=by
 have e0:(n0:Int)*16777216=((n0*16777216:Nat):Int):=by omega
 have e1:(n1:Int)*65536=((n1*65536:Nat):Int):=by omega
 have e2:(n2:Int)*256=((n2*256:Nat):Int):=by omega
 have p24:(2:Nat) ^ 24=16777216:=rfl
 have p16:(2:Nat) ^ 16=65536:=rfl
 have p8:(2:Nat) ^ 8=256:=rfl
 have j1:n0*16777216 ||| n1*65536=n0*16777216+n1*65536:=by
  have:=Nat.shiftLeft_add_eq_or_of_lt (b:=n1*65536) (i:=24) (by rw[p24];omega) n0
  rw[Nat.shiftLeft_eq,p24] at this;exact this.symm
 have k2:(n0*256+n1)*65536=n0*16777216+n1*65536:=by omega
 have k3:(n0*65536+n1*256+n2)*256=n0*16777216+n1*65536+n2*256:=by omega
 have j2:(n0*16777216+n1*65536) ||| n2*256=n0*16777216+n1*65536+n2*256:=by
  have:=Nat.shiftLeft_add_eq_or_of_lt (b:=n2*256) (i:=16) (by rw[p16];omega) (n0*256+n1)
  rw[Nat.shiftLeft_eq,p16,k2] at this;exact this.symm
 have j3:(n0*16777216+n1*65536+n2*256) ||| n3=n0*16777216+n1*65536+n2*256+n3:=by
  have:=Nat.shiftLeft_add_eq_or_of_lt (b:=n3) (i:=8) (by rw[p8];omega) (n0*65536+n1*256+n2)
  rw[Nat.shiftLeft_eq,p8,k3] at this;exact this.symm
 rw[e0,e1,e2,u32_or_nat _ _ (by omega) (by omega),j1,u32_or_nat _ _ (by omega) (by omega),j2,u32_or_nat _ _ (by omega) (by omega),j3]
theorem znq (a b c d:UInt8):wz (znn a b c d)=((a.toNat*16777216+b.toNat*65536+c.toNat*256+d.toNat:Nat):Int):=by
 have:=a.toNat_lt
 have:=b.toNat_lt
 have:=c.toNat_lt
 have:=d.toNat_lt
 unfold wz znn
 rw[BitVec.toNat_ofNat,Nat.mod_eq_of_lt (by omega)]
set_option maxHeartbeats 400000 in
theorem zlx (w:World) (b o:Nat) (l:List UInt8) (hl:l.length=64) (hr:w.rangeAt b o (l.map bv)) :
  Calls Tryz.prog 140 #[.pointer (some ⟨b,o,none⟩)] w fun e w'=>e = .returned (.agg ((zck l).map wv).toArray)∧w.grownBy w' none:=by
 go_enter Tryz.func140,Tryz.ntmps140
 go_wp2
 go_loopw [11] (fun i wr=>∃ k:Nat,k≤16∧i = .int .i64 k∧Blk wr (w.heap.size+1) 192 (((w16 l).take k++List.replicate (64 - k) 0).map wv)∧Blk wr w.heap.size 192 ((List.replicate 64 (0:W)).map wv)∧w.grownBy wr none) (fun i _=>16 - (intOf i).toNat)
 case atStart =>
  refine ⟨0,Nat.zero_le _,rfl,?_,?_,?_⟩
  ·have:=Blk.new (w.alloc (.cells ((List.replicate 64 (0:W)).map wv).toArray 192)) 192 ((List.replicate 64 (0:W)).map wv)
   rw[World.size_alloc] at this
   exact this
  ·exact (Blk.new w 192 ((List.replicate 64 (0:W)).map wv)).alloc _
  ·exact zaf (zaf (zac _ _) _) _
 case round =>
  obtain ⟨k,hk,rfl,hB,hR,hg⟩:=hrel
  by_cases hlt:k<16
  ·have hsl:=zd7 167 5 64 Tryz.underlying167 za2 b o (4*k) (4*k+4) ((k:Int)*4) (((k:Int)+1)*4) (by omega) (by omega) (by omega) (by omega) (by omega)
   rw[show 4*k+4 - 4*k=4 by omega] at hsl
   have hc:∀ j,j<4→∃ n:Nat,n<256∧n=(l.getD (4*k+j) 0).toNat∧wr.cell? ⟨b,o+4*k+j,none⟩=some (.int .u8 (n:Int)):=by
    intro j hj
    refine ⟨_,(l.getD (4*k+j) 0).toNat_lt,rfl,?_⟩
    have hq:4*k+j<l.length:=by omega
    have:=(zak hr hg (by simp)) (4*k+j) (bv (l.getD (4*k+j) 0)) (by simp[hq])
    rw[← Nat.add_assoc] at this
    exact this
   obtain ⟨n0,hn0,e0,hc0⟩:=hc 0 (by omega)
   obtain ⟨n1,hn1,e1,hc1⟩:=hc 1 (by omega)
   obtain ⟨n2,hn2,e2,hc2⟩:=hc 2 (by omega)
   obtain ⟨n3,hn3,e3,hc3⟩:=hc 3 (by omega)
   clear hc
   have hq0:(0:Int)≤(k:Int):=by omega
   have hq1:(k:Int)<64:=by omega
   obtain ⟨p,hp⟩:∃ p,p=o+4*k:=⟨_,rfl⟩
   rw[← hp] at hsl hc0 hc1 hc2 hc3
   rw[Nat.add_zero] at hc0
   have hcs:(wr.cell? ⟨w.heap.size+1,k,none⟩).isSome=true∧wr.frozen? ⟨w.heap.size+1,k,none⟩=false:=by
    have:=hB.there k 1 (by simp[zcs];omega) 0 (by omega)
    simpa using this
   obtain ⟨hcs,hcf⟩:=hcs
   obtain ⟨ov,hcs⟩:=Option.isSome_iff_exists.1 hcs
   have hbs:b<w.heap.size:=World.block_lt_of_cell? w ⟨b,o+0,none⟩ (hr 0 (bv (l.getD 0 0)) (by simp[hl]))
   have hne1:w.heap.size+1≠b:=by omega
   have hne2:b≠w.heap.size+1:=by omega
   obtain ⟨H0,H1,H2,H3,HP,HB⟩:=zh6 e0 e1 e2 e3 hp hB
   have HR:=hide hR
   clear e0 e1 e2 e3 hp hr hB hR hl
   go_wp2
   go_region_held3 (fun w'=>w'.cell? ⟨b,p,none⟩=some (.int .u8 (n0:Int))∧w'.cell? ⟨b,p+1,none⟩=some (.int .u8 (n1:Int))∧w'.cell? ⟨b,p+2,none⟩=some (.int .u8 (n2:Int))∧w'.cell? ⟨b,p+3,none⟩=some (.int .u8 (n3:Int))) (go_keep) (fail)
   go_wp2
   go_roundw
   case rel =>
    rw[zso n0 n1 n2 n3 hn0 hn1 hn2 hn3]
    have hx:((n0*16777216+n1*65536+n2*256+n3:Nat):Int)=wz (zk4 l k):=by
     unfold zk4
     rw[znq,uh H0,uh H1,uh H2,uh H3,Nat.add_zero]
    rw[hx]
    refine ⟨k+1,by omega,by go_num,?_,?_,?_⟩
    ·have:=(uh HB).set k (wv (zk4 l k))
     rw[zno (w16 l) 64 k _ (by rw[zcs];omega) (by simp[w16]) (by omega)] at this
     first | exact this | exact this.drew
    ·first | exact (uh HR).other _ _ (by simp) | exact ((uh HR).other _ _ (by simp)).drew
    ·first | exact zam hg _ _ (Or.inl (by simp)) | exact zaa (zam hg _ _ (Or.inl (by simp)))
   case measure=>simp[intOf];omega
  ·obtain rfl:k=16:=by omega
   rw[show ((16:Nat):Int)=16 from rfl]
   rw[show (w16 l).take 16=w16 l by rw[List.take_of_length_le (by rw[zcs];omega)],show 64 - 16=48 from rfl] at hB
   obtain ⟨HB,HR⟩:=zh2 hB hR
   clear hB hR hr
   go_wp2
   go_loopw [6] (fun i wr=>∃ k:Nat,k≤48∧i = .int .i64 ((16+k:Nat):Int)∧Blk wr (w.heap.size+1) 192 ((zgs (w16 l) k++List.replicate (48 - k) 0).map wv)∧Blk wr w.heap.size 192 ((List.replicate 64 (0:W)).map wv)∧w.grownBy wr none) (fun i _=>64 - (intOf i).toNat)
   case atStart=>exact ⟨0,Nat.zero_le _,rfl,uh HB,uh HR,hg⟩
   case round =>
    clear HB HR hg
    obtain ⟨k,hk,rfl,hB,hR,hg⟩:=hrel
    by_cases hlt:k<48
    ·have hll:(zgs (w16 l) k).length=16+k:=by rw[zfb,zcs]
     obtain ⟨q,hq⟩:∃ q,q=zgs (w16 l) k:=⟨_,rfl⟩
     rw[← hq] at hB hll
     obtain ⟨t,ht⟩:∃ t,t=16+k:=⟨_,rfl⟩
     rw[← ht] at hll ⊢
     have hc:∀ j,0<j→j≤16→wr.cell? ⟨w.heap.size+1,t - j,none⟩=some (.int .u32 (wz (q.getD (q.length - j) 0))):=by
      intro j h0 h1
      rw[hB.cell,hll]
      have hlq:t - j<q.length:=by omega
      rw[List.getElem?_map,List.getElem?_append_left hlq,List.getElem?_eq_getElem hlq,show q.getD (t - j) 0=q[t - j] by simp[List.getD,hlq]]
      rfl
     have hc15:=hc 15 (by omega) (by omega)
     have hc2:=hc 2 (by omega) (by omega)
     have hc7:=hc 7 (by omega) (by omega)
     have hc16:=hc 16 (by omega) (by omega)
     clear hc
     obtain ⟨x15,hx15⟩:∃ x,x=q.getD (q.length - 15) 0:=⟨_,rfl⟩
     obtain ⟨x2,hx2⟩:∃ x,x=q.getD (q.length - 2) 0:=⟨_,rfl⟩
     obtain ⟨x7,hx7⟩:∃ x,x=q.getD (q.length - 7) 0:=⟨_,rfl⟩
     obtain ⟨x16,hx16⟩:∃ x,x=q.getD (q.length - 16) 0:=⟨_,rfl⟩
     rw[← hx15] at hc15
     rw[← hx2] at hc2
     rw[← hx7] at hc7
     rw[← hx16] at hc16
     have hcs:(wr.cell? ⟨w.heap.size+1,t,none⟩).isSome=true∧wr.frozen? ⟨w.heap.size+1,t,none⟩=false:=by
      have:=hB.there t 1 (by simp;omega) 0 (by omega)
      simpa using this
     obtain ⟨hcs,hcf⟩:=hcs
     obtain ⟨ov,hcs⟩:=Option.isSome_iff_exists.1 hcs
     have ht0:16≤t:=by omega
     have ht1:t<64:=by omega
     have hz1:(16:Int)≤(t:Int):=by omega
     have hz2:(t:Int)<64:=by omega
     obtain ⟨H2,H7,H15,H16,HQ,HT⟩:=zh6 hx2 hx7 hx15 hx16 hq ht
     obtain ⟨HL,HB,HR⟩:=zh3 hll hB hR
     clear hx2 hx7 hx15 hx16 hq ht hll hB hR hl
     go_wp2
     go_quiet (fail)
     obtain ⟨wq,hwq⟩:∃ wq,wq=wr.drewN nq:=⟨_,rfl⟩
     rw[← hwq]
     have hd:∀ a,wq.cell? a=wr.cell? a:=fun a=>by rw[hwq];simp
     have hdf:∀ a,wq.frozen? a=wr.frozen? a:=fun a=>by rw[hwq];simp
     have hdh:wq.heap=wr.heap:=by rw[hwq];simp
     have hdg:w.grownBy wq none:=by rw[hwq];exact zkd hg _
     rw[← hd] at hc15 hc2 hc7 hc16 hcs
     rw[← hdf] at hcf
     have HH:=hide hdh
     clear hd hdf hdh hwq hg
     have hx:=zpu
     have hsr3:wz x15 / (8:Int)=wz (x15 >>> 3):=zrg x15 3
     have hsr10:wz x2 / (1024:Int)=wz (x2 >>> 10):=zrg x2 10
     have ha:=zpv
     have ham:=zi2
     go_wp2_with (go_at_call 141;refine (zk5 _ _ _ ?_ ?_).mono ?_;(decide);(decide);rintro e w' ⟨rfl,rfl⟩)
     obtain ⟨i7,hi7⟩:∃ i7:Nat,t - 7=i7:=⟨_,rfl⟩
     obtain ⟨i16,hi16⟩:∃ i16:Nat,t - 16=i16:=⟨_,rfl⟩
     have hw7:IntKind.i64.wrap ((t:Int) - 7)=(i7:Int):=by rw[IntKind.wrap_i64];omega
     have hw16:IntKind.i64.wrap ((t:Int) - 16)=(i16:Int):=by rw[IntKind.wrap_i64];omega
     rw[hi7] at hc7
     rw[hi16] at hc16
     have b70:(0:Int)≤(i7:Int):=by omega
     have b71:(i7:Int)<64:=by omega
     have b80:(0:Int)≤(i16:Int):=by omega
     have b81:(i16:Int)<64:=by omega
     have b90:(0:Int)≤(t:Int):=by omega
     have hn7:t≠i7:=by omega
     have hn16:t≠i16:=by omega
     have hk7:∀ (V:World) (v:Value),(V.setCell ⟨w.heap.size+1,t,none⟩ v).cell? ⟨w.heap.size+1,i7,none⟩=V.cell? ⟨w.heap.size+1,i7,none⟩:=fun V v=>World.cell?_setCell_other _ _ _ _ (by simp)
     have hk16:∀ (V:World) (v:Value),(V.setCell ⟨w.heap.size+1,t,none⟩ v).cell? ⟨w.heap.size+1,i16,none⟩=V.cell? ⟨w.heap.size+1,i16,none⟩:=fun V v=>World.cell?_setCell_other _ _ _ _ (by simp)
     clear hi7 hi16 hc15 hc2
     go_region_held3 (fun w'=>w'.cell? ⟨w.heap.size+1,i7,none⟩=some (.int .u32 (wz x7))∧w'.cell? ⟨w.heap.size+1,i16,none⟩=some (.int .u32 (wz x16))) (go_keep) (fail)
     go_wp2
     go_roundw
     case rel =>
      try simp only[zpu,hsr3,hsr10,zpv,zi2]
      have hE:((ror x2 17 ^^^ ror x2 19 ^^^ x2 >>> 10)+x7+(ror x15 7 ^^^ ror x15 18 ^^^ x15 >>> 3))+x16=nxt q:=by
       rw[nxt,← uh H2,← uh H7,← uh H15,← uh H16];rfl
      rw[hE]
      have hB1:Blk w' (w.heap.size+1) 192 ((q++List.replicate (48 - k) 0).map wv):=by
       have:=uh HB
       unfold Blk at this ⊢
       rw[uh HH];exact this
      have hR1:Blk w' w.heap.size 192 ((List.replicate 64 (0:W)).map wv):=by
       have:=uh HR
       unfold Blk at this ⊢
       rw[uh HH];exact this
      have hs:=hB1.set t (wv (nxt q))
      rw[← uh HL,znp q _ _ (by omega),show q++[nxt q]=zgs (w16 l) (k+1) by rw[uh HQ];rfl,show 48 - k - 1=48 - (k+1) by omega,uh HL] at hs
      refine ⟨k+1,by omega,?_,?_,?_,?_⟩
      ·have:=uh HT
       rw[show (16+(k+1):Nat)=t+1 by omega]
       simp
      ·first | exact hs | exact hs.drew
      ·first | exact hR1.other _ _ (by simp) | exact (hR1.other _ _ (by simp)).drew
      ·first | exact zam hdg _ _ (Or.inl (by simp)) | exact zaa (zam hdg _ _ (Or.inl (by simp)))
     case measure=>simp[intOf];omega
    ·obtain rfl:k=48:=by omega
     rw[show 48 - 48=0 from rfl,List.replicate_zero,List.append_nil,show zgs (w16 l) 48=zck l from rfl] at hB
     have hi64:(Tryz.prog.info? 192).map (·.size)=some 64:=by kernel_rfl
     have hsz:(((zck l).map wv).toArray).size=64:=by simp[zdw]
     have HZ:=hide hsz
     clear hsz
     go_wp2_with (first | (refine wpList_load_row rfl 192 _ rfl (w.heap.size+1) rfl _ _ _ _ hB Tryz.underlying192 rfl ?_ ?_;(rw[uh HZ];exact hi64)) | (refine wpList_store_row rfl 192 _ _ rfl w.heap.size _ rfl rfl _ _ hR ?_ ?_ ?_ ?_;(rw[uh HZ];exact hi64);(rw[uh HZ];rfl);(exact all_oneCell_toArray (zi3 _))))
     have hS:=hR.row ((zck l).map wv)
     have hG:w.grownBy (wr.setRow w.heap.size ((zck l).map wv).toArray) none:=zaj hg _ (Or.inl (Nat.le_refl _))
     refine bodyPost_ret (v := .agg ((zck l).map wv).toArray) (results_cell_row (g:=w.heap.size) rfl _ _ _ _ _ _ ?_ hS Tryz.underlying192 rfl ?_) rfl ⟨rfl,hG⟩
     ·rfl
     ·rw[uh HZ];exact hi64
structure Tabs (w:World):Prop where
 cube:∃ t fr,w.heap[0]? = some (.cells (Ks.map wv).toArray t fr)
 square:∃ t fr,w.heap[1]? = some (.cells (Hs.map wv).toArray t fr)
def Glb (b:Nat):Prop:=b≠0∧b≠1
theorem Tabs.kept {w a:World} {r:Option Nat} (h:Tabs w) (g:w.grownBy a r) (hr:∀ x,r=some x→Glb x):Tabs a:=by
 obtain ⟨⟨t,f,h1⟩,⟨t2,f2,h2⟩⟩:=h
 refine ⟨⟨t,f,?_⟩,⟨t2,f2,?_⟩⟩
 ·rw[g.block _ (Array.getElem?_eq_some_iff.1 h1).1 (fun e=>(hr _ e.symm).1 rfl)];exact h1
 ·rw[g.block _ (Array.getElem?_eq_some_iff.1 h2).1 (fun e=>(hr _ e.symm).2 rfl)];exact h2
theorem Tabs.kept0 {w a:World} (h:Tabs w) (g:w.grownBy a none):Tabs a:=h.kept g (fun x e=>by cases e)
theorem Tabs.glb {w:World} (h:Tabs w) {b:Nat} (hb:w.heap.size≤b):Glb b:=by
 obtain ⟨⟨t,f,h1⟩,⟨t2,f2,h2⟩⟩:=h
 have:=(Array.getElem?_eq_some_iff.1 h1).1
 have:=(Array.getElem?_eq_some_iff.1 h2).1
 constructor <;> omega
theorem Tabs.cube_cell {w:World} (h:Tabs w) (k:Nat) (hk:k<64):w.cell? ⟨0,k,none⟩=some (.int .u32 (wz (Ks.getD k 0))):=by
 obtain ⟨t,f,h1⟩:=h.cube
 rw[cell_of_row w _ k _ _ _ h1]
 have hl:k<Ks.length:=by rw[znm];exact hk
 rw[List.getElem?_toArray,List.getElem?_map,List.getElem?_eq_getElem hl,show Ks.getD k 0=Ks[k] by simp[List.getD,hl]]
 rfl
set_option maxHeartbeats 1000000 in
theorem znr (w:World) (b o:Nat) (l:List UInt8) (hs:List W) (h8:hs.length=8) (hl:l.length=64) (hr:w.rangeAt b o (l.map bv)) (hT:Tabs w) :
  Calls Tryz.prog 128 #[.agg (hs.map wv).toArray,.pointer (some ⟨b,o,none⟩)] w fun e w'=>e = .returned (.agg ((comp hs l).map wv).toArray)∧w.grownBy w' none:=by
 obtain ⟨h0,h1,h2,h3,h4,h5,h6,h7,rfl⟩:∃ h0 h1 h2 h3 h4 h5 h6 h7,hs=[h0,h1,h2,h3,h4,h5,h6,h7]:=by
  match hs,h8 with
  | [h0,h1,h2,h3,h4,h5,h6,h7],_=>exact ⟨h0,h1,h2,h3,h4,h5,h6,h7,rfl⟩
 obtain ⟨s0,hs0⟩:∃ s0:S8,s0=S8.ofL [h0,h1,h2,h3,h4,h5,h6,h7]:=⟨_,rfl⟩
 obtain ⟨H0,HR,HL,HT⟩:=zh4 hs0 hr hl hT
 clear hs0 hr hl h8 hT
 show Calls Tryz.prog 128 #[.agg #[.int .u32 (wz h0),.int .u32 (wz h1),.int .u32 (wz h2),.int .u32 (wz h3),.int .u32 (wz h4),.int .u32 (wz h5),.int .u32 (wz h6),.int .u32 (wz h7)],.pointer (some ⟨b,o,none⟩)] w _
 go_enter Tryz.func128,Tryz.ntmps128
 go_wp2
 go_quiet (fail)
 obtain ⟨w1,hw1⟩:∃ w1,w1=((w.alloc (.cells #[.int .u32 (wz h0),.int .u32 (wz h1),.int .u32 (wz h2),.int .u32 (wz h3),.int .u32 (wz h4),.int .u32 (wz h5),.int .u32 (wz h6),.int .u32 (wz h7)] 166)).alloc (.cells #[.int .u32 0,.int .u32 0,.int .u32 0,.int .u32 0,.int .u32 0,.int .u32 0,.int .u32 0,.int .u32 0] 166)).drewN nq:=⟨_,rfl⟩
 rw[← hw1]
 have hB:Blk w1 w.heap.size 166 ([h0,h1,h2,h3,h4,h5,h6,h7].map wv):=by
  rw[hw1];exact (Blk.new w 166 ([h0,h1,h2,h3,h4,h5,h6,h7].map wv)).alloc _
 have hR:Blk w1 (w.heap.size+1) 166 ((List.replicate 8 (0:W)).map wv):=by
  have:=Blk.new (w.alloc (.cells ([h0,h1,h2,h3,h4,h5,h6,h7].map wv).toArray 166)) 166 ((List.replicate 8 (0:W)).map wv)
  rw[World.size_alloc] at this
  rw[hw1];exact this
 have hg:w.grownBy w1 none:=by
  rw[hw1];exact zkd (zaf (zaf (zac _ _) _) _) _
 have hr1:=zak (uh HR) hg (by simp)
 obtain ⟨HB,HR1⟩:=zh2 hB hR
 clear hB hR hw1 HR
 go_wp2_with (go_at_call 140;refine (zlx _ b o l (uh HL) hr1).mono ?_;rintro e w2 ⟨rfl,hg2⟩)
 have hB2:=(uh HB).kept hg2 (by simp)
 have hR2:=(uh HR1).kept hg2 (by simp)
 have hT2:=(uh HT).kept0 (zae hg hg2 (fun _ e=>by cases e))
 have hg3:=zae hg hg2 (fun _ e=>by cases e)
 obtain ⟨ws,hws⟩:∃ ws,ws=zck l:=⟨_,rfl⟩
 rw[← hws]
 have hwl:ws.length=64:=by rw[hws];exact zdw l
 obtain ⟨HW,HWL,HB2,HR2,HT2⟩:=zh5 hws hwl hB2 hR2 hT2
 clear hws hwl hB2 hR2 hT2 HB HR1 hg2 hr1 hg
 go_loopw [5,6,7,8,9,10,11,12,39] (fun xa xb xc xd xe xf xg xh i wr=>∃ k:Nat,k≤64∧i = .int .i64 k∧wr=w2∧xa = .int .u32 (wz (rds s0 ws k).a)∧xb = .int .u32 (wz (rds s0 ws k).b)∧xc = .int .u32 (wz (rds s0 ws k).c)∧xd = .int .u32 (wz (rds s0 ws k).d)∧xe = .int .u32 (wz (rds s0 ws k).e)∧xf = .int .u32 (wz (rds s0 ws k).f)∧xg = .int .u32 (wz (rds s0 ws k).g)∧xh = .int .u32 (wz (rds s0 ws k).h)) (fun _ _ _ _ _ _ _ _ i _=>64 - (intOf i).toNat)
 case atStart =>
  refine ⟨0,Nat.zero_le _,rfl,rfl,?_⟩
  have e0:rds s0 ws 0=S8.ofL [h0,h1,h2,h3,h4,h5,h6,h7]:=uh H0
  rw[e0]
  exact ⟨rfl,rfl,rfl,rfl,rfl,rfl,rfl,rfl⟩
 case round =>
  obtain ⟨k,hk,rfl,rfl,rfl,rfl,rfl,rfl,rfl,rfl,rfl,rfl⟩:=hrel
  obtain ⟨s,hs⟩:∃ s,s=rds s0 ws k:=⟨_,rfl⟩
  rw[← hs]
  have HS:=hide hs
  clear hs
  by_cases hlt:k<64
  ·have hq0:(0:Int)≤(k:Int):=by omega
   have hq1:(k:Int)<64:=by omega
   obtain ⟨xk,hxk⟩:∃ xk,xk=ws.getD k 0:=⟨_,rfl⟩
   have hidx:=zfv 192 165 64 (ws.map wv) k (.int .u32 (wz xk)) Tryz.underlying192 zgc zhx hlt (by
    have hl2:k<ws.length:=by rw[uh HWL];exact hlt
    rw[List.getElem?_map,List.getElem?_eq_getElem hl2,hxk,show ws.getD k 0=ws[k] by simp[List.getD,hl2]];rfl)
   obtain ⟨ck,hck⟩:∃ ck,ck=Ks.getD k 0:=⟨_,rfl⟩
   have hcc:=(uh HT2).cube_cell k hlt
   rw[← hck] at hcc
   obtain ⟨HX,HC⟩:=zh2 hxk hck
   clear hxk hck
   have hx:=zpu
   have ha:=zpv
   have ham:=zi2
   have hn:∀ x:W,bits .xor .u32 (if IntKind.u32.signed=true then -1 else IntKind.u32.max) (wz x)=wz (~~~x):=fun x=>zsn x
   have hnd:=zsm
   go_wp2_with (go_at_call 141;refine (zk5 _ _ _ ?_ ?_).mono ?_;(decide);(decide);rintro e w' ⟨rfl,rfl⟩)
   go_roundw
   case rel =>
    have er:rds s0 ws (k+1)=rnd s ck xk:=by
     show rnd (rds s0 ws k) (Ks.getD k 0) (ws.getD k 0)=_
     rw[← uh HS,← uh HC,← uh HX]
    refine ⟨k+1,by omega,by go_num,trivial,?_⟩
    rw[er]
    exact ⟨rfl,rfl,rfl,rfl,rfl,rfl,rfl,rfl⟩
   case measure=>simp[intOf];omega
  ·obtain rfl:k=64:=by omega
   have hi8:(Tryz.prog.info? 166).map (·.size)=some 8:=by kernel_rfl
   rw[show ((64:Nat):Int)=64 from rfl]
   go_wp2
   go_loopw [112] (fun i wr=>∃ k:Nat,k≤8∧i = .int .i64 k∧Blk wr w.heap.size 166 (((List.zipWith (· + ·) [h0,h1,h2,h3,h4,h5,h6,h7] s.toL).take k++[h0,h1,h2,h3,h4,h5,h6,h7].drop k).map wv)∧Blk wr (w.heap.size+1) 166 ((List.replicate 8 (0:W)).map wv)∧w.grownBy wr none) (fun i _=>8 - (intOf i).toNat)
   case atStart=>exact ⟨0,Nat.zero_le _,rfl,uh HB2,uh HR2,hg3⟩
   case round =>
    obtain ⟨k,hk,rfl,hB,hR,hg⟩:=hrel
    by_cases hlt:k<8
    ·have hq0:(0:Int)≤(k:Int):=by omega
     have hq1:(k:Int)<8:=by omega
     obtain ⟨hs,hhs⟩:∃ hs,hs=[h0,h1,h2,h3,h4,h5,h6,h7]:=⟨_,rfl⟩
     have hl8:hs.length=8:=by rw[hhs];rfl
     rw[← hhs] at hB
     obtain ⟨xk,hxk⟩:∃ xk,xk=s.toL.getD k 0:=⟨_,rfl⟩
     have hidx:=zfv 166 165 8 (s.toL.map wv) k (.int .u32 (wz xk)) Tryz.underlying166 zgc zhx hlt (by
      have hl2:k<s.toL.length:=by rw[S8.toL_length];exact hlt
      rw[List.getElem?_map,List.getElem?_eq_getElem hl2,hxk,show s.toL.getD k 0=s.toL[k] by simp[List.getD,hl2]];rfl)
     have hidx2:∀ W,(Instr.index 166 (.agg #[.int .u32 (wz s.a),.int .u32 (wz s.b),.int .u32 (wz s.c),.int .u32 (wz s.d),.int .u32 (wz s.e),.int .u32 (wz s.f),.int .u32 (wz s.g),.int .u32 (wz s.h)]) (.int .i64 (k:Int))).run Tryz.prog W = .ok (.int .u32 (wz xk)) W:=hidx
     obtain ⟨yk,hyk⟩:∃ yk,yk=hs.getD k 0:=⟨_,rfl⟩
     have hcc:wr.cell? ⟨w.heap.size,k,none⟩=some (.int .u32 (wz yk)):=by
      have hkh:k<hs.length:=by omega
      have hll:((List.zipWith (· + ·) hs s.toL).take k).length=k:=by simp[S8.toL_length];omega
      rw[hB.cell,List.getElem?_map,List.getElem?_append_right (by omega),hll,Nat.sub_self,List.getElem?_drop,Nat.add_zero,List.getElem?_eq_getElem hkh,hyk,show hs.getD k 0=hs[k] by simp[List.getD,hkh]]
      rfl
     have hfz:=hB.fz k
     have ha:=zpv
     have ham:=zi2
     obtain ⟨HX,HY,HB,HHS,HL8,HR⟩:=zh6 hxk hyk hB hhs hl8 hR
     clear hxk hyk hB hhs hl8 hR hidx
     go_wp2
     go_roundw
     case rel =>
      rw[← uh HHS]
      have hS:=(uh HB).set k (wv (yk+xk))
      rw[zpw hs s.toL k (by rw[uh HL8];exact hlt) (by rw[uh HL8];rfl) (yk+xk) (by rw[← uh HX,← uh HY])] at hS
      exact ⟨k+1,by omega,by go_num,hS,(uh HR).other _ _ (by simp),zam hg _ _ (Or.inl (Nat.le_refl _))⟩
     case measure=>simp[intOf];omega
    ·obtain rfl:k=8:=by omega
     rw[show ([h0,h1,h2,h3,h4,h5,h6,h7]:List W).drop 8=[] from rfl,List.append_nil,List.take_of_length_le (by simp;omega)] at hB
     have hcomp:List.zipWith (· + ·) [h0,h1,h2,h3,h4,h5,h6,h7] s.toL=comp [h0,h1,h2,h3,h4,h5,h6,h7] l:=by
      unfold comp
      rw[uh HS,uh HW,uh H0]
     rw[hcomp] at hB
     obtain ⟨cs,hcs⟩:∃ cs,cs=comp [h0,h1,h2,h3,h4,h5,h6,h7] l:=⟨_,rfl⟩
     rw[← hcs] at hB
     have hcl:cs.length=8:=by rw[hcs];exact zc4 rfl _
     have hsz:((cs.map wv).toArray).size=8:=by simp[hcl]
     obtain ⟨HZ,HC⟩:=zh2 hsz hcs
     clear hsz hcs hcl hcomp
     go_wp2_with (first | (refine wpList_load_row rfl 166 _ rfl w.heap.size rfl _ _ _ _ hB Tryz.underlying166 rfl ?_ ?_;(rw[uh HZ];exact hi8)) | (refine wpList_store_row rfl 166 _ _ rfl (w.heap.size+1) _ rfl rfl _ _ hR ?_ ?_ ?_ ?_;(rw[uh HZ];exact hi8);(rw[uh HZ];rfl);(exact all_oneCell_toArray (zi3 _))))
     have hS:=hR.row (cs.map wv)
     have hG:w.grownBy (wr.setRow (w.heap.size+1) (cs.map wv).toArray) none:=zaj hg _ (Or.inl (by omega))
     refine bodyPost_ret (v := .agg (cs.map wv).toArray) (results_cell_row (g:=w.heap.size+1) rfl _ _ _ _ _ _ ?_ hS Tryz.underlying166 rfl ?_) rfl ⟨?_,hG⟩
     ·rfl
     ·rw[uh HZ];exact hi8
     ·rw[uh HC]
def hc (words:List W) (rest:List UInt8) (n:Nat):List Value:=words.map wv++(rest.map bv++[.int .u64 (n:Int)])
theorem zns (words:List W) (rest:List UInt8) (n:Nat) (h8:words.length=8) (h64:rest.length=64):(hc words rest n).length=73:=by simp[hc,h8,h64]
structure HAt (w:World) (b:Nat) (t:TypeId) (pre post:List Value) (words:List W) (rest l:List UInt8):Prop where
 blk:Blk w b t (pre++(hc words rest l.length++post))
 took:Took words rest l
theorem HAt.words {w:World} {b:Nat} {t:TypeId} {pre post:List Value} {words:List W} {rest l:List UInt8} (h:HAt w b t pre post words rest l):Blk w b t (pre++(words.map wv++(rest.map bv++(.int .u64 (l.length:Int)::post)))):=by
 have:=h.blk
 simpa[hc] using this
theorem HAt.rest {w:World} {b:Nat} {t:TypeId} {pre post:List Value} {words:List W} {rest l:List UInt8} (h:HAt w b t pre post words rest l):Blk w b t ((pre++words.map wv)++(rest.map bv++(.int .u64 (l.length:Int)::post))):=by
 have:=h.blk
 simpa[hc] using this
theorem HAt.size {w:World} {b:Nat} {t:TypeId} {pre post:List Value} {words:List W} {rest l:List UInt8} (h:HAt w b t pre post words rest l):w.cell? ⟨b,pre.length+72,none⟩=some (.int .u64 (l.length:Int)):=by
 have h1:Blk w b t ((pre++words.map wv++rest.map bv)++(.int .u64 (l.length:Int)::post)):=by
  have:=h.blk
  simpa[hc] using this
 rw[h1.cell,List.getElem?_append_right (by simp[h.took.w8,h.took.r64]),show pre.length+72 - (pre++words.map wv++rest.map bv).length=0 by simp[h.took.w8,h.took.r64]]
 rfl
theorem HAt.lt {w:World} {b:Nat} {t:TypeId} {pre post:List Value} {words:List W} {rest l:List UInt8} (h:HAt w b t pre post words rest l):b<w.heap.size:=h.blk.lt
theorem HAt.kept {w a:World} {b:Nat} {t:TypeId} {pre post:List Value} {words:List W} {rest l:List UInt8} {r:Option Nat} (h:HAt w b t pre post words rest l) (g:w.grownBy a r) (hr:some b≠r):HAt a b t pre post words rest l:=⟨h.blk.kept g hr,h.took⟩
theorem znt (w:World) (b o n:Nat) (words:List W) (h8:words.length=8) (hr:w.rangeAt b o (words.map wv)) (hz:w.cell? ⟨b,o+72,none⟩=some (.int .u64 (n:Int))) (hT:Tabs w) :
  Calls Tryz.prog 129 #[.pointer (some ⟨b,o,none⟩)] w fun e w'=>e = .returned (.agg ((zfe words n).map wv).toArray)∧w.grownBy w' none:=by
 have hi8:(Tryz.prog.info? 166).map (·.size)=some 8:=by kernel_rfl
 have hb:b<w.heap.size:=World.block_lt_of_cell? w _ hz
 obtain ⟨W1,hW1⟩:∃ W1,W1=w.alloc (.cells #[.int .u32 0,.int .u32 0,.int .u32 0,.int .u32 0,.int .u32 0,.int .u32 0,.int .u32 0,.int .u32 0] 166):=⟨_,rfl⟩
 have hR:Blk W1 w.heap.size 166 ((List.replicate 8 (0:W)).map wv):=by rw[hW1];exact Blk.new w _ _
 have hg:w.grownBy W1 none:=by rw[hW1];exact zaf (zac _ _) _
 have hr1:=zak hr hg (by simp)
 have hT1:=hT.kept0 hg
 obtain ⟨tq,fq,hq⟩:=hT1.square
 obtain ⟨HH,HT,HR,HR1,HB,HQ⟩:=zh6 h8 hT hr hr1 hR hq
 clear h8 hT hr hr1 hT1 hR hq
 by_cases hn:n<64
 ·have hn2:(n:Int)<64:=by omega
  go_enter Tryz.func129,Tryz.ntmps129
  go_wp2_with (first | (rw[← hW1];refine wpList_load_row rfl 166 _ rfl 1 rfl _ _ _ _ (uh HQ) Tryz.underlying166 rfl (by kernel_rfl) ?_) | (refine wpList_store_row rfl 166 _ _ rfl w.heap.size _ rfl rfl _ _ (uh HB) (by kernel_rfl) (by kernel_rfl) (by kernel_rfl) ?_))
  have hS:=(uh HB).row (Hs.map wv)
  have hG:w.grownBy (W1.setRow w.heap.size (Hs.map wv).toArray) none:=zaj hg _ (Or.inl (Nat.le_refl _))
  refine bodyPost_ret (v := .agg (Hs.map wv).toArray) (results_cell_row (g:=w.heap.size) rfl _ _ _ _ _ _ ?_ hS Tryz.underlying166 rfl (by kernel_rfl)) rfl ⟨?_,hG⟩
  ·rfl
  ·rw[zfe,if_pos hn]
 ·have hn2:¬ (n:Int)<64:=by omega
  have hsz:((words.map wv).toArray).size=8:=by simp[uh HH]
  have hlz:(words.map wv).length=8:=by simp[uh HH]
  obtain ⟨HZ,HLZ⟩:=zh2 hsz hlz
  clear hsz hlz
  go_enter Tryz.func129,Tryz.ntmps129
  go_wp2_with (first | (rw[← hW1];refine wpList_load_mid rfl 166 _ rfl b o rfl _ _ (uh HR1) Tryz.underlying166 rfl ?_ ?_;(rw[uh HLZ];exact hi8)) | (refine wpList_store_row rfl 166 _ _ rfl w.heap.size _ rfl rfl _ _ (uh HB) ?_ ?_ ?_ ?_;(rw[uh HZ];exact hi8);(rw[uh HZ];rfl);(exact all_oneCell_toArray (zi3 _))))
  have hS:=(uh HB).row (words.map wv)
  have hG:w.grownBy (W1.setRow w.heap.size (words.map wv).toArray) none:=zaj hg _ (Or.inl (Nat.le_refl _))
  subst hW1
  refine bodyPost_ret (v := .agg (words.map wv).toArray) (results_cell_row (g:=w.heap.size) rfl _ _ _ _ _ _ ?_ hS Tryz.underlying166 rfl ?_) rfl ⟨?_,hG⟩
  ·rfl
  ·rw[uh HZ];exact hi8
  ·rw[zfe,if_neg hn]
theorem zr5 (v m k:Nat) (h:k<(be8 m v).length):Value.int .u8 ((v:Int) / 2 ^ (8*(m - 1 - k)) % 256)=bv (be8 m v)[k]:=by
 unfold bv
 rw[zrf,UInt8.toNat_ofNat']
 congr 1
set_option maxHeartbeats 400000 in
theorem zju (w:World) (b p m c v:Nat) (hm:m≤8) (ht:w.there b p m) :
  Calls Tryz.prog 131 #[.slice (some ⟨b,p,none⟩) m c,.int .u64 (v:Int)] w fun e w'=>e = .returned (.tuple #[])∧w'=w.setCells b p ((be8 m v).map bv):=by
 go_enter Tryz.func131,Tryz.ntmps131
 go_wp2
 go_loopw [7] (fun i wr=>∃ k:Nat,k≤m∧i = .int .i64 k∧wr=w.setCells b p (((be8 m v).take k).map bv)) (fun i _=>m - (intOf i).toNat)
 case atStart=>exact ⟨0,Nat.zero_le _,rfl,rfl⟩
 case round =>
  obtain ⟨k,hk,rfl,rfl⟩:=hrel
  by_cases hlt:k<m
  ·have hlen:(be8 m v).length=m:=zbo m v
   have hbk:k<(be8 m v).length:=by omega
   obtain ⟨wq,hwq⟩:∃ wq,wq=w.setCells b p (((be8 m v).take k).map bv):=⟨_,rfl⟩
   rw[← hwq]
   have hth:=World.there_setCells ht b p (((be8 m v).take k).map bv) k hlt
   rw[← hwq] at hth
   obtain ⟨hcs,hcf⟩:=hth
   obtain ⟨ov,hcs⟩:=Option.isSome_iff_exists.1 hcs
   obtain ⟨HW,HL⟩:=zh2 hwq hlen
   clear hwq hlen
   go_wp2
   go_roundw
   case rel =>
    refine ⟨k+1,by omega,by go_num,?_⟩
    rw[zr5 v m k hbk,uh HW]
    have hl2:(((be8 m v).take k).map bv).length=k:=by simp[uh HL];omega
    have:=zd8 b (bv (be8 m v)[k]) (((be8 m v).take k).map bv) p w
    rw[hl2] at this
    rw[this,zfs hbk,List.map_append]
    rfl
   case measure=>simp[intOf];omega
  ·obtain rfl:k=m:=by omega
   go_wp2
   go_end0
   rw[List.take_of_length_le (by simp[zbo])]
   exact ⟨rfl,rfl⟩
end Go.Proofs.YtoilcpdhhlcidaaGreatDoor
