/- Lemmas. -/
import Derived.Test.YthhnfloohbdaiaaGreatDoorGRange
import Derived.Test.YthhnfloohbdaiaaGreatDoorOId
import GoSem.Extern.MapsClone
namespace Go.Proofs.YthhnfloohbdaiaaGreatDoor
open Go.RowKit
set_option maxRecDepth 100000
theorem zxx {w:World} {base:Nat} {v:Value} {d:List UInt8} (h:w.ownsRow base 5 1 v d.length (d.map bv)):∃ ao c,v = .slice ao d.length c∧Dat w ao c d:=by
 obtain ⟨_,ao,c,h1,h2,h3⟩:=zdf h
 exact ⟨ao,c,h1,h2,fun ad e=>(h3 ad e).2⟩
theorem zit (k:Int) (ao:Option Addr) (n c:Nat):Tryz.prog.built 42 [(0,.int .i64 k),(1,.slice ao n c)]=some #[.int .i64 k,.slice ao n c]:=by kernel_rfl
set_option maxHeartbeats 1000000 in
theorem zp8 (w:World) (k:Int) (ao:Option Addr) (c:Nat) (d:List UInt8) (hd:Bts w ao c d) (hl:d.length≤1000000) :
  Calls Tryz.prog 40 #[.agg #[.int .i64 k,.slice ao d.length c]] w fun e w'=>∃ v,e = .returned (.agg #[.int .i64 k,v])∧w'.ownsRow w.heap.size 5 1 v d.length (d.map bv)∧w.grownBy w' none:=by
 obtain ⟨n,hn⟩:∃ n,n=d.length:=⟨_,rfl⟩
 obtain ⟨W0,hW0,hB0,g0⟩:∃ W,W=w.alloc (.cells #[.int .i64 k,.slice ao n c] 42)∧Blk W w.heap.size 42 [.int .i64 k,.slice ao n c]∧w.grownBy W none:=zag w _ _
 obtain ⟨W1,hW1,hB1,g1⟩:∃ W,W=W0.alloc (.cells #[.int .i64 0,.slice none 0 0] 42)∧Blk W W0.heap.size 42 [.int .i64 0,.slice none 0 0]∧W0.grownBy W none:=zag W0 _ _
 have hs0:W0.heap.size=w.heap.size+1:=by rw[hW0];simp
 have hs1:W1.heap.size=w.heap.size+2:=by rw[hW1,hW0];simp
 rw[hs0] at hB1
 have G1:=tn g0 g1
 have hzo:=zel
 have hBo:=hB0.kept g1 (by simp)
 have hc0:=hBo.cell 0
 have hc1:=hBo.cell 1
 simp only[List.getElem?_cons_zero,List.getElem?_cons_succ] at hc0 hc1
 have hW:W1=(w.alloc (.cells #[.int .i64 k,.slice ao n c] 42)).alloc (.cells #[.int .i64 0,.slice none 0 0] 42):=by rw[hW1,hW0]
 have cc:Calls Tryz.prog 71 #[.slice ao n c] W1.drew fun e w'=>∃ v,e = .returned v∧w'.ownsRow (w.heap.size+2) 5 1 v n (d.map bv)∧W1.drew.grownBy w' none:=by
  have:=zm1 W1.drew ao c d (hd.kept (zak G1) (fun _ e=>by cases e)) hl
  rw[← hn] at this
  exact this.mono fun e w' ⟨v,h1,h2,h3⟩=>⟨v,h1,za7 h2 (by rw[← hs1];exact Nat.le_refl _),h3⟩
 rw[← hn]
 have h0:W1.grownBy W1.drew (some (w.heap.size+1)):=zak (zab _ _)
 obtain ⟨HW,HB4⟩:=zh2 hW hB1
 have HG:Hid (∀ {V:World},W1.grownBy V none→∀ A,w.grownBy (V.setRow (w.heap.size+1) A) none):=fun hV A=>zam (tn G1 hV) A (Or.inl (Nat.le_succ _))
 clear hW hW1 hW0 hB0 hB1 g0 g1 hs0 hs1 hBo hd hl hn G1
 go_enter Tryz.func40,Tryz.ntmps40
 go_upto_region 1 with (rw[← uh HW])
 refine wp_region_noPanic ?_
 refine wp_region_held_drew (S:=fun V=>W1.grownBy V (some (w.heap.size+1))) (by kernel_rfl) h0 (fun _ => ?_)
 refine tq 0 3 (.fieldAddr 42 (.tmp 1) 0) (.pointer (some ⟨w.heap.size,0,none⟩)) h0 ?_
 refine tz 1 4 (.load 3 (.tmp 3)) (.int .i64 k) h0 ?_ (y:=(Or.inl ⟨by rfl,fun V hV=>by (have hv1:=hV.cell hc0 (by simp);go_simp)⟩))
 refine tq 2 5 (.fieldAddr 42 (.tmp 1) 1) (.pointer (some ⟨w.heap.size,1,none⟩)) h0 ?_
 refine tz 3 6 (.load 37 (.tmp 5)) (.slice ao n c) h0 ?_ (y:=(Or.inl ⟨by rfl,fun V hV=>by (have hv1:=hV.cell hc1 (by simp);go_simp)⟩))
 (try simp only[pq])
 refine rd 4 (some 7) (.call { callee := .value (.func 71),args := #[(.tmp 6)],argTypes := #[37] }) (fun K9 hK9 => ?_)
 go_simp
 go_at_call 71
 refine (cc).mono ?_
 rintro e w2 ⟨v2,rfl,ho2,g2a⟩
 obtain ⟨a2,c2,rfl⟩:=zbd ho2
 have g2:=zaw (some (w.heap.size+1)) (tn (zak (zab W1 none)) g2a)
 go_wp2_with fail
 refine hK9.out _ _ g2 (fun _ => ?_)
 clear hK9 K9
 refine tz 5 8 (.build 42 #[(0,(.tmp 4)),(1,(.tmp 7))]) (.agg #[.int .i64 k,.slice a2 n c2]) g2 ?_ (y:=(zbe (by rfl) _ _ rfl _ (Eq.trans (b:=Tryz.prog.built 42 [(0,.int .i64 k),(1,.slice a2 n c2)]) (by kernel_rfl) (zit k a2 n c2))))
 (try simp only[pq])
 refine rd 6 none (.store 42 (.tmp 2) (.tmp 8)) (fun K9 hK9 => ?_)
 rw[if_pos (by rfl)]
 have hB4:=(uh HB4).kept (tn (zak (zab W1 none)) g2a) (by simp)
 refine wp_store_row _ _ _ rfl (w.heap.size+1) _ rfl rfl _ _ hB4 zav rfl (zcq rfl) ?_
 refine hK9.out _ _ (zam g2 _ (Or.inr rfl)) (fun _ => ?_)
 clear hK9 K9
 (try simp only[Act.put])
 refine wpAnyH_done (by kernel_rfl) ?_ _
 refine NoPanic.normal ?_
 clear cc hc0 hc1
 have hR:=hB4.row [.int .i64 k,.slice a2 n c2]
 go_wp2
 refine bodyPost_ret (results_cell_row rfl _ _ _ _ _ _ _ rfl hR Tryz.underlying42 rfl zav) rfl ?_
 exact ⟨_,rfl,za7 (zb3 ho2 hB4 (by decide) _) (Nat.le_add_right _ _),uh HG (tn (zak (zab W1 none)) g2a) _⟩
theorem SetS.put {S:List ObE} (h:SetS S) (k:Int) (d:List UInt8) (hc:zau k d=0) (hf:S.length<1000):SetS (putS S ⟨shaL (putL k d),k,d⟩):=by
 refine ⟨zkk h.ris _,fun e he => ?_,fun e he => ?_,fun e he => ?_,Nat.le_trans (zn6 _ _) hf⟩ <;> rcases (zdw h.ris _ e).1 he with rfl | ⟨h1,_⟩
 ·exact zbc _
 ·exact h.len e h1
 ·rfl
 ·exact h.is e h1
 ·exact hc
 ·exact h.ok e h1
theorem SetS.drop {S:List ObE} (h:SetS S) (x:List UInt8):SetS (zmz S x) :=
 ⟨zse h.ris x,fun e he=>h.len e ((zgg S x e).1 he).1,fun e he=>h.is e ((zgg S x e).1 he).1,fun e he=>h.ok e ((zgg S x e).1 he).1,Nat.le_trans (zsf S x) h.few⟩
theorem SetAt.store {u w:World} {sb mb:Nat} {S:List ObE} (h:SetAt u w sb mb S) (k:Int) (ao:Option Addr) (c:Nat) (d:List UInt8) (hd:Dat w ao c d) (hc:zau k d=0) (hf:S.length<1000) :
  ∃ w',(Instr.mapUpdate 85 (.map (some mb)) (keyV (shaL (putL k d))) (.agg #[.int .i64 k,.slice ao d.length c])).run Tryz.prog w = .ok () w'∧SetAt u w' sb mb (putS S ⟨shaL (putL k d),k,d⟩)∧w.grownBy w' (some mb):=by
 obtain ⟨R,m1,m2,m3⟩:=h.map
 obtain ⟨w',hr,hm,hg,_⟩:=m1.store 85 42 Tryz.underlying85 (shaL (putL k d)) (zbc _) (.agg #[.int .i64 k,.slice ao d.length c])
 refine ⟨w',hr,⟨h.ns,h.nm,h.blk.kept hg (fun e=>h.ne (by cases e;rfl)),?_,h.ok.put k d hc hf⟩,hg⟩
 obtain ⟨I,hI⟩:∃ I,I=shaL (putL k d):=⟨_,rfl⟩
 rw[← hI] at hm ⊢
 have hdk:∀ ao c d,Dat w ao c d→Dat w' ao c d:=fun ao c d hD=>hD.kept hg (fun x e=>by cases e;exact m1.typ)
 have hrid:∀ r∈R,r.e∈S:=fun r hr=>(m2 r.e).1 (List.mem_map.2 ⟨r,hr,rfl⟩)
 by_cases hin:I∈(R.map fun r=>(r.e.id,obV r)).map (·.1)
 ·refine ⟨R.map fun r=>if r.e.id=I then ⟨⟨I,k,d⟩,ao,c⟩ else r,?_,fun e => ?_,fun r hr => ?_⟩
  ·have:(R.map fun r=>if r.e.id=I then (⟨⟨I,k,d⟩,ao,c⟩:ObR) else r).map (fun r=>(r.e.id,obV r))=putK (R.map fun r=>(r.e.id,obV r)) I (.agg #[.int .i64 k,.slice ao d.length c]):=by
    unfold putK
    rw[if_pos hin,List.map_map,List.map_map]
    apply List.map_congr_left
    intro r _
    simp only[Function.comp]
    split <;> rfl
   rw[this]
   exact hm
  ·rw[zdw h.ok.ris,List.map_map]
   constructor
   ·intro he
    obtain ⟨r,hr,rfl⟩:=List.mem_map.1 he
    simp only[Function.comp]
    split
    ·exact Or.inl rfl
    ·rename_i hne
     exact Or.inr ⟨hrid r hr,hne⟩
   ·rintro (rfl | ⟨h1,h2⟩)
    ·rw[List.map_map] at hin
     obtain ⟨r,hr,he⟩:=List.mem_map.1 hin
     exact List.mem_map.2 ⟨r,hr,by simp only[Function.comp] at he ⊢;rw[if_pos he]⟩
    ·obtain ⟨r,hr,rfl⟩:=List.mem_map.1 ((m2 e).2 h1)
     exact List.mem_map.2 ⟨r,hr,by simp only[Function.comp];rw[if_neg h2]⟩
  ·obtain ⟨r',hr',rfl⟩:=List.mem_map.1 hr
   split
   ·exact hdk _ _ _ hd
   ·exact hdk _ _ _ (m3 r' hr')
 ·refine ⟨R++[⟨⟨I,k,d⟩,ao,c⟩],?_,fun e => ?_,fun r hr => ?_⟩
  ·have:(R++[(⟨⟨I,k,d⟩,ao,c⟩:ObR)]).map (fun r=>(r.e.id,obV r))=putK (R.map fun r=>(r.e.id,obV r)) I (.agg #[.int .i64 k,.slice ao d.length c]):=by
    unfold putK
    rw[if_neg hin,List.map_append]
    rfl
   rw[this]
   exact hm
  ·rw[zdw h.ok.ris,List.map_append,List.mem_append]
   constructor
   ·rintro (he | he)
    ·obtain ⟨r,hr,rfl⟩:=List.mem_map.1 he
     exact Or.inr ⟨hrid r hr,fun e2=>hin (by rw[List.map_map];exact List.mem_map.2 ⟨r,hr,e2⟩)⟩
    ·exact Or.inl (by simpa using he)
   ·rintro (rfl | ⟨h1,h2⟩)
    ·exact Or.inr (by simp)
    ·exact Or.inl ((m2 e).2 h1)
  ·rcases List.mem_append.1 hr with hr | hr
   ·exact hdk _ _ _ (m3 r hr)
   ·rw[List.mem_singleton.1 hr]
    exact hdk _ _ _ hd
theorem SetAt.delete {u w:World} {sb mb:Nat} {S:List ObE} (h:SetAt u w sb mb S) (x:List UInt8) (hx:x.length=32) (U:TypeId) :
  ∃ w',(Builtin.delete_ #[85,33] U #[.map (some mb),keyV x]).run Tryz.prog w = .ok (.tuple #[]) w'∧SetAt u w' sb mb (zmz S x)∧w.grownBy w' (some mb):=by
 obtain ⟨R,m1,m2,m3⟩:=h.map
 obtain ⟨w',hr,hm,hg,_⟩:=m1.del 85 42 U #[85,33] rfl Tryz.underlying85 x hx
 refine ⟨w',hr,⟨h.ns,h.nm,h.blk.kept hg (fun e=>h.ne (by cases e;rfl)),⟨R.filter fun r=>r.e.id != x,?_,fun e => ?_,fun r hr => ?_⟩,h.ok.drop x⟩,hg⟩
 ·have:(R.filter fun r=>r.e.id != x).map (fun r=>(r.e.id,obV r))=delK (R.map fun r=>(r.e.id,obV r)) x:=by
   unfold delK
   rw[List.filter_map]
   rfl
  rw[this]
  exact hm
 ·rw[zgg]
  constructor
  ·intro he
   obtain ⟨r,hr,rfl⟩:=List.mem_map.1 he
   rw[List.mem_filter] at hr
   exact ⟨(m2 r.e).1 (List.mem_map.2 ⟨r,hr.1,rfl⟩),by simpa using hr.2⟩
  ·rintro ⟨h1,h2⟩
   obtain ⟨r,hr,rfl⟩:=List.mem_map.1 ((m2 e).2 h1)
   exact List.mem_map.2 ⟨r,List.mem_filter.2 ⟨hr,by simpa using h2⟩,rfl⟩
 ·exact (m3 r (List.mem_filter.1 hr).1).kept hg (fun x e=>by cases e;exact m1.typ)
set_option maxHeartbeats 2000000 in
theorem zm2 (u w:World) (sb mb:Nat) (S:List ObE) (h:SetAt u w sb mb S) (k:Int) (ao:Option Addr) (c:Nat) (d:List UInt8) (hd:Dat w ao c d) (hc:zau k d=0) (hf:S.length<1000) (hT:Tabs w) :
  Calls Tryz.prog 32 #[.pointer (some ⟨sb,0,none⟩),.agg #[.int .i64 k,.slice ao d.length c]] w fun e w'=>e = .returned (.tuple #[keyV (shaL (putL k d)),.int .i64 0])∧SetAt u w' sb mb (putS S ⟨shaL (putL k d),k,d⟩)∧w.grownBy w' (some mb):=by
 have hsm:=zfr hc
 obtain ⟨n,hn⟩:∃ n,n=d.length:=⟨_,rfl⟩
 obtain ⟨Z,hZ,hzv⟩:=zdo
 obtain ⟨W0,hW0,hB0,g0⟩:∃ W,W=w.alloc (.cells #[.int .i64 k,.slice ao n c] 42)∧Blk W w.heap.size 42 [.int .i64 k,.slice ao n c]∧w.grownBy W none:=zag w _ _
 obtain ⟨W1,hW1,hB1,g1⟩:∃ W,W=W0.alloc (.cells Z 33)∧Blk W W0.heap.size 33 Z.toList∧W0.grownBy W none:=by
  obtain ⟨W1,h1,h2,h3⟩:=zag W0 33 Z.toList
  exact ⟨W1,by simpa using h1,h2,h3⟩
 have hs0:W0.heap.size=w.heap.size+1:=by rw[hW0];simp
 rw[hs0] at hB1
 have G1:=tn g0 g1
 have hBo:=hB0.kept g1 (by simp)
 have hr1:=zal hBo
 have hW:W1=(w.alloc (.cells #[.int .i64 k,.slice ao n c] 42)).alloc (.cells Z 33):=by rw[hW1,hW0]
 have h1:=h.none G1
 have c1:=zgh W1 sb mb h1.cell
 have ck:=zlm W1 k ao c d (hd.none G1).bts
 rw[hc,← hn] at ck
 obtain ⟨IB,hIB⟩:∃ IB,IB=(shaL (putL k d)).map bv:=⟨_,rfl⟩
 have hIl:IB.length=32:=by rw[hIB,List.length_map];exact zbc _
 have hIo:IB.toArray.all (·.oneCell')=true:=by rw[hIB];exact all_oneCell_toArray (za6 _)
 have hiI:(Tryz.prog.info? 33).map (·.size)=some IB.length:=by rw[hIl];exact zat
 have hiI2:(Tryz.prog.info? 33).map (·.size)=some IB.toArray.size:=by simpa using hiI
 have hZI:Z.size=IB.toArray.size:=by simp[hZ,hIl]
 have hkv:keyV (shaL (putL k d)) = .agg IB.toArray:=by rw[hIB];rfl
 have cid:∀ V,W1.grownBy V none→Calls Tryz.prog 33 #[.agg #[.int .i64 k,.slice ao n c]] V fun e w'=>e = .returned (.agg IB.toArray)∧V.grownBy w' none:=fun V hV=>by
  have:=zsa V k ao c d (hd.none (tn G1 hV)).bts (by omega) (hT.kept0 (tn G1 hV))
  rw[← hn,← hIB] at this
  exact this
 have hnew:∀ V:World,∃ W,W=(V.alloc (.cells Z 33)).setRow V.heap.size IB.toArray∧Blk W V.heap.size 33 IB∧V.grownBy W none:=fun V=>zbl V 33 Z IB
 rw[hkv,← hn]
 obtain ⟨HW,HII,HII2,HIO,HZI,HN⟩:=zh6 hW hiI hiI2 hIo hZI hn
 obtain ⟨HKV,HB1,HBO,HS⟩:=zh4 hkv hB1 hBo h1
 have HLT:Hid (w.heap.size+1<W1.heap.size):=hB1.lt
 clear hW hW1 hW0 hB0 hB1 g0 g1 hs0 hIl hIo hiI hiI2 hZI hn hkv hBo h1 hT h hZ hIB
 go_enter Tryz.func32,Tryz.ntmps32
 go_wp2_with (first
  | (go_at_call 37;refine c1.mono ?_;rintro e w2 ⟨rfl,e2⟩;subst w2;clear c1)
  | (refine wpList_load_mid rfl 42 _ rfl w.heap.size 0 rfl [Value.int IntKind.i64 k,Value.slice ao n c] _ hr1 Tryz.underlying42 rfl zav ?_;clear hr1)
  | rw[← uh HW])
 refine ck.mono ?_
 rintro e w2 ⟨rfl,g2⟩
 have hr2:=zal ((uh HBO).kept g2 (by simp))
 have cI:=cid w2 g2
 clear ck cid
 go_wp2_with (refine wpList_load_mid rfl 42 _ rfl w.heap.size 0 rfl [Value.int IntKind.i64 k,Value.slice ao n c] _ hr2 Tryz.underlying42 rfl zav ?_;clear hr2)
 refine cI.mono ?_
 rintro e w3 ⟨rfl,g3⟩
 obtain ⟨W3,hW3,hB3,g3b⟩:=hnew w3
 have G3:=tn (tn g2 g3) g3b
 have hB7:Blk (w3.alloc (.cells Z 33)) w3.heap.size 33 Z.toList:=by simpa using Blk.new w3 33 Z.toList
 clear cI hnew
 obtain ⟨HW3,HB7⟩:=zh2 hW3 hB7
 clear hW3 hB7
 go_upto_region 7 with (first
  | (have hB9:=uh HB7;refine wpList_store_row rfl 33 _ _ rfl w3.heap.size IB.toArray rfl rfl _ _ hB9 (uh HII2) (by simpa using uh HZI) (uh HIO) ?_;clear hB9))
 rw[← uh HW3]
 have hS3:=(uh HS).none G3
 have hc3:=hS3.cell
 have hrI:=zal hB3
 have hrO:=zal ((uh HBO).kept G3 (by simp))
 have hNS:some sb≠some mb:=fun e=>hS3.ne (by cases e;rfl)
 have hNI:some w3.heap.size≠some mb:=fun e=>by
  obtain ⟨R,m1,_⟩:=hS3.map
  exact m1.blk hB3 (by cases e;rfl)
 have hNO:some w.heap.size≠some mb:=fun e=>by
  obtain ⟨R,m1,_⟩:=hS3.map
  exact m1.blk ((uh HBO).kept G3 (by simp)) (by cases e;rfl)
 have hN1:some (w.heap.size+1)≠some mb:=fun e=>by
  obtain ⟨R,m1,_⟩:=hS3.map
  exact m1.blk ((uh HB1).kept G3 (by simp)) (by cases e;rfl)
 have hd3:=hd.none (tn G1 G3)
 have cc:Calls Tryz.prog 40 #[.agg #[.int .i64 k,.slice ao n c]] W3.drew fun e w'=>∃ a4 c4,e = .returned (.agg #[.int .i64 k,.slice a4 n c4])∧Dat w' a4 c4 d∧W3.drew.grownBy w' none:=by
  have:=zp8 W3.drew k ao c d (hd3.none (zak (zab _ _))).bts (by omega)
  rw[← uh HN] at this
  refine this.mono ?_
  rintro e w' ⟨v,h1,h2,h3⟩
  obtain ⟨a4,c4,rfl,h5⟩:=zxx (by rw[← uh HN];exact h2)
  exact ⟨a4,c4,by rw[h1,uh HN],h5,h3⟩
 have HMU:Hid (∀ w4 a4 c4,W3.drew.grownBy w4 none→Dat w4 a4 c4 d→∃ w5,(Instr.mapUpdate 85 (.map (some mb)) (.agg IB.toArray) (.agg #[.int .i64 k,.slice a4 n c4])).run Tryz.prog w4 = .ok () w5∧W3.grownBy w5 (some mb)∧SetAt u w5 sb mb (putS S ⟨shaL (putL k d),k,d⟩)):=by
  intro w4 a4 c4 g4 hD4
  have g4' : W3.grownBy w4 none:=tn (zak (zab _ _)) g4
  obtain ⟨w5,q1,q2,q3⟩:=(hS3.none g4').store k a4 c4 d hD4 hc hf
  exact ⟨w5,by rw[← uh HKV,uh HN];exact q1,zae (zaw _ g4') q3 (fun _ e=>Or.inr e),q2⟩
 have h0:W3.grownBy W3.drew (some mb):=zak (zab _ _)
 obtain ⟨HNS,HNI,HNO,HN1⟩:=zh4 hNS hNI hNO hN1
 have HG:Hid (∀ V,W3.grownBy V (some mb)→w.grownBy (V.setRow (w.heap.size+1) IB.toArray) (some mb)):=fun V hV=>zam (zae (zaw _ (tn G1 G3)) hV (fun _ e=>Or.inr e)) _ (Or.inl (Nat.le_succ _))
 clear hNS hNI hNO hN1 hS3 hd3 g2 g3 hd hc hf hsm
 refine wp_region_noPanic ?_
 refine wp_region_held_drew (S:=fun V=>W3.grownBy V (some mb)) (by kernel_rfl) h0 (fun _ => ?_)
 refine tq 0 20 (.move (.tmp 0)) (.pointer (some ⟨sb,0,none⟩)) h0 ?_
 refine tq 1 21 (.nilCheck (.tmp 20)) (.pointer (some ⟨sb,0,none⟩)) h0 ?_
 refine tq 2 22 (.fieldAddr 88 (.tmp 21) 0) (.pointer (some ⟨sb,0,none⟩)) h0 ?_
 refine tz 3 23 (.load 85 (.tmp 22)) (.map (some mb)) h0 ?_ (y:=(Or.inl ⟨by rfl,fun V hV=>by (have hv1:=hV.cell hc3 (uh HNS);go_simp)⟩))
 (try simp only[pq])
 refine tz 4 24 (.load 33 (.tmp 7)) (.agg IB.toArray) h0 ?_ (y:=(yieldsIf_load_mid (by rfl) _ _ rfl _ _ rfl IB _ (fun V hV=>zaf hrI hV (uh HNI)) Tryz.underlying33 rfl (uh HII)))
 refine tz 5 25 (.load 42 (.tmp 3)) (.agg [Value.int IntKind.i64 k,Value.slice ao n c].toArray) h0 ?_ (y:=(yieldsIf_load_mid (by rfl) _ _ rfl _ _ rfl [Value.int IntKind.i64 k,Value.slice ao n c] _ (fun V hV=>zaf hrO hV (uh HNO)) Tryz.underlying42 rfl zav))
 (try simp only[pq])
 refine rd 6 (some 26) (.call { callee := .value (.func 40),args := #[(.tmp 25)],argTypes := #[42] }) (fun K9 hK9 => ?_)
 go_simp
 go_at_call 40
 refine (cc).mono ?_
 rintro e w4 ⟨a4,c4,rfl,hD4,g4a⟩
 have g4:=zaw (some mb) (tn (zak (zab W3 none)) g4a)
 obtain ⟨w5,hrun,hfin⟩:=uh HMU w4 a4 c4 g4a hD4
 clear g4a
 go_wp2_with fail
 refine hK9.out _ _ g4 (fun _ => ?_)
 clear hK9 K9
 (try simp only[pq])
 refine rd 7 none (.mapUpdate 85 (.tmp 23) (.tmp 24) (.tmp 26)) (fun K9 hK9 => ?_)
 go_simp
 refine hK9.out _ _ hfin.1 (fun _ => ?_)
 clear hK9 K9
 (try simp only[pq])
 refine wpAnyH_done (by kernel_rfl) ?_ _
 refine NoPanic.normal ?_
 obtain ⟨h5,hS5⟩:=hfin
 have hr5:w5.rangeAt w3.heap.size 0 IB:=zaf hrI h5 (uh HNI)
 have hB5:=((uh HB1).kept G3 (by simp)).kept h5 (uh HN1)
 clear hrun cc hrI hrO hc3
 go_wp2_with (first
  | (refine wpList_load_mid rfl 33 _ rfl w3.heap.size 0 rfl IB _ hr5 Tryz.underlying33 rfl (uh HII) ?_;clear hr5)
  | (refine wpList_store_row rfl 33 _ _ rfl (w.heap.size+1) IB.toArray rfl rfl _ _ hB5 (uh HII2) (by simpa using uh HZI) (uh HIO) ?_))
 refine bodyPost_ret (zai rfl _ _ _ _ _ _ _ rfl (hB5.row IB) Tryz.underlying33 rfl (uh HII2)) rfl ?_
 refine ⟨rfl,hS5.kept (zam (zab _ (some (w.heap.size+1))) _ (Or.inr rfl)) (fun e => ?_) (fun e=>uh HN1 e.symm) (fun x e => ?_),uh HG w5 h5⟩
 ·exact zsi hS5.blk hB5 (by decide) (by cases e;rfl)
 ·cases e
  exact hB5.typ (by decide)
def zlq:List UInt8:=List.replicate 32 0
theorem zxy (w:World):(zeroValue 33).run Tryz.prog w = .ok (keyV zlq) w:=by kernel_rfl
theorem zsr:Tryz.prog.built 33 []=some (zlq.map bv).toArray:=by kernel_rfl
set_option maxHeartbeats 2000000 in
theorem zvq (u w:World) (sb mb:Nat) (S:List ObE) (h:SetAt u w sb mb S) (k:Int) (ao:Option Addr) (c:Nat) (d:List UInt8) (hd:Bts w ao c d) (hc:zau k d≠0) :
  Calls Tryz.prog 32 #[.pointer (some ⟨sb,0,none⟩),.agg #[.int .i64 k,.slice ao d.length c]] w fun e w'=>e = .returned (.tuple #[keyV zlq,.int .i64 (zau k d)])∧w.grownBy w' none:=by
 obtain ⟨n,hn⟩:∃ n,n=d.length:=⟨_,rfl⟩
 obtain ⟨ZB,hZB⟩:∃ ZB,ZB=zlq.map bv:=⟨_,rfl⟩
 have hzv:∀ w,(zeroValue 33).run Tryz.prog w = .ok (.agg ZB.toArray) w:=fun w=>by rw[hZB];exact zxy w
 have hzb:Tryz.prog.built 33 []=some ZB.toArray:=by rw[hZB];exact zsr
 have hiZ:(Tryz.prog.info? 33).map (·.size)=some ZB.toArray.size:=by rw[hZB];exact zat
 have hZo:ZB.toArray.all (·.oneCell')=true:=by rw[hZB];exact all_oneCell_toArray (za6 _)
 obtain ⟨W0,hW0,hB0,g0⟩:∃ W,W=w.alloc (.cells #[.int .i64 k,.slice ao n c] 42)∧Blk W w.heap.size 42 [.int .i64 k,.slice ao n c]∧w.grownBy W none:=zag w _ _
 obtain ⟨W1,hW1,hB1,g1⟩:=zag W0 33 ZB
 have hs0:W0.heap.size=w.heap.size+1:=by rw[hW0];simp
 rw[hs0] at hB1
 have G1:=tn g0 g1
 have hBo:=hB0.kept g1 (by simp)
 have hr1:=zal hBo
 have hW:W1=(w.alloc (.cells #[.int .i64 k,.slice ao n c] 42)).alloc (.cells ZB.toArray 33):=by rw[hW1,hW0]
 have h1:=h.none G1
 have c1:=zgh W1 sb mb h1.cell
 have ck:=zlm W1 k ao c d (hd.kept G1 (fun _ e=>by cases e))
 rw[← hn] at ck
 rw[← hn]
 obtain ⟨y,hy⟩:∃ y,y=zau k d:=⟨_,rfl⟩
 rw[← hy] at ck hc ⊢
 have hy0:(y != 0)=true:=by simpa using hc
 rw[show keyV zlq = .agg ZB.toArray by rw[hZB];rfl]
 obtain ⟨HW,HIZ,HZO,HZB,HB1⟩:=zh5 hW hiZ hZo hzb hB1
 clear hW hW1 hW0 hB0 hB1 g0 g1 hs0 hiZ hZo hzb hn hBo h1 h hZB hy hc hd
 go_enter Tryz.func32,Tryz.ntmps32
 go_wp2_with (first
  | (go_at_call 37;refine c1.mono ?_;rintro e w2 ⟨rfl,e2⟩;subst w2;clear c1)
  | (refine wpList_load_mid rfl 42 _ rfl w.heap.size 0 rfl [Value.int IntKind.i64 k,Value.slice ao n c] _ hr1 Tryz.underlying42 rfl zav ?_;clear hr1)
  | rw[← uh HW])
 refine ck.mono ?_
 rintro e w2 ⟨rfl,g2⟩
 have hB5:=(uh HB1).kept g2 (by simp)
 clear ck
 go_wp2_with (first
  | (refine za4 rfl 33 _ rfl ZB.toArray ?hbs ?_)
  | (refine wpList_store_row rfl 33 _ _ rfl (w.heap.size+1) ZB.toArray rfl rfl _ _ hB5 (uh HIZ) rfl (uh HZO) ?_))
 case hbs=>simpa using uh HZB
 refine bodyPost_ret (zai rfl _ _ _ _ _ _ _ rfl (hB5.row ZB) Tryz.underlying33 rfl (uh HIZ)) rfl ?_
 exact ⟨rfl,zam (tn G1 g2) _ (Or.inl (Nat.le_succ _))⟩
theorem zss (w:World) (po:Option Addr) (S:List ObE) (h:Sat w po S) (x:List UInt8) (hx:x.length=32) :
  Calls Tryz.prog 47 #[.pointer po,keyV x] w fun e w'=>∃ v,e = .returned v∧w'.ownsRow w.heap.size 33 32 v (nxS S x).length ((nxS S x).flatMap (·.map bv))∧w.grownBy w' none:=by
 obtain ⟨KB,hKB⟩:∃ KB,KB=x.map bv:=⟨_,rfl⟩
 have hKl:KB.length=32:=by rw[hKB];simp[hx]
 have hkv:keyV x = .agg KB.toArray:=by rw[hKB];rfl
 obtain ⟨W1,hW1,hB1,g1⟩:=zag w 33 KB
 have hr1:=zal hB1
 have hiK:(Tryz.prog.info? 33).map (·.size)=some KB.length:=by rw[hKl];exact zat
 have ca:=zsq W1 po S (h.none g1) x hx
 rw[hkv] at ca ⊢
 obtain ⟨HW1,HIK⟩:=zh2 hW1 hiK
 clear hW1 hB1 hKB hKl hiK hkv h hx
 go_enter Tryz.func47,Tryz.ntmps47
 go_wp2_with (first
  | (rw[← uh HW1];refine wpList_load_mid rfl 33 _ rfl w.heap.size 0 rfl KB _ hr1 Tryz.underlying33 rfl (uh HIK) ?_;clear hr1))
 refine ca.mono ?_
 rintro e w2 ⟨k,ao,c,d,rfl,hat,hD,g2⟩
 have cl:=zp4 w2 k ao c d (hD.none g2).bts
 rw[hat.links] at cl
 clear ca
 go_wp2_with fail
 refine cl.mono ?_
 rintro e w3 ⟨v,rfl,ho,g3⟩
 have HO:=hide ho
 clear cl ho
 go_wp2
 go_ret
 exact ⟨v,rfl,za7 (uh HO) (tn g1 g2).size,tn (tn g1 g2) g3⟩
set_option maxHeartbeats 2000000 in
theorem zm3 (w:World) (po:Option Addr) (S:List ObE) (h:Sat w po S) (x:List UInt8) (hx:x.length=32) :
  Calls Tryz.prog 52 #[.pointer po,keyV x] w fun e w'=>∃ v,e = .returned v∧w'.ownsRow w.heap.size 33 32 v (prS S x).length ((prS S x).flatMap (·.map bv))∧w.grownBy w' none:=by
 obtain ⟨KB,hKB⟩:∃ KB,KB=x.map bv:=⟨_,rfl⟩
 have hKl:KB.length=32:=by rw[hKB];simp[hx]
 have hkv:keyV x = .agg KB.toArray:=by rw[hKB];rfl
 obtain ⟨W1,hW1,hB1,g1⟩:=zag w 33 KB
 have hr1:=zal hB1
 have hiK:(Tryz.prog.info? 33).map (·.size)=some KB.length:=by rw[hKl];exact zat
 have ca:=zsq W1 po S (h.none g1) x hx
 rw[hkv] at ca ⊢
 have hok:=h.ok
 obtain ⟨Z,hZ,hzv⟩:=zj7
 obtain ⟨HW1,HIK⟩:=zh2 hW1 hiK
 clear hW1 hB1 hKB hKl hiK hkv h hx
 go_enter Tryz.func52,Tryz.ntmps52
 go_wp2_with (first
  | (rw[← uh HW1];refine wpList_load_mid rfl 33 _ rfl w.heap.size 0 rfl KB _ hr1 Tryz.underlying33 rfl (uh HIK) ?_;clear hr1))
 refine ca.mono ?_
 rintro e w2 ⟨k,ao,c,d,rfl,hat,hD,g2⟩
 have cl:=zdc w2 k ao c d (hD.none g2).bts (by have:=hat.small hok;omega)
 clear ca
 go_wp2_with fail
 refine cl.mono ?_
 rintro e w3 ⟨po3,pc3,y3,rfl,hy3,ho,g3⟩
 obtain ⟨C,hC⟩:∃ C,C=chC (telC k d).2 po3 pc3:=⟨_,rfl⟩
 have htl:(telC k d).2.tree.length=32:=by
  unfold telC
  split
  ·split
   ·exact (zdh d).1
   ·rfl
  ·rfl
 have hCl:C.length=36:=by rw[hC];exact zd0 _ _ _ htl
 have hCo:C.toArray.all (·.oneCell')=true:=by rw[hC];exact all_oneCell_toArray (zeg _ _ _)
 have hc32:C[32]? = some (.slice po3 (telC k d).2.pars.length pc3):=by rw[hC];exact (zev _ _ _ htl).1
 rw[hat.pars] at ho hc32
 rw[← hC]
 obtain ⟨W4,hW4,hB4,g4⟩:=zbl w3 70 Z C
 have hBZ:Blk (w3.alloc (.cells Z 70)) w3.heap.size 70 Z.toList:=by simpa using Blk.new w3 70 Z.toList
 have hc4:W4.cell? ⟨w3.heap.size,32,none⟩=some (.slice po3 (prS S x).length pc3):=by rw[hB4.cell];exact hc32
 have hiC:(Tryz.prog.info? 70).map (·.size)=some C.toArray.size:=by rw[show C.toArray.size=36 by simpa using hCl];exact zbv
 have hZC:Z.toList.toArray.size=C.toArray.size:=by simp[hZ,hCl]
 obtain ⟨HI,HZC,HCO,HBZ,HW4,HO⟩:=zh6 hiC hZC hCo hBZ hW4 ho
 clear cl ho hC htl hCl hCo hc32 hB4 hBZ hW4 hiC hZC hy3 hZ
 go_wp2_with (first
  | (have hB9:=uh HBZ;refine wpList_store_row rfl 70 _ _ rfl w3.heap.size C.toArray rfl rfl _ _ hB9 (uh HI) (uh HZC) (uh HCO) ?_;clear hB9;rw[← uh HW4]))
 go_ret
 have ho4:=zbg (za7 (uh HO) (tn g1 g2).size) g4 (fun _ e=>by cases e)
 exact ⟨_,rfl,ho4,tn (tn (tn g1 g2) g3) g4⟩
end Go.Proofs.YthhnfloohbdaiaaGreatDoor
