/- Lemmas. -/
import Derived.Test.YtoilcpdhhlcidaaGreatDoorIRange
namespace Go.Proofs.YtoilcpdhhlcidaaGreatDoor
open Go.RowKit
theorem znd (w:World):(Go.sizeOf 95).run Tryz.prog w = .ok 256 w:=by kernel_rfl
set_option maxRecDepth 100000 in
set_option maxHeartbeats 4000000 in
theorem zlh (w:World) (d m:Nat) (K:List (Nat × Value)) (hd:w.cell? ⟨d,2,none⟩=some (.map (some m))) (hdm:d≠m) (hM:ImapAt w m K) (i b o k c:Nat) (hget:getI K i=some (.slice (some ⟨b,o,none⟩) (k+1) c)) (hc:k+1≤c) (EB:List Value) (hEl:EB.length=256) (hE1:∀ u∈EB,u.oneCell'=true) (hr:w.rangeAt b o EB) (hbm:b≠m) :
  Calls Tryz.prog 69 #[.pointer (some ⟨d,0,none⟩),.int .i64 (i:Int)] w fun e w'=>e = .returned (.agg EB.toArray)∧ImapAt w' m (if k=0 then delI K i else putI K i (.slice (cutK (some ⟨b,o,none⟩) c 1 256) k (c - 1)))∧w.grownBy w' (some m):=by
 obtain ⟨Z,hZ,hzv⟩:=zd1
 have hEo:EB.toArray.all (·.oneCell')=true:=all_oneCell_toArray hE1
 have hiE:(Tryz.prog.info? 95).map (·.size)=some EB.length:=by rw[hEl];exact zc0
 have hiE2:(Tryz.prog.info? 95).map (·.size)=some EB.toArray.size:=by rw[List.size_toArray];exact hiE
 have hZE:Z.toList.toArray.size=EB.toArray.size:=by simp[hZ,hEl]
 obtain ⟨W1,hW1⟩:∃ W,W=w.alloc (.cells Z 95):=⟨_,rfl⟩
 have hBZ:Blk W1 w.heap.size 95 Z.toList:=by rw[hW1];simpa using Blk.new w 95 Z.toList
 have g1:w.grownBy W1 none:=by rw[hW1];exact zad (zaa _ _) _
 have hM1:=hM.none g1
 have hd1:=g1.cell hd (by simp)
 have hr1:=zak hr g1 (by simp)
 have hqm:some w.heap.size≠some m:=fun e=>hM1.blk hBZ (by cases e;rfl)
 have hlk:=hM1.look 75 74 Tryz.underlying75 (.slice none 0 0) (zd2 W1) i false
 rw[hget] at hlk
 unfold keyN at hlk
 simp only[Bool.false_eq_true,if_false,Option.getD_some] at hlk
 obtain ⟨HIE,HIE2,HZE,HEO,HW1⟩:=zh5 hiE hiE2 hZE hEo hW1
 by_cases hk:k=0
 ·subst hk
  rw[if_pos rfl]
  obtain ⟨W2,hdel,hM2,g2,-⟩:=hM1.del 75 74 0 #[75,3] rfl Tryz.underlying75 i
  have hdl:∀ U,(Builtin.delete_ #[75,3] U #[.map (some m),.int .i64 (i:Int)]).run Tryz.prog W1 = .ok (.tuple #[]) W2:=fun U=>hdel
  have hB2:=hBZ.kept g2 hqm
  have hr2:=zak hr1 g2 (fun e=>hbm (by cases e;rfl))
  have G2:w.grownBy W2 (some m):=zae (zaq _ g1) g2 (fun _ e=>Or.inr e)
  have hfin:ImapAt (W2.setRow w.heap.size EB.toArray) m (delI K i)∧w.grownBy (W2.setRow w.heap.size EB.toArray) (some m) :=
   ⟨hM2.kept (zai (zaa W2 (some w.heap.size)) _ (Or.inr rfl)) (Ne.symm hqm),zai G2 _ (Or.inl (Nat.le_refl _))⟩
  obtain ⟨HF,HB2⟩:=zh2 hfin hB2
  clear hiE hiE2 hZE hEo hW1 hBZ hM hM1 hM2 hd hr hr1 hE1 hZ g1 g2 G2 hB2 hfin hget hqm hdel hEl hbm hc
  go_enter Tryz.func69,Tryz.ntmps69
  go_wp2_with (first
   | rw[← uh HW1]
   | (refine wpList_load_mid rfl 95 _ rfl b o rfl EB _ hr2 Tryz.underlying95 rfl (uh HIE) ?_;clear hr2)
   | (have hB9:=uh HB2;refine wpList_store_row rfl 95 _ _ rfl w.heap.size EB.toArray rfl rfl _ _ hB9 (uh HIE2) (uh HZE) (uh HEO) ?_;clear hB9))
  refine bodyPost_ret (results_cell_row rfl _ _ _ _ _ _ _ rfl ((uh HB2).row EB) Tryz.underlying95 rfl (uh HIE2)) rfl ?_
  exact ⟨rfl,uh HF⟩
 ·rw[if_neg hk]
  have gd:W1.grownBy W1.drew none:=zab (zaa _ _)
  have hsl:∀ V:World,(Instr.slice 74 (.slice (some ⟨b,o,none⟩) (k+1) c) (some (.int .i64 ((1:Nat):Int))) none none).run Tryz.prog V = .ok (.slice (cutK (some ⟨b,o,none⟩) c 1 256) (k+1 - 1) (c - 1)) V:=fun V=>zi5 V 74 95 256 Tryz.underlying74 znd (some ⟨b,o,none⟩) (k+1) c 1 (by omega)
  rw[Nat.add_sub_cancel] at hsl
  obtain ⟨v1,hv1⟩:∃ v,v=Value.slice (cutK (some ⟨b,o,none⟩) c 1 256) k (c - 1):=⟨_,rfl⟩
  rw[← hv1] at hsl ⊢
  obtain ⟨W2,hup,hM2,g2,-⟩:=(hM1.none gd).store 75 74 Tryz.underlying75 i v1
  unfold keyN at hup
  have G12:W1.grownBy W2 (some m):=zae (zaq _ gd) g2 (fun _ e=>Or.inr e)
  have hB2:=hBZ.kept G12 hqm
  have hr2:=zak hr1 G12 (fun e=>hbm (by cases e;rfl))
  have G2:w.grownBy W2 (some m):=zae (zaq _ g1) G12 (fun _ e=>Or.inr e)
  have hfin:ImapAt (W2.setRow w.heap.size EB.toArray) m (putI K i v1)∧w.grownBy (W2.setRow w.heap.size EB.toArray) (some m) :=
   ⟨hM2.kept (zai (zaa W2 (some w.heap.size)) _ (Or.inr rfl)) (Ne.symm hqm),zai G2 _ (Or.inl (Nat.le_refl _))⟩
  have hS1:W1.drew.cell? ⟨d,2,none⟩=some (.map (some m)):=gd.cell hd1 (by simp)
  have hS2:W2.cell? ⟨d,2,none⟩=some (.map (some m)):=G12.cell hd1 (fun e=>hdm (by cases e;rfl))
  obtain ⟨HF,HB2,HS1,HS2⟩:=zh4 hfin hB2 hS1 hS2
  have hk1:decide (((k+1:Nat):Int)=1)=false:=by simp;omega
  have hk2:¬ ((k:Int)+1=1):=by omega
  have hk3:¬ (k+1=1):=by omega
  clear hv1 hiE hiE2 hZE hEo hW1 hBZ hM hM1 hM2 hd hr hr1 hE1 hZ g1 g2 G2 hB2 hfin hget hqm hEl hbm hc gd hS1 hS2 G12 hdm
  go_enter Tryz.func69,Tryz.ntmps69
  go_upto_region 4 with (rw[← uh HW1])
  refine wp_region_noPanic ?_
  refine wp_region_held_drew (S:=fun V=>V.cell? ⟨d,2,none⟩=some (.map (some m))) (by kernel_rfl) (uh HS1) (fun _ => ?_)
  refine tq 0 20 (.move (.tmp 0)) ((.pointer (some ⟨d,0,none⟩))) (uh HS1) ?_
  refine tq 1 21 (.nilCheck (.tmp 20)) ((.pointer (some ⟨d,0,none⟩))) (uh HS1) ?_
  refine tq 2 22 (.fieldAddr 77 (.tmp 21) 2) ((.pointer (some ⟨d,2,none⟩))) (uh HS1) ?_
  refine tz 3 23 (.load 75 (.tmp 22)) ((.map (some m))) (uh HS1) ?_ (y:=(Or.inl ⟨by rfl,fun V hV=>by (have hv2:=hV;go_simp)⟩))
  (try simp only[pq])
  refine tq 4 24 (.move (.tmp 1)) ((.int .i64 (i:Int))) (uh HS1) ?_
  refine tq 5 25 (.move (.tmp 5)) ((.slice (some ⟨b,o,none⟩) (k+1) c)) (uh HS1) ?_
  refine tz 6 26 (.slice 74 (.tmp 25) (some (.const (.int .i64 1))) none none) ((v1)) (uh HS1) ?_ (y:=(Or.inl ⟨by rfl,fun V hV=>by (have hs1:=hsl V;simp only[Int.natCast_one] at hs1;go_simp)⟩))
  (try simp only[pq])
  refine rdq 7 none (.mapUpdate 75 (.tmp 23) (.tmp 24) (.tmp 26)) (fun K9 hK9 => ?_)
  go_simp
  refine hK9.out _ _ (uh HS2) (fun _ => ?_)
  clear hK9 K9
  (try simp only[pq])
  refine wpAnyH_done (by kernel_rfl) ?_ _
  refine NoPanic.normal ?_
  clear hup
  go_wp2_with (first
   | (refine wpList_load_mid rfl 95 _ rfl b o rfl EB _ hr2 Tryz.underlying95 rfl (uh HIE) ?_;clear hr2)
   | (have hB9:=uh HB2;refine wpList_store_row rfl 95 _ _ rfl w.heap.size EB.toArray rfl rfl _ _ hB9 (uh HIE2) (uh HZE) (uh HEO) ?_;clear hB9))
  refine bodyPost_ret (results_cell_row rfl _ _ _ _ _ _ _ rfl ((uh HB2).row EB) Tryz.underlying95 rfl (uh HIE2)) rfl ?_
  exact ⟨rfl,uh HF⟩
structure DiskH (u:Nat) (w:World) (F:List Nat) (d s c m:Nat) (X:List Value) (ov:Value) (K:List (Nat × Value)) (S:List (List UInt8)) (O:List Nat) (U:List (Nat × List UInt8)) (l:Int) (b:Bool):Prop where
 blk:Blk w d 77 [.slice (some ⟨s,0,none⟩) S.length c,ov,.map (some m),.int .i64 l,.bool b]
 sec:Blk w s 95 (S.flatMap secC++X)
 fits:S.length≤c∧c≤maxLen
 ord:w.ownsRow u 3 1 ov O.length (O.map keyN)
 map:ImapAt w m K
 keys:∀ i,i∈K.map (·.1)↔i∈U.map (·.1)
 row:∀ p∈K,∃ b o c,p.2 = .slice (some ⟨b,o,none⟩) (zar U p.1).length c∧Rws w 256 secC (some ⟨b,o,none⟩) c (zar U p.1)∧b∈F∧b≠s∧b≠m
 inD:d∈F
 inS:s∈F
 inM:m∈F
 inO:∀ b,ov.ownBlock=some b→b∈F
 low:∀ x∈F,u≤x∧x<w.heap.size
 wide:∀ s∈S,s.length=256
 inn:∀ x∈U,x.1<S.length∧x.2.length=256
theorem DiskM.h {u:Nat} {w:World} {F:List Nat} {d s c m:Nat} {X:List Value} {ov:Value} {K:List (Nat × Value)} {D:Dsk} (h:DiskM u w F d s c m X ov K D):DiskH u w F d s c m X ov K D.safe (D.U.map (·.1)) D.U D.left D.down :=
 ⟨h.blk,h.sec,h.fits,h.g.ord,h.und.map,h.und.keys,fun p hp=>by
  obtain ⟨ao,cc,e,hR,_⟩:=Rws.own secC (h.und.row p hp) (fun x hx=>by rw[za4];exact (h.ok.inn _ (zcs hx)).2)
  have hne:zar D.U p.1≠[]:=zcf.2 ((h.und.keys p.1).1 (List.mem_map.2 ⟨p,hp,rfl⟩))
  obtain ⟨b,o,rfl,_⟩:=hR.at 0 (List.length_pos_iff.2 hne)
  have hb:=h.inK p hp b (by rw[e];rfl)
  exact ⟨b,o,cc,e,hR,hb.1,hb.2,fun e2=>h.und.map.own (h.und.row p hp) (by rw[e,← e2];rfl)⟩,h.inD,h.inS,h.inM,h.inO,h.low,h.ok.wide,h.ok.inn⟩
theorem Rws.off {α:Type} {w a:World} {K:Nat} {f:α→List Value} {ao:Option Addr} {c:Nat} {L:List α} {r:Option Nat} (h:Rws w K f ao c L) (g:w.grownBy a r) (hr:∀ ad,ao=some ad→some ad.block≠r):Rws a K f ao c L :=
 ⟨h.zip,h.fits,h.most,h.spot,fun ad e i hi=>zak (h.row ad e i hi) g (hr ad e)⟩
section
variable {u:Nat} {w a:World} {F:List Nat} {d s c m:Nat} {X:List Value} {ov:Value} {K:List (Nat × Value)} {S:List (List UInt8)} {O:List Nat} {U:List (Nat × List UInt8)} {l:Int} {b:Bool}
theorem DiskH.nn (h:DiskH u w F d s c m X ov K S O U l b) (g:w.grownBy a Option.none):DiskH u a F d s c m X ov K S O U l b :=
 ⟨h.blk.kept g (by simp),h.sec.kept g (by simp),h.fits,h.ord.kept g (by cases ov.ownBlock <;> simp),h.map.none g,h.keys,fun p hp=>by
  obtain ⟨b,o,c,e,hR,q⟩:=h.row p hp
  exact ⟨b,o,c,e,hR.kept g,q⟩,h.inD,h.inS,h.inM,h.inO,fun x hx=>⟨(h.low x hx).1,Nat.lt_of_lt_of_le (h.low x hx).2 g.size⟩,h.wide,h.inn⟩
theorem DiskH.m_d (h:DiskH u w F d s c m X ov K S O U l b):m≠d:=h.map.blk h.blk
theorem DiskH.m_s (h:DiskH u w F d s c m X ov K S O U l b):m≠s:=h.map.blk h.sec
theorem DiskH.d_s (h:DiskH u w F d s c m X ov K S O U l b):d≠s:=zl0 h.blk h.sec (by decide)
theorem DiskH.took {i:Nat} {t:List UInt8} (h:DiskH u w F d s c m X ov K S O ((i,t)::U) l b):∃ bb o cc,getI K i=some (.slice (some ⟨bb,o,none⟩) ((zar U i).length+1) cc)∧(zar U i).length+1≤cc∧w.rangeAt bb o (secC t)∧bb≠m ∧
  ∀ w',ImapAt w' m (if (zar U i).length=0 then delI K i else putI K i (.slice (cutK (some ⟨bb,o,none⟩) cc 1 256) (zar U i).length (cc - 1)))→w.grownBy w' (some m) →
    DiskH u w' F d s c m X ov (if (zar U i).length=0 then delI K i else putI K i (.slice (cutK (some ⟨bb,o,none⟩) cc 1 256) (zar U i).length (cc - 1))) S O U l b:=by
 have hk:i∈K.map (·.1):=(h.keys i).2 (by simp)
 obtain ⟨p,hp,hpi⟩:=List.mem_map.1 hk
 obtain ⟨bb,o,cc,e,hR,q1,q2,q3⟩:=h.row p hp
 have hpi' : p.1=i:=hpi
 rw[hpi',zge,if_pos rfl] at e hR
 rw[List.length_cons] at e
 have hg:getI K i=some (.slice (some ⟨bb,o,none⟩) ((zar U i).length+1) cc):=zl5 h.map.once (by rw[← e,← hpi'];exact hp)
 have hf:=hR.fits
 rw[List.length_cons] at hf
 have hr:=hR.row _ rfl 0 (by simp)
 simp only[Nat.zero_mul,Nat.add_zero,List.getElem_cons_zero] at hr
 refine ⟨bb,o,cc,hg,hf,hr,q3,fun w' hM g => ?_⟩
 have kd:some d≠some m:=fun e=>h.m_d (by cases e;rfl)
 have ks:some s≠some m:=fun e=>h.m_s (by cases e;rfl)
 have old:∀ p∈K,p.1≠i→∃ b o c,p.2 = .slice (some ⟨b,o,none⟩) (zar U p.1).length c∧Rws w' 256 secC (some ⟨b,o,none⟩) c (zar U p.1)∧b∈F∧b≠s∧b≠m:=by
  intro p hp hpi
  obtain ⟨b,o,c,e,hR,z1,z2,z3⟩:=h.row p hp
  rw[zge,if_neg (Ne.symm hpi)] at e hR
  exact ⟨b,o,c,e,hR.off g (fun ad e2 e3=>by cases e2;exact z3 (by cases e3;rfl)),z1,z2,z3⟩
 have hin:=fun x hx=>h.inn x (List.mem_cons_of_mem _ hx)
 refine ⟨h.blk.kept g kd,h.sec.kept g ks,h.fits,h.ord.kept g ?_,hM,?_,?_,h.inD,h.inS,h.inM,h.inO,fun x hx=>⟨(h.low x hx).1,Nat.lt_of_lt_of_le (h.low x hx).2 g.size⟩,h.wide,hin⟩
 ·cases hb:ov.ownBlock with
  | none=>exact Or.inl rfl
  | some y=>exact Or.inr fun e=>h.map.own h.ord (by rw[hb,e])
 ·intro j
  by_cases hz:(zar U i).length=0
  ·rw[if_pos hz]
   have hni:i∉U.map (·.1):=fun hm=>zcf.2 hm (List.eq_nil_of_length_eq_zero hz)
   constructor
   ·intro hj
    obtain ⟨p,hp,rfl⟩:=List.mem_map.1 hj
    obtain ⟨h1,h2⟩:=(zg7 i p).1 hp
    have:=(h.keys p.1).1 (List.mem_map.2 ⟨p,h1,rfl⟩)
    rcases List.mem_cons.1 this with h3 | h3
    ·exact absurd h3 h2
    ·exact h3
   ·intro hj
    obtain ⟨p,hp,rfl⟩:=List.mem_map.1 ((h.keys j).2 (List.mem_cons_of_mem _ hj))
    exact List.mem_map.2 ⟨p,(zg7 i p).2 ⟨hp,fun e=>hni (e ▸ hj)⟩,rfl⟩
  ·rw[if_neg hz]
   have hi:i∈U.map (·.1):=zcf.1 (fun e=>hz (by rw[e];rfl))
   constructor
   ·intro hj
    obtain ⟨p,hp,rfl⟩:=List.mem_map.1 hj
    rcases (zau _ _ _).1 hp with rfl | ⟨h1,h2⟩
    ·exact hi
    ·have:=(h.keys p.1).1 (List.mem_map.2 ⟨p,h1,rfl⟩)
     rcases List.mem_cons.1 this with h3 | h3
     ·exact absurd h3 h2
     ·exact h3
   ·intro hj
    by_cases hji:j=i
    ·exact List.mem_map.2 ⟨_,(zau _ _ _).2 (Or.inl rfl),hji.symm⟩
    ·obtain ⟨p,hp,rfl⟩:=List.mem_map.1 ((h.keys j).2 (List.mem_cons_of_mem _ hj))
     exact List.mem_map.2 ⟨p,(zau _ _ _).2 (Or.inr ⟨hp,hji⟩),rfl⟩
 ·intro p hp
  by_cases hz:(zar U i).length=0
  ·rw[if_pos hz] at hp
   obtain ⟨h1,h2⟩:=(zg7 i p).1 hp
   exact old p h1 h2
  ·rw[if_neg hz] at hp
   rcases (zau _ _ _).1 hp with rfl | ⟨h1,h2⟩
   ·have hd:=(hR.off g (fun ad e2 e3=>by cases e2;exact q3 (by cases e3;rfl))).drop 1 (by simp)
    rw[List.drop_succ_cons,List.drop_zero] at hd
    have hcut:cutK (some ⟨bb,o,none⟩) cc 1 256=some ⟨bb,o+1*256,none⟩:=by
     unfold cutK
     rw[if_neg (by omega),Option.map_some,Addr.add_lit]
    rw[hcut] at hd
    refine ⟨bb,o+1*256,cc - 1,?_,hd,q1,q2,q3⟩
    simp only
    rw[hcut]
   ·exact old p h1 h2
theorem DiskH.wrote {S' : List (List UInt8)} (h:DiskH u w F d s c m X ov K S O U l b) (g:w.grownBy a (some s)) (hB:Blk a s 95 (S'.flatMap secC++X)) (hl:S'.length=S.length) (hw:∀ s∈S',s.length=256):DiskH u a F d s c m X ov K S' O U l b :=
 ⟨by rw[hl];exact h.blk.kept g (fun e=>h.d_s (by cases e;rfl)),hB,by rw[hl];exact h.fits,h.ord.kept g (Or.inr fun e=>zax h.ord h.sec (by decide) e.symm),h.map.kept g (fun e=>h.m_s (by cases e;rfl)),h.keys,fun p hp=>by
  obtain ⟨b,o,c,e,hR,q1,q2,q3⟩:=h.row p hp
  exact ⟨b,o,c,e,hR.off g (fun ad e2 e3=>by cases e2;exact q2 (by cases e3;rfl)),q1,q2,q3⟩,h.inD,h.inS,h.inM,h.inO,fun x hx=>⟨(h.low x hx).1,Nat.lt_of_lt_of_le (h.low x hx).2 g.size⟩,hw,fun x hx=>by rw[hl];exact h.inn x hx⟩
end
theorem zne {w:World} {s:Nat} {S:List (List UInt8)} {X:List Value} (h:Blk w s 95 (S.flatMap secC++X)) (hS:∀ x∈S,x.length=256) (i:Nat) (hi:i<S.length) (t:List UInt8) (ht:t.length=256) (n:Nat) (hn:n≤256) :
  Blk (w.setCells s (i*256) ((t.take n).map bv)) s 95 ((lay1 S (i,t) n).flatMap secC++X)∧w.there s (i*256) n:=by
 obtain ⟨A,B,e,hA⟩:=zgj S hS i hi
 have hSi:=hS _ (List.getElem_mem hi)
 have e2:S.flatMap secC++X=A++((S[i].take n).map bv++((S[i].drop n).map bv++(B++X))):=by
  rw[e]
  have:secC S[i]=(S[i].take n).map bv++(S[i].drop n).map bv:=by rw[← List.map_append,List.take_append_drop];rfl
  rw[this]
  simp only[List.append_assoc]
 rw[e2] at h
 have h1:=Blk.setCells ((t.take n).map bv) ((S[i].take n).map bv) h (by simp[hSi,ht])
 rw[hA] at h1
 have hth:w.there s A.length ((S[i].take n).map bv).length:=h.thereIn
 rw[hA] at hth
 have hl0:((S[i].take n).map bv).length=n:=by simp[hSi,hn]
 rw[hl0] at hth
 refine ⟨?_,hth⟩
 have e3:(lay1 S (i,t) n).flatMap secC=A++((t.take n).map bv++((S[i].drop n).map bv++B)):=by
  unfold lay1
  have hl:i<(S.set i (t.take n++S[i].drop n)).length:=by rw[List.length_set];exact hi
  rw[List.getElem?_eq_getElem hi,Option.getD_some]
  have hA2:(S.take i).flatMap secC=A:=by
   have h5:(S.take i).flatMap secC++(S.drop i).flatMap secC=A++(secC S[i]++B):=by rw[← List.flatMap_append,List.take_append_drop];exact e
   exact (List.append_inj h5 (by rw[hA,zdx secC 256 _ (fun x hx=>by rw[za4];exact hS x (List.mem_of_mem_take hx)),List.length_take,Nat.min_eq_left (Nat.le_of_lt hi)])).1
  have hB2:(S.drop (i+1)).flatMap secC=B:=by
   have h5:(S.take i).flatMap secC++(S.drop i).flatMap secC=A++(secC S[i]++B):=by rw[← List.flatMap_append,List.take_append_drop];exact e
   rw[hA2,List.drop_eq_getElem_cons hi,List.flatMap_cons] at h5
   exact List.append_cancel_left (List.append_cancel_left h5)
  rw[List.set_eq_take_append_cons_drop,if_pos hi,List.flatMap_append,List.flatMap_cons,hA2,hB2]
  have:secC (t.take n++S[i].drop n)=(t.take n).map bv++(S[i].drop n).map bv:=by unfold secC;rw[List.map_append]
  rw[this]
  simp only[List.append_assoc]
 rw[e3]
 simp only[List.append_assoc] at h1 ⊢
 exact h1
end Go.Proofs.YtoilcpdhhlcidaaGreatDoor
