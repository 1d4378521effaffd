/- Lemmas. -/
import Derived.Test.YtoilcpdhhlcidaaGreatDoorIRange
namespace Go.Proofs.YtoilcpdhhlcidaaGreatDoor
open Go.RowKit
set_option maxRecDepth 100000
theorem zoe (w:World):(Go.sizeOf 95).run Tryz.prog w = .ok 256 w:=by kernel_rfl
set_option maxHeartbeats 4000000 in
theorem zmb (w:World) (d m:Nat) (K:List (Nat × Value)) (hd:w.cell? ⟨d,2,none⟩=some (.map (some m))) (hdm:d≠m) (hM:ImapAt w m K) (i b o k c:Nat) (hget:getI K i=some (.slice (some ⟨b,o,none⟩) (k+1) c)) (hc:k+1≤c) (EB:List Value) (hEl:EB.length=256) (hE1:∀ u∈EB,u.oneCell'=true) (hr:w.rangeAt b o EB) (hbm:b≠m) :
  Calls Tryz.prog 69 #[.pointer (some ⟨d,0,none⟩),.int .i64 (i:Int)] w fun e w'=>e = .returned (.agg EB.toArray)∧ImapAt w' m (if k=0 then delI K i else putI K i (.slice (cutK (some ⟨b,o,none⟩) c 1 256) k (c - 1)))∧w.grownBy w' (some m):=by
 obtain ⟨Z,hZ,hzv⟩:=zei
 have hEo:EB.toArray.all (·.oneCell')=true:=all_oneCell_toArray hE1
 have hiE:(Tryz.prog.info? 95).map (·.size)=some EB.length:=by rw[hEl];exact zdg
 have hiE2:(Tryz.prog.info? 95).map (·.size)=some EB.toArray.size:=by rw[List.size_toArray];exact hiE
 have hZE:Z.toList.toArray.size=EB.toArray.size:=by simp[hZ,hEl]
 obtain ⟨W1,hW1⟩:∃ W,W=w.alloc (.cells Z 95):=⟨_,rfl⟩
 have hBZ:Blk W1 w.heap.size 95 Z.toList:=by rw[hW1];simpa using Blk.new w 95 Z.toList
 have g1:w.grownBy W1 none:=by rw[hW1];exact zaf (zac _ _) _
 have hM1:=hM.none g1
 have hd1:=g1.cell hd (by simp)
 have hr1:=zak hr g1 (by simp)
 have hqm:some w.heap.size≠some m:=fun e=>hM1.blk hBZ (by cases e;rfl)
 have hlk:=hM1.look 75 74 Tryz.underlying75 (.slice none 0 0) (zej W1) i false
 rw[hget] at hlk
 unfold keyN at hlk
 simp only[Bool.false_eq_true,if_false,Option.getD_some] at hlk
 obtain ⟨HIE,HIE2,HZE,HEO,HW1⟩:=zh5 hiE hiE2 hZE hEo hW1
 by_cases hk:k=0
 ·subst hk
  rw[if_pos rfl]
  obtain ⟨W2,hdel,hM2,g2,-⟩:=hM1.del 75 74 0 #[75,3] rfl Tryz.underlying75 i
  have hdl:∀ U,(Builtin.delete_ #[75,3] U #[.map (some m),.int .i64 (i:Int)]).run Tryz.prog W1 = .ok (.tuple #[]) W2:=fun U=>hdel
  have hB2:=hBZ.kept g2 hqm
  have hr2:=zak hr1 g2 (fun e=>hbm (by cases e;rfl))
  have G2:w.grownBy W2 (some m):=zae (zav _ g1) g2 (fun _ e=>Or.inr e)
  have hfin:ImapAt (W2.setRow w.heap.size EB.toArray) m (delI K i)∧w.grownBy (W2.setRow w.heap.size EB.toArray) (some m) :=
   ⟨hM2.kept (zaj (zac W2 (some w.heap.size)) _ (Or.inr rfl)) (Ne.symm hqm),zaj G2 _ (Or.inl (Nat.le_refl _))⟩
  obtain ⟨HF,HB2⟩:=zh2 hfin hB2
  clear hiE hiE2 hZE hEo hW1 hBZ hM hM1 hM2 hd hr hr1 hE1 hZ g1 g2 G2 hB2 hfin hget hqm hdel hEl hbm hc
  go_enter Tryz.func69,Tryz.ntmps69
  go_wp2_with (first
   | rw[← uh HW1]
   | (refine wpList_load_mid rfl 95 _ rfl b o rfl EB _ hr2 Tryz.underlying95 rfl (uh HIE) ?_;clear hr2)
   | (have hB9:=uh HB2;refine wpList_store_row rfl 95 _ _ rfl w.heap.size EB.toArray rfl rfl _ _ hB9 (uh HIE2) (uh HZE) (uh HEO) ?_;clear hB9))
  refine bodyPost_ret (results_cell_row rfl _ _ _ _ _ _ _ rfl ((uh HB2).row EB) Tryz.underlying95 rfl (uh HIE2)) rfl ?_
  exact ⟨rfl,uh HF⟩
 ·rw[if_neg hk]
  have gd:W1.grownBy W1.drew none:=zaa (zac _ _)
  have hsl:∀ V:World,(Instr.slice 74 (.slice (some ⟨b,o,none⟩) (k+1) c) (some (.int .i64 ((1:Nat):Int))) none none).run Tryz.prog V = .ok (.slice (cutK (some ⟨b,o,none⟩) c 1 256) (k+1 - 1) (c - 1)) V:=fun V=>zjr V 74 95 256 Tryz.underlying74 zoe (some ⟨b,o,none⟩) (k+1) c 1 (by omega)
  rw[Nat.add_sub_cancel] at hsl
  obtain ⟨v1,hv1⟩:∃ v,v=Value.slice (cutK (some ⟨b,o,none⟩) c 1 256) k (c - 1):=⟨_,rfl⟩
  rw[← hv1] at hsl ⊢
  obtain ⟨W2,hup,hM2,g2,-⟩:=(hM1.none gd).store 75 74 Tryz.underlying75 i v1
  unfold keyN at hup
  have G12:W1.grownBy W2 (some m):=zae (zav _ gd) g2 (fun _ e=>Or.inr e)
  have hB2:=hBZ.kept G12 hqm
  have hr2:=zak hr1 G12 (fun e=>hbm (by cases e;rfl))
  have G2:w.grownBy W2 (some m):=zae (zav _ g1) G12 (fun _ e=>Or.inr e)
  have hfin:ImapAt (W2.setRow w.heap.size EB.toArray) m (putI K i v1)∧w.grownBy (W2.setRow w.heap.size EB.toArray) (some m) :=
   ⟨hM2.kept (zaj (zac W2 (some w.heap.size)) _ (Or.inr rfl)) (Ne.symm hqm),zaj G2 _ (Or.inl (Nat.le_refl _))⟩
  have hS1:W1.drew.cell? ⟨d,2,none⟩=some (.map (some m)):=gd.cell hd1 (by simp)
  have hS2:W2.cell? ⟨d,2,none⟩=some (.map (some m)):=G12.cell hd1 (fun e=>hdm (by cases e;rfl))
  obtain ⟨HF,HB2,HS1,HS2⟩:=zh4 hfin hB2 hS1 hS2
  have hk1:decide (((k+1:Nat):Int)=1)=false:=by simp;omega
  have hk2:¬ ((k:Int)+1=1):=by omega
  have hk3:¬ (k+1=1):=by omega
  clear hv1 hiE hiE2 hZE hEo hW1 hBZ hM hM1 hM2 hd hr hr1 hE1 hZ g1 g2 G2 hB2 hfin hget hqm hEl hbm hc gd hS1 hS2 G12 hdm
  go_enter Tryz.func69,Tryz.ntmps69
  go_upto_region 4 with (rw[← uh HW1])
  refine wp_region_noPanic ?_
  refine wp_region_held_drew (S:=fun V=>V.cell? ⟨d,2,none⟩=some (.map (some m))) (by kernel_rfl) (uh HS1) (fun _ => ?_)
  refine tq 0 20 (.move (.tmp 0)) ((.pointer (some ⟨d,0,none⟩))) (uh HS1) ?_
  refine tq 1 21 (.nilCheck (.tmp 20)) ((.pointer (some ⟨d,0,none⟩))) (uh HS1) ?_
  refine tq 2 22 (.fieldAddr 77 (.tmp 21) 2) ((.pointer (some ⟨d,2,none⟩))) (uh HS1) ?_
  refine tz 3 23 (.load 75 (.tmp 22)) ((.map (some m))) (uh HS1) ?_ (y:=(Or.inl ⟨by rfl,fun V hV=>by (have hv2:=hV;go_simp)⟩))
  (try simp only[pq])
  refine tq 4 24 (.move (.tmp 1)) ((.int .i64 (i:Int))) (uh HS1) ?_
  refine tq 5 25 (.move (.tmp 5)) ((.slice (some ⟨b,o,none⟩) (k+1) c)) (uh HS1) ?_
  refine tz 6 26 (.slice 74 (.tmp 25) (some (.const (.int .i64 1))) none none) ((v1)) (uh HS1) ?_ (y:=(Or.inl ⟨by rfl,fun V hV=>by (have hs1:=hsl V;simp only[Int.natCast_one] at hs1;go_simp)⟩))
  (try simp only[pq])
  refine rdq 7 none (.mapUpdate 75 (.tmp 23) (.tmp 24) (.tmp 26)) (fun K9 hK9 => ?_)
  go_simp
  refine hK9.out _ _ (uh HS2) (fun _ => ?_)
  clear hK9 K9
  (try simp only[pq])
  refine wpAnyH_done (by kernel_rfl) ?_ _
  refine NoPanic.normal ?_
  clear hup
  go_wp2_with (first
   | (refine wpList_load_mid rfl 95 _ rfl b o rfl EB _ hr2 Tryz.underlying95 rfl (uh HIE) ?_;clear hr2)
   | (have hB9:=uh HB2;refine wpList_store_row rfl 95 _ _ rfl w.heap.size EB.toArray rfl rfl _ _ hB9 (uh HIE2) (uh HZE) (uh HEO) ?_;clear hB9))
  refine bodyPost_ret (results_cell_row rfl _ _ _ _ _ _ _ rfl ((uh HB2).row EB) Tryz.underlying95 rfl (uh HIE2)) rfl ?_
  exact ⟨rfl,uh HF⟩
structure DiskH (u:Nat) (w:World) (F:List Nat) (d s c m:Nat) (X:List Value) (ov:Value) (K:List (Nat × Value)) (S:List (List UInt8)) (O:List Nat) (U:List (Nat × List UInt8)) (l:Int) (b:Bool):Prop where
 blk:Blk w d 77 [.slice (some ⟨s,0,none⟩) S.length c,ov,.map (some m),.int .i64 l,.bool b]
 sec:Blk w s 95 (S.flatMap secC++X)
 fits:S.length≤c∧c≤maxLen
 ord:w.ownsRow u 3 1 ov O.length (O.map keyN)
 map:ImapAt w m K
 keys:∀ i,i∈K.map (·.1)↔i∈U.map (·.1)
 row:∀ p∈K,∃ b o c,p.2 = .slice (some ⟨b,o,none⟩) (zay U p.1).length c∧Rws w 256 secC (some ⟨b,o,none⟩) c (zay U p.1)∧b∈F∧b≠s∧b≠m
 inD:d∈F
 inS:s∈F
 inM:m∈F
 inO:∀ b,ov.ownBlock=some b→b∈F
 low:∀ x∈F,u≤x∧x<w.heap.size
 wide:∀ s∈S,s.length=256
 inn:∀ x∈U,x.1<S.length∧x.2.length=256
theorem DiskM.h {u:Nat} {w:World} {F:List Nat} {d s c m:Nat} {X:List Value} {ov:Value} {K:List (Nat × Value)} {D:Dsk} (h:DiskM u w F d s c m X ov K D):DiskH u w F d s c m X ov K D.safe (D.U.map (·.1)) D.U D.left D.down :=
 ⟨h.blk,h.sec,h.fits,h.g.ord,h.und.map,h.und.keys,fun p hp=>by
  obtain ⟨ao,cc,e,hR,_⟩:=Rws.own secC (h.und.row p hp) (fun x hx=>by rw[zbe];exact (h.ok.inn _ (zc7 hx)).2)
  have hne:zay D.U p.1≠[]:=zcw.2 ((h.und.keys p.1).1 (List.mem_map.2 ⟨p,hp,rfl⟩))
  obtain ⟨b,o,rfl,_⟩:=hR.at 0 (List.length_pos_iff.2 hne)
  have hb:=h.inK p hp b (by rw[e];rfl)
  exact ⟨b,o,cc,e,hR,hb.1,hb.2,fun e2=>h.und.map.own (h.und.row p hp) (by rw[e,← e2];rfl)⟩,h.inD,h.inS,h.inM,h.inO,h.low,h.ok.wide,h.ok.inn⟩
theorem Rws.off {α:Type} {w a:World} {K:Nat} {f:α→List Value} {ao:Option Addr} {c:Nat} {L:List α} {r:Option Nat} (h:Rws w K f ao c L) (g:w.grownBy a r) (hr:∀ ad,ao=some ad→some ad.block≠r):Rws a K f ao c L :=
 ⟨h.zip,h.fits,h.most,h.spot,fun ad e i hi=>zak (h.row ad e i hi) g (hr ad e)⟩
section
variable {u:Nat} {w a:World} {F:List Nat} {d s c m:Nat} {X:List Value} {ov:Value} {K:List (Nat × Value)} {S:List (List UInt8)} {O:List Nat} {U:List (Nat × List UInt8)} {l:Int} {b:Bool}
theorem DiskH.nn (h:DiskH u w F d s c m X ov K S O U l b) (g:w.grownBy a Option.none):DiskH u a F d s c m X ov K S O U l b :=
 ⟨h.blk.kept g (by simp),h.sec.kept g (by simp),h.fits,h.ord.kept g (by cases ov.ownBlock <;> simp),h.map.none g,h.keys,fun p hp=>by
  obtain ⟨b,o,c,e,hR,q⟩:=h.row p hp
  exact ⟨b,o,c,e,hR.kept g,q⟩,h.inD,h.inS,h.inM,h.inO,fun x hx=>⟨(h.low x hx).1,Nat.lt_of_lt_of_le (h.low x hx).2 g.size⟩,h.wide,h.inn⟩
theorem DiskH.m_d (h:DiskH u w F d s c m X ov K S O U l b):m≠d:=h.map.blk h.blk
theorem DiskH.m_s (h:DiskH u w F d s c m X ov K S O U l b):m≠s:=h.map.blk h.sec
theorem DiskH.d_s (h:DiskH u w F d s c m X ov K S O U l b):d≠s:=zmx h.blk h.sec (by decide)
theorem DiskH.took {i:Nat} {t:List UInt8} (h:DiskH u w F d s c m X ov K S O ((i,t)::U) l b):∃ bb o cc,getI K i=some (.slice (some ⟨bb,o,none⟩) ((zay U i).length+1) cc)∧(zay U i).length+1≤cc∧w.rangeAt bb o (secC t)∧bb≠m ∧
  ∀ w',ImapAt w' m (if (zay U i).length=0 then delI K i else putI K i (.slice (cutK (some ⟨bb,o,none⟩) cc 1 256) (zay U i).length (cc - 1)))→w.grownBy w' (some m) →
    DiskH u w' F d s c m X ov (if (zay U i).length=0 then delI K i else putI K i (.slice (cutK (some ⟨bb,o,none⟩) cc 1 256) (zay U i).length (cc - 1))) S O U l b:=by
 have hk:i∈K.map (·.1):=(h.keys i).2 (by simp)
 obtain ⟨p,hp,hpi⟩:=List.mem_map.1 hk
 obtain ⟨bb,o,cc,e,hR,q1,q2,q3⟩:=h.row p hp
 have hpi' : p.1=i:=hpi
 rw[hpi',zgu,if_pos rfl] at e hR
 rw[List.length_cons] at e
 have hg:getI K i=some (.slice (some ⟨bb,o,none⟩) ((zay U i).length+1) cc):=zm6 h.map.once (by rw[← e,← hpi'];exact hp)
 have hf:=hR.fits
 rw[List.length_cons] at hf
 have hr:=hR.row _ rfl 0 (by simp)
 simp only[Nat.zero_mul,Nat.add_zero,List.getElem_cons_zero] at hr
 refine ⟨bb,o,cc,hg,hf,hr,q3,fun w' hM g => ?_⟩
 have kd:some d≠some m:=fun e=>h.m_d (by cases e;rfl)
 have ks:some s≠some m:=fun e=>h.m_s (by cases e;rfl)
 have old:∀ p∈K,p.1≠i→∃ b o c,p.2 = .slice (some ⟨b,o,none⟩) (zay U p.1).length c∧Rws w' 256 secC (some ⟨b,o,none⟩) c (zay U p.1)∧b∈F∧b≠s∧b≠m:=by
  intro p hp hpi
  obtain ⟨b,o,c,e,hR,z1,z2,z3⟩:=h.row p hp
  rw[zgu,if_neg (Ne.symm hpi)] at e hR
  exact ⟨b,o,c,e,hR.off g (fun ad e2 e3=>by cases e2;exact z3 (by cases e3;rfl)),z1,z2,z3⟩
 have hin:=fun x hx=>h.inn x (List.mem_cons_of_mem _ hx)
 refine ⟨h.blk.kept g kd,h.sec.kept g ks,h.fits,h.ord.kept g ?_,hM,?_,?_,h.inD,h.inS,h.inM,h.inO,fun x hx=>⟨(h.low x hx).1,Nat.lt_of_lt_of_le (h.low x hx).2 g.size⟩,h.wide,hin⟩
 ·cases hb:ov.ownBlock with
  | none=>exact Or.inl rfl
  | some y=>exact Or.inr fun e=>h.map.own h.ord (by rw[hb,e])
 ·intro j
  by_cases hz:(zay U i).length=0
  ·rw[if_pos hz]
   have hni:i∉U.map (·.1):=fun hm=>zcw.2 hm (List.eq_nil_of_length_eq_zero hz)
   constructor
   ·intro hj
    obtain ⟨p,hp,rfl⟩:=List.mem_map.1 hj
    obtain ⟨h1,h2⟩:=(zhp i p).1 hp
    have:=(h.keys p.1).1 (List.mem_map.2 ⟨p,h1,rfl⟩)
    rcases List.mem_cons.1 this with h3 | h3
    ·exact absurd h3 h2
    ·exact h3
   ·intro hj
    obtain ⟨p,hp,rfl⟩:=List.mem_map.1 ((h.keys j).2 (List.mem_cons_of_mem _ hj))
    exact List.mem_map.2 ⟨p,(zhp i p).2 ⟨hp,fun e=>hni (e ▸ hj)⟩,rfl⟩
  ·rw[if_neg hz]
   have hi:i∈U.map (·.1):=zcw.1 (fun e=>hz (by rw[e];rfl))
   constructor
   ·intro hj
    obtain ⟨p,hp,rfl⟩:=List.mem_map.1 hj
    rcases (za0 _ _ _).1 hp with rfl | ⟨h1,h2⟩
    ·exact hi
    ·have:=(h.keys p.1).1 (List.mem_map.2 ⟨p,h1,rfl⟩)
     rcases List.mem_cons.1 this with h3 | h3
     ·exact absurd h3 h2
     ·exact h3
   ·intro hj
    by_cases hji:j=i
    ·exact List.mem_map.2 ⟨_,(za0 _ _ _).2 (Or.inl rfl),hji.symm⟩
    ·obtain ⟨p,hp,rfl⟩:=List.mem_map.1 ((h.keys j).2 (List.mem_cons_of_mem _ hj))
     exact List.mem_map.2 ⟨p,(za0 _ _ _).2 (Or.inr ⟨hp,hji⟩),rfl⟩
 ·intro p hp
  by_cases hz:(zay U i).length=0
  ·rw[if_pos hz] at hp
   obtain ⟨h1,h2⟩:=(zhp i p).1 hp
   exact old p h1 h2
  ·rw[if_neg hz] at hp
   rcases (za0 _ _ _).1 hp with rfl | ⟨h1,h2⟩
   ·have hd:=(hR.off g (fun ad e2 e3=>by cases e2;exact q3 (by cases e3;rfl))).drop 1 (by simp)
    rw[List.drop_succ_cons,List.drop_zero] at hd
    have hcut:cutK (some ⟨bb,o,none⟩) cc 1 256=some ⟨bb,o+1*256,none⟩:=by
     unfold cutK
     rw[if_neg (by omega),Option.map_some,Addr.add_lit]
    rw[hcut] at hd
    refine ⟨bb,o+1*256,cc - 1,?_,hd,q1,q2,q3⟩
    simp only
    rw[hcut]
   ·exact old p h1 h2
theorem DiskH.wrote {S' : List (List UInt8)} (h:DiskH u w F d s c m X ov K S O U l b) (g:w.grownBy a (some s)) (hB:Blk a s 95 (S'.flatMap secC++X)) (hl:S'.length=S.length) (hw:∀ s∈S',s.length=256):DiskH u a F d s c m X ov K S' O U l b :=
 ⟨by rw[hl];exact h.blk.kept g (fun e=>h.d_s (by cases e;rfl)),hB,by rw[hl];exact h.fits,h.ord.kept g (Or.inr fun e=>zap h.ord h.sec (by decide) e.symm),h.map.kept g (fun e=>h.m_s (by cases e;rfl)),h.keys,fun p hp=>by
  obtain ⟨b,o,c,e,hR,q1,q2,q3⟩:=h.row p hp
  exact ⟨b,o,c,e,hR.off g (fun ad e2 e3=>by cases e2;exact q2 (by cases e3;rfl)),q1,q2,q3⟩,h.inD,h.inS,h.inM,h.inO,fun x hx=>⟨(h.low x hx).1,Nat.lt_of_lt_of_le (h.low x hx).2 g.size⟩,hw,fun x hx=>by rw[hl];exact h.inn x hx⟩
end
theorem zof {w:World} {s:Nat} {S:List (List UInt8)} {X:List Value} (h:Blk w s 95 (S.flatMap secC++X)) (hS:∀ x∈S,x.length=256) (i:Nat) (hi:i<S.length) (t:List UInt8) (ht:t.length=256) (n:Nat) (hn:n≤256) :
  Blk (w.setCells s (i*256) ((t.take n).map bv)) s 95 ((lay1 S (i,t) n).flatMap secC++X)∧w.there s (i*256) n:=by
 obtain ⟨A,B,e,hA⟩:=zgz S hS i hi
 have hSi:=hS _ (List.getElem_mem hi)
 have e2:S.flatMap secC++X=A++((S[i].take n).map bv++((S[i].drop n).map bv++(B++X))):=by
  rw[e]
  have:secC S[i]=(S[i].take n).map bv++(S[i].drop n).map bv:=by rw[← List.map_append,List.take_append_drop];rfl
  rw[this]
  simp only[List.append_assoc]
 rw[e2] at h
 have h1:=Blk.setCells ((t.take n).map bv) ((S[i].take n).map bv) h (by simp[hSi,ht])
 rw[hA] at h1
 have hth:w.there s A.length ((S[i].take n).map bv).length:=h.thereIn
 rw[hA] at hth
 have hl0:((S[i].take n).map bv).length=n:=by simp[hSi,hn]
 rw[hl0] at hth
 refine ⟨?_,hth⟩
 have e3:(lay1 S (i,t) n).flatMap secC=A++((t.take n).map bv++((S[i].drop n).map bv++B)):=by
  unfold lay1
  have hl:i<(S.set i (t.take n++S[i].drop n)).length:=by rw[List.length_set];exact hi
  rw[List.getElem?_eq_getElem hi,Option.getD_some]
  have hA2:(S.take i).flatMap secC=A:=by
   have h5:(S.take i).flatMap secC++(S.drop i).flatMap secC=A++(secC S[i]++B):=by rw[← List.flatMap_append,List.take_append_drop];exact e
   exact (List.append_inj h5 (by rw[hA,zee secC 256 _ (fun x hx=>by rw[zbe];exact hS x (List.mem_of_mem_take hx)),List.length_take,Nat.min_eq_left (Nat.le_of_lt hi)])).1
  have hB2:(S.drop (i+1)).flatMap secC=B:=by
   have h5:(S.take i).flatMap secC++(S.drop i).flatMap secC=A++(secC S[i]++B):=by rw[← List.flatMap_append,List.take_append_drop];exact e
   rw[hA2,List.drop_eq_getElem_cons hi,List.flatMap_cons] at h5
   exact List.append_cancel_left (List.append_cancel_left h5)
  rw[List.set_eq_take_append_cons_drop,if_pos hi,List.flatMap_append,List.flatMap_cons,hA2,hB2]
  have:secC (t.take n++S[i].drop n)=(t.take n).map bv++(S[i].drop n).map bv:=by unfold secC;rw[List.map_append]
  rw[this]
  simp only[List.append_assoc]
 rw[e3]
 simp only[List.append_assoc] at h1 ⊢
 exact h1
theorem zh1 {w:World} {base n k:Nat} {t:TypeId} {v:Value} {xs:List Value} (h:w.ownsRow base t k v n xs):∃ ao c,v = .slice ao n c:=by
 rcases h.2 with ⟨rfl,h2⟩ | ⟨g,cap,cur,rfl,_⟩
 ·exact ⟨none,0,by rw[h2]⟩
 ·exact ⟨_,_,rfl⟩
theorem zp2 {w:World} {base n:Nat} {t:TypeId} {v:Value} {xs:List Value} (h:w.ownsRow base t 1 v n xs) (j:Nat) (hj:j<n):∃ b c,v = .slice (some ⟨b,0,none⟩) n c∧w.cell? ⟨b,j,none⟩=xs[j]? := by
 rcases h.2 with ⟨rfl,h2⟩ | ⟨g,cap,cur,rfl,_,hh,h3,h4,h5,h6⟩
 ·omega
 ·refine ⟨g,cap,rfl,?_⟩
  rw[cell_of_row w g j _ _ _ hh,← h6,List.getElem?_take_of_lt (by omega)]
  simp
theorem zmc (b o hi:Nat) (h2:hi≤256) (W:World):(Instr.sliceAt 95 (.pointer (some ⟨b,o,none⟩)) none (some (.int .i64 (hi:Int))) none).run Tryz.prog W = .ok (.slice (some ⟨b,o,none⟩) hi 256) W:=by
 have ea:Tryz.prog.arrayLen 95=256:=by simp[Program.arrayLen,Tryz.underlying95]
 have ee:Tryz.prog.elem 95=5:=by simp[Program.elem,Tryz.underlying95]
 rw[run_sliceAt_array_h W 95 ⟨b,o,none⟩ (by rw[ea,ee];exact Tryz.underlying95) .i64 _ (by omega) (by omega),ea,ee,za2]
 simp only[Result.andThen_ok,slicedAt,Int.toNat_natCast,Nat.zero_mul,Nat.sub_zero]
 rw[if_neg (by omega),Addr.add_mid]
 simp
set_option maxHeartbeats 8000000 in
theorem zj1 (u:Nat) (w:World) (F:List Nat) (d:Nat) (D:Dsk) (h:za4 u w F d D) (hU:D.U.length≤1000000) (g:Nat) (lb:Array Value) (f:Nat→Int)
  (eg:∀ args w,(callFunc g args).run Tryz.prog w = .ok (.enter g args) w) (cg:∀ (k:Nat) (V:World),k<D.U.length→Fr w V F→Calls Tryz.prog g (#[.int .i64 (k:Int)]++lb) V fun e V'=>e = .returned (.int .i64 (f k))∧V'=V) :
  Calls Tryz.prog 45 #[.pointer (some ⟨d,0,none⟩),.func (.func g) #[] lb] w fun e w'=>e = .returned (.tuple #[])∧za4 u w' F d (zbl f D)∧Fr w w' F:=by
 obtain ⟨s,c,m,X,ov,K,h⟩:=h
 have hok:=h.ok
 have hH:=h.h
 have hc1:=h.c1
 obtain ⟨O,hO⟩:∃ O,O=D.U.map (·.1):=⟨_,rfl⟩
 rw[← hO] at hH
 have hOl:O.length=D.U.length:=by rw[hO,List.length_map]
 obtain ⟨U,hUU⟩:∃ U,U=D.U:=⟨_,rfl⟩
 obtain ⟨S,hS⟩:∃ S,S=D.safe:=⟨_,rfl⟩
 obtain ⟨ao,oc,hov⟩:=zh1 hH.ord
 obtain ⟨n,hn⟩:∃ n,n=U.length:=⟨_,rfl⟩
 rw[hOl,← hUU,← hn] at hov
 rw[← hUU,← hS] at hH
 rw[← hUU] at hU cg hO
 rw[← hn] at hU cg
 have hst:(∃ K',DiskH u w F d s c m X ov K' (za7 f 0 (U.take 0) S) O (U.drop 0) D.left D.down)∧Fr w w F:=⟨⟨K,hH⟩,Fr.refl _ _⟩
 obtain ⟨HST,HOK,HO,HU,HS,HOV⟩:=zh6 hst hok hO hUU hS hov
 obtain ⟨HN,HCG⟩:=zh2 hn cg
 rw[hov] at hc1
 clear hst hok hO hUU hS hH h cg hOl hn hov
 go_enter Tryz.func45,Tryz.ntmps45
 go_wp2
 go_loopw [13] (fun i wr=>∃ j:Nat,i = .int .i64 j∧j≤n∧Hid ((∃ K',DiskH u wr F d s c m X ov K' (za7 f 0 (U.take j) S) O (U.drop j) D.left D.down)∧Fr w wr F)) (fun i _=>n - (intOf i).toNat)
 case atStart=>exact ⟨0,rfl,Nat.zero_le _,HST⟩
 case round =>
  obtain ⟨j,rfl,hj,HR⟩:=hrel
  by_cases hlt:j<n
  ·have hlt' : j<U.length:=by have:=uh HN;omega
   obtain ⟨⟨K',hH⟩,hF⟩:=uh HR
   obtain ⟨⟨i,t⟩,hit⟩:∃ x,x=U[j]:=⟨_,rfl⟩
   rw[List.drop_eq_getElem_cons hlt',← hit] at hH
   have hsn:za7 f 0 (U.take (j+1)) S=lay1 (za7 f 0 (U.take j) S) (i,t) (zd9 (f j)):=by
    rw[List.take_succ_eq_append_getElem hlt',zdy,← hit,List.length_take,Nat.min_eq_left (Nat.le_of_lt hlt'),Nat.zero_add]
   obtain ⟨SJ,hSJ⟩:∃ SJ,SJ=za7 f 0 (U.take j) S:=⟨_,rfl⟩
   rw[← hSJ] at hH hsn
   have hxi:=hH.inn (i,t) (by simp)
   simp only at hxi
   obtain ⟨EB,hEB⟩:∃ EB,EB=secC t:=⟨_,rfl⟩
   have hEl:EB.length=256:=by rw[hEB,zbe];exact hxi.2
   have hE1:∀ u∈EB,u.oneCell'=true:=by rw[hEB];exact zeh _
   have hEo:EB.toArray.all (·.oneCell')=true:=all_oneCell_toArray hE1
   obtain ⟨Z,hZ,hzv⟩:=zei
   have hiE2:(Tryz.prog.info? 95).map (·.size)=some EB.toArray.size:=by rw[List.size_toArray,hEl];exact zdg
   have hZE:Z.toList.toArray.size=EB.toArray.size:=by simp[hZ,hEl]
   have hord:=hH.ord
   have hOL:O.length=n:=by rw[uh HO,List.length_map,uh HN]
   rw[hOL,uh HOV] at hord
   obtain ⟨ob,oc2,hoe,hoc⟩:=zp2 hord j hlt
   injection hoe with hao _ hcap
   have hOj:(O.map keyN)[j]? = some (keyN i):=by rw[uh HO,List.map_map,List.getElem?_map,List.getElem?_eq_getElem hlt',← hit];rfl
   rw[hOj] at hoc
   unfold keyN at hoc
   subst hao hcap
   obtain ⟨bb,o,cc,q1,q2,q3,q4,q5⟩:=hH.took
   have hc2:wr.cell? ⟨d,2,none⟩=some (.map (some m)):=by rw[hH.blk.cell];rfl
   rw[← hEB] at q3
   have cf:=zmb wr d m K' hc2 (Ne.symm hH.m_d) hH.map i bb o _ cc q1 q2 EB hEl hE1 q3 q4
   obtain ⟨K2,hK2⟩:∃ K2,K2=(if (zay (U.drop (j+1)) i).length=0 then delI K' i else putI K' i (.slice (cutK (some ⟨bb,o,none⟩) cc 1 256) (zay (U.drop (j+1)) i).length (cc - 1))):=⟨_,rfl⟩
   rw[← hK2] at cf q5
   have hwide:=hH.wide
   have hlw:=hH.low
   obtain ⟨HQ5,HF0,HIE2,HZE,HEO,HEL⟩:=zh6 q5 hF hiE2 hZE hEo hEl
   obtain ⟨HEB,HSN,HSJ,HXI,HLW,HWD⟩:=zh6 hEB hsn hSJ hxi hlw hwide
   have HIN:=hide (And.intro hH.inS hH.inM)
   have hjw:IntKind.i64.wrap ((j:Int)+1)=(j:Int)+1:=by rw[IntKind.wrap_i64];omega
   clear hH hF hit hsn hSJ hxi hEB hEl hE1 hEo hZ hiE2 hZE hord hOL hOj hc2 q1 q2 q3 q4 q5 hK2 hwide hlw HR
   go_upto_region 4 with (first
    | (go_at_call 69;refine cf.mono ?_;rintro e w2 ⟨rfl,hM2,g2⟩;clear cf
       have hH2:=uh HQ5 w2 hM2 g2
       have hF2:=(uh HF0).then g2 (fun x e=>by cases e;exact Or.inl (uh HIN).2)
       obtain ⟨W3,hW3,hB3,g3⟩:=zbu w2 95 Z EB
       have hBZ:Blk (w2.alloc (.cells Z 95)) w2.heap.size 95 Z.toList:=by simpa using Blk.new w2 95 Z.toList
       have HH3:=hide (hH2.nn g3)
       have HF3:=hide (hF2.then g3 (fun x e=>by cases e))
       obtain ⟨HB3,HBZ,HW3⟩:=zh3 hB3 hBZ hW3
       clear hH2 hF2 hB3 g3 hBZ hW3 hM2 g2 HQ5 HF0)
    | (have hB9:=uh HBZ;refine wpList_store_row rfl 95 _ _ rfl w2.heap.size EB.toArray rfl rfl _ _ hB9 (uh HIE2) (uh HZE) (uh HEO) ?_;clear hB9;rw[← uh HW3]))
   have cg:=uh HCG j W3 hlt (uh HF3)
   obtain ⟨y,hy⟩:∃ y,y=f j:=⟨_,rfl⟩
   obtain ⟨nn,hnn⟩:∃ k,k=zd9 y:=⟨_,rfl⟩
   rw[← hy] at cg
   have hn256:nn≤256:=by rw[hnn];exact zif _
   have hci:=zlj y
   rw[← hnn] at hci
   obtain ⟨y1,hy1⟩:∃ y1:Int,y1=max y 0:=⟨_,rfl⟩
   have hmax:∀ ts ty (V:World),(Builtin.max_ ts ty #[.int .i64 y,.int .i64 0]).run Tryz.prog V = .ok (.int .i64 y1) V:=fun ts ty V=>by rw[run_max_int2];congr 2;split <;> omega
   have hmin:∀ ts ty (V:World),(Builtin.min_ ts ty #[.int .i64 y1,.int .i64 256]).run Tryz.prog V = .ok (.int .i64 (nn:Int)) V:=fun ts ty V=>by rw[run_min_int2];congr 2;split <;> omega
   obtain ⟨HNN,HY⟩:=zh2 hnn hy
   clear hnn hy hci hy1
   go_upto_region 5 with (refine cg.mono ?_;rintro e w4 ⟨rfl,e4⟩;subst w4;clear cg)
   obtain ⟨q,hq⟩:∃ q,q=w2.heap.size:=⟨_,rfl⟩
   rw[← hq] at HB3 ⊢
   obtain ⟨W3d,hW3d⟩:∃ W,W=W3.drew:=⟨_,rfl⟩
   have gd:W3.grownBy W3d none:=by rw[hW3d];exact zaa (zac _ _)
   have hH4:=(uh HH3).nn gd
   have hF4:=(uh HF3).then gd (fun x e=>by cases e)
   have hB4:=(uh HB3).kept gd (by simp)
   rw[uh HEB] at hB4
   have hx:=zcn (zan hB4) (by rw[(uh HXI).2];unfold maxLen;omega)
   have hi3:i<SJ.length:=(uh HXI).1
   obtain ⟨hlc,hth⟩:=zof hH4.sec (uh HWD) i hi3 t (uh HXI).2 nn hn256
   have hcp:=zhr W3d s (i*256) nn 256 (some ⟨q,0,none⟩) t.length t hx (by rw[(uh HXI).2,Nat.min_eq_right hn256];exact hth)
   rw[(uh HXI).2,Nat.min_eq_right hn256] at hcp
   obtain ⟨W4,hW4⟩:∃ W,W=W3d.setCells s (i*256) ((t.take nn).map bv):=⟨_,rfl⟩
   rw[← hW4] at hcp hlc
   have g4:W3d.grownBy W4 (some s):=by rw[hW4];exact za1 (Or.inr rfl) _ _ (zac _ _)
   have hH5:=hH4.wrote g4 hlc (zfm _ _ _) (zig (uh HWD) (uh HXI).2 hn256 hi3)
   have hfin:(∃ K',DiskH u W4 F d s c m X ov K' (za7 f 0 (U.take (j+1)) S) O (U.drop (j+1)) D.left D.down)∧Fr w W4 F:=⟨⟨K2,by rw[uh HSN,← uh HY,← uh HNN];exact hH5⟩,hF4.then g4 (fun x e=>by cases e;exact Or.inl (uh HIN).1)⟩
   obtain ⟨sl,hsl⟩:∃ k,k=SJ.length:=⟨_,rfl⟩
   have hS4:W3d.cell? ⟨d,0,none⟩=some (.slice (some ⟨s,0,none⟩) sl c):=by rw[hH4.blk.cell,hsl];rfl
   have hS5:W4.cell? ⟨d,0,none⟩=some (.slice (some ⟨s,0,none⟩) sl c):=by rw[hH5.blk.cell,hsl,zfm];rfl
   rw[← hsl] at hi3
   obtain ⟨HFIN,HS4,HS5,HW3d⟩:=zh4 hfin hS4 hS5 hW3d
   have hss:=zgj q
   have hsh:=zmc s (i*256) nn hn256
   clear hfin hS4 hS5 hW3d hsl hH5 hH4 hF4 hB4 hx hlc hth g4 gd hW4 hq hn256
   refine wp_region_noPanic ?_
   refine wp_region_held_drew (S:=fun V=>V.cell? ⟨d,0,none⟩=some (.slice (some ⟨s,0,none⟩) sl c)) (by kernel_rfl) (by rw[← uh HW3d];exact uh HS4) (fun _ => ?_)
   rw[← uh HW3d]
   refine tq 0 26 (.move (.tmp 0)) ((.pointer (some ⟨d,0,none⟩))) (uh HS4) ?_
   refine tq 1 27 (.nilCheck (.tmp 26)) ((.pointer (some ⟨d,0,none⟩))) (uh HS4) ?_
   refine tq 2 28 (.fieldAddr 77 (.tmp 27) 0) ((.pointer (some ⟨d,0,none⟩))) (uh HS4) ?_
   refine tz 3 29 (.load 74 (.tmp 28)) ((.slice (some ⟨s,0,none⟩) sl c)) (uh HS4) ?_ (y:=(Or.inl ⟨by rfl,fun V hV=>by (have hv2:=hV;go_simp)⟩))
   (try simp only[pq])
   refine tq 4 30 (.move (.tmp 5)) ((.int .i64 (i:Int))) (uh HS4) ?_
   refine tq 5 31 (.indexAddr 74 (.tmp 29) (.tmp 30)) ((.pointer (some ⟨s,i*256,none⟩))) (uh HS4) ?_
   refine tq 6 32 (.move (.tmp 7)) ((.int .i64 (nn:Int))) (uh HS4) ?_
   refine tz 7 33 (.slice 95 (.tmp 31) none (some (.tmp 32)) none) ((.slice (some ⟨s,i*256,none⟩) nn 256)) (uh HS4) ?_ (y:=(Or.inl ⟨by rfl,fun V hV=>by (have hs1:=hsh V;go_simp)⟩))
   (try simp only[pq])
   refine tz 8 34 (.slice 95 (.tmp 6) none none none) ((.slice (some ⟨q,0,none⟩) 256 256)) (uh HS4) ?_ (y:=(Or.inl ⟨by rfl,fun V hV=>by (have hs1:=hss V;go_simp)⟩))
   (try simp only[pq])
   refine rdq 9 (some 35) (.call { callee := .builtin .copy,args := #[(.tmp 33),(.tmp 34)],argTypes := #[53,53] }) (fun K9 hK9 => ?_)
   go_simp
   refine hK9.out _ _ (uh HS5) (fun _ => ?_)
   clear hK9 K9
   (try simp only[pq])
   refine wpAnyH_done (by kernel_rfl) ?_ _
   refine NoPanic.normal ?_
   clear hcp hss hsh hmax hmin
   go_wp2
   go_roundw
   case rel=>exact ⟨j+1,by go_num,by omega,HFIN⟩
   case measure=>simp[intOf];omega
  ·have hjn:j=n:=by omega
   obtain ⟨⟨K',hH⟩,hF⟩:=uh HR
   rw[hjn,uh HN,List.drop_length,List.take_length] at hH
   have hK:K'=[]:=by
    cases hk:K' with
    | nil=>rfl
    | cons p r=>exact absurd ((hH.keys p.1).1 (by rw[hk];simp)) (by simp)
   rw[hK] at hH
   have g5:=zbs wr d 1 (.slice none 0 0)
   have hfin:za4 u (wr.setCell ⟨d,1,none⟩ (.slice none 0 0)) F d (zbl f D):=by
    refine ⟨s,c,m,X,.slice none 0 0,[],?_,?_,?_,World.ownsRow_nil _ _ _ _,⟨hH.map.kept g5 (fun e=>hH.m_d (by cases e;rfl)),fun i=>by simp[zbl],(fun p hp=>by cases hp),(fun p hp=>by cases hp)⟩,hH.inD,hH.inS,hH.inM,(fun b hb=>by cases hb),(fun p hp=>by cases hp),?_,(uh HOK).settle f⟩
    ·have:=hH.blk.set 1 (.slice none 0 0)
     unfold zbl
     rw[← uh HU,← uh HS]
     exact this
    ·have:=hH.sec.other ⟨d,1,none⟩ (.slice none 0 0) hH.d_s
     unfold zbl
     rw[← uh HU,← uh HS]
     exact this
    ·have:=hH.fits
     unfold zbl
     rw[← uh HU,← uh HS]
     exact this
    ·intro x hx
     have:=hH.low x hx
     exact ⟨this.1,by simpa[World.setCell] using this.2⟩
   have hF5:=hF.then g5 (fun x e=>by cases e;exact Or.inl hH.inD)
   have hc1r:wr.cell? ⟨d,1,none⟩=some ov:=by rw[hH.blk.cell];rfl
   have hf1r:=hH.blk.fz 1
   obtain ⟨HFIN,HF5⟩:=zh2 hfin hF5
   clear hfin hF5 hH hF HR hK
   go_wp2
   go_end0
   exact ⟨rfl,uh HFIN,uh HF5⟩
theorem zog:∀ args w,(callFunc 101 args).run Tryz.prog w = .ok (.enter 101 args) w:=fun args w=>by exact enters_of Tryz.func101 (by kernel_rfl) rfl args w
theorem zp3 (V:World) (k:Nat):Calls Tryz.prog 101 (#[.int .i64 (k:Int)] ++ #[]) V fun e V'=>e = .returned (.int .i64 256)∧V'=V:=by
 simp only[Array.append_empty]
 go_enter Tryz.func101,Tryz.ntmps101
 go_wp2
 go_ret
 exact ⟨rfl,rfl⟩
set_option maxHeartbeats 2000000 in
theorem zoh (u:Nat) (w:World) (F:List Nat) (d:Nat) (D:Dsk) (h:za4 u w F d D) (hU:D.U.length≤1000000) :
  Calls Tryz.prog 81 #[.pointer (some ⟨d,0,none⟩)] w fun e w'=>e = .returned (.int .i64 (syD D).2)∧Left u w w' F d (syD D).1:=by
 obtain ⟨s,c,m,X,ov,K,h⟩:=h
 have c1:=zde u w F d s c m X ov K D h
 by_cases hd:D.down=true
 ·have hstay:Left u w w F d D:=⟨F,h.at,Fr.refl _ _,fun x hx=>Or.inl hx⟩
  have e1:syD D=(D,17):=by unfold syD;rw[if_pos hd]
  rw[e1]
  rw[if_pos hd] at c1
  have HS:=hide hstay
  clear hstay hd e1 h hU
  go_enter Tryz.func81,Tryz.ntmps81
  go_wp2_with (go_at_call 50;refine c1.mono ?_;rintro e w2 ⟨rfl,e2⟩;subst w2;clear c1)
  go_ret
  exact ⟨rfl,uh HS⟩
 rw[if_neg hd] at c1
 have c2:=zey u w F d s c m X ov K D h
 obtain ⟨D1,hD1⟩:∃ D1,D1=(cntD D).1:=⟨_,rfl⟩
 obtain ⟨y,hy⟩:∃ y,y=(cntD D).2:=⟨_,rfl⟩
 rw[← hD1,← hy] at c2
 have hU1:D1.U.length≤1000000:=by rw[hD1,(zih D).2];exact hU
 have hin:=h.inD
 have hyy:y=0∨y=17:=by rw[hy];exact zo8 D
 have e1:syD D=if y=0 then (zbl (fun _=>256) D1,0) else (D1,y):=by unfold syD;rw[if_neg hd,← hy,← hD1];split <;> first | rfl | exact Prod.ext hD1.symm hy.symm
 rw[e1]
 obtain ⟨HIN,HU1⟩:=zh2 hin hU1
 clear hd e1 h hU hD1 hy hin hU1
 rcases hyy with rfl | rfl
 ·rw[if_pos rfl]
  go_enter Tryz.func81,Tryz.ntmps81
  go_upto_region 7 with (first
   | (go_at_call 50;refine c1.mono ?_;rintro e w2 ⟨rfl,e2⟩;subst w2;clear c1)
   | (go_at_call 100;refine c2.mono ?_;rintro e w2 ⟨rfl,hM2,g2⟩;have HM2:=hide hM2;have HG2:=hide g2;clear c2 hM2 g2))
  have cs:=zj1 u w2 F d D1 (uh HM2).at (uh HU1) 101 #[] (fun _=>256) zog (fun k V _ _=>zp3 V k)
  go_wp2_with (go_at_call 45;refine cs.mono ?_;rintro e w3 ⟨rfl,hD3,hF3⟩;have HD3:=hide hD3;have HF3:=hide hF3;clear cs hD3 hF3)
  go_ret
  exact ⟨rfl,F,uh HD3,(Fr.of (uh HG2) (fun x e=>by cases e;exact Or.inl (uh HIN))).trans (uh HF3) (fun x hx=>Or.inl hx),fun x hx=>Or.inl hx⟩
 ·rw[if_neg (by decide)]
  go_enter Tryz.func81,Tryz.ntmps81
  go_wp2_with (first
   | (go_at_call 50;refine c1.mono ?_;rintro e w2 ⟨rfl,e2⟩;subst w2;clear c1)
   | (go_at_call 100;refine c2.mono ?_;rintro e w2 ⟨rfl,hM2,g2⟩;have HM2:=hide hM2;have HG2:=hide g2;clear c2 hM2 g2))
  go_ret
  exact ⟨rfl,F,(uh HM2).at,Fr.of (uh HG2) (fun x e=>by cases e;exact Or.inl (uh HIN)),fun x hx=>Or.inl hx⟩
structure Dw (u w:World) (F:List Nat) (d:Nat) (D:Dsk):Prop where
 at_:za4 u.heap.size w F d D
 gb:u.grownBy w none
def Lf (u w w' : World) (F:List Nat) (d:Nat) (D:Dsk):Prop:=∃ F',Dw u w' F' d D∧Fr w w' F∧∀ x∈F',x∈F∨w.heap.size≤x
theorem zsb {u w w' : World} {F:List Nat} (h:u.grownBy w none) (g:Fr w w' F) (hF:∀ x∈F,u.heap.size≤x):u.grownBy w' none :=
 ((Fr.none h []).trans g (fun x hx=>Or.inr (hF x hx))).gb (fun x hx=>by cases hx)
theorem Dw.fr {u w w' : World} {F G:List Nat} {d:Nat} {D:Dsk} (h:Dw u w F d D) (g:Fr w w' G) (hG:∀ x∈G,u.heap.size≤x) (hFG:∀ x∈F,x∉G):Dw u w' F d D:=⟨h.at_.fr g hFG,zsb h.gb g hG⟩
theorem Dw.nn {u w w' : World} {F:List Nat} {d:Nat} {D:Dsk} (h:Dw u w F d D) (g:w.grownBy w' none):Dw u w' F d D:=⟨h.at_.none g,tn h.gb g⟩
theorem Dw.lo {u w:World} {F:List Nat} {d:Nat} {D:Dsk} (h:Dw u w F d D):∀ x∈F,u.heap.size≤x∧x<w.heap.size:=h.at_.low
theorem Left.lf {u w w' : World} {F:List Nat} {d:Nat} {D D' : Dsk} (k:Dw u w F d D) (h:Left u.heap.size w w' F d D'):Lf u w w' F d D':=by
 obtain ⟨F',h1,h2,h3⟩:=h
 exact ⟨F',⟨h1,zsb k.gb h2 (fun x hx=>(k.lo x hx).1)⟩,h2,h3⟩
theorem Dw.bts {u w:World} {F:List Nat} {d:Nat} {D:Dsk} (h:Dw u w F d D) {ao:Option Addr} {c:Nat} {l:List UInt8} (hb:Bts u ao c l):Bts w ao c l:=hb.kept h.gb (fun _ e=>by cases e)
section
variable {u w:World} {F:List Nat} {d:Nat} {D:Dsk} (h:Dw u w F d D)
include h
theorem zqu (i:Int) (ao:Option Addr) (bc:Nat) (b:List UInt8) (hb:Bts w ao bc b) (hU:D.U.length≤1000000) :
  Calls Tryz.prog 80 #[.pointer (some ⟨d,0,none⟩),.int .i64 i,.slice ao b.length bc] w fun e w'=>e = .returned (.int .i64 (wrD D i b).2)∧Lf u w w' F d (wrD D i b).1 :=
 (zma _ w F d D h.at_ i ao bc b hb hU).mono fun _ _ q=>⟨q.1,q.2.lf h⟩
theorem zsc (hU:D.U.length≤1000000) :
  Calls Tryz.prog 81 #[.pointer (some ⟨d,0,none⟩)] w fun e w'=>e = .returned (.int .i64 (syD D).2)∧Lf u w w' F d (syD D).1 :=
 (zoh _ w F d D h.at_ hU).mono fun _ _ q=>⟨q.1,q.2.lf h⟩
theorem zsr (i:Int) (hU:D.U.length≤1000000) :
  Calls Tryz.prog 27 #[.pointer (some ⟨d,0,none⟩),.int .i64 i] w fun e w'=>∃ ao c,e = .returned (.tuple #[.slice ao (rdD D i).1.length c,.int .i64 (rdD D i).2])∧Bts w' ao c (rdD D i).1∧(∀ ad,ao=some ad→w.heap.size≤ad.block)∧w.grownBy w' none :=
 (zod _ w F d D h.at_ i hU).mono fun _ _ q=>by
  obtain ⟨⟨v,q1,ao,c,q2,q3,q4⟩,q5⟩:=q
  exact ⟨ao,c,by rw[q1,q2],q3,q4,q5⟩
end
theorem za4.lower {u b:Nat} {w:World} {F:List Nat} {d:Nat} {D:Dsk} (h:za4 u w F d D) (hb:b≤u):za4 b w F d D:=by
 obtain ⟨s,c,m,X,ov,K,q2⟩:=h
 exact ⟨s,c,m,X,ov,K,q2.blk,q2.sec,q2.fits,zd1 q2.ord hb,⟨q2.und.map,q2.und.keys,fun p hp=>zd1 (q2.und.row p hp) hb,q2.und.apart⟩,q2.inD,q2.inS,q2.inM,q2.inO,q2.inK,fun x hx=>⟨Nat.le_trans hb (q2.low x hx).1,(q2.low x hx).2⟩,q2.ok⟩
theorem lnew {u w:World} (g:u.grownBy w none) (n:Nat) (h1:1≤n) (h2:n≤2048) :
  Calls Tryz.prog 9 #[.int .i64 (n:Int)] w fun e w'=>∃ d F,e = .returned (.tuple #[.pointer (some ⟨d,0,none⟩),.int .i64 0])∧Dw u w' F d (newD n)∧(∀ x∈F,w.heap.size≤x)∧w.grownBy w' none :=
 (zpi w n h1 h2).mono fun _ _ q=>by
  obtain ⟨d,F,q1,q2,q3⟩:=q
  exact ⟨d,F,q1,⟨q2.lower g.size,tn g q3⟩,fun x hx=>(q2.low x hx).1,q3⟩
end Go.Proofs.YtoilcpdhhlcidaaGreatDoor
