/- Lemmas. -/
import Derived.Test.YtegbbkgmiklhcaaGreatDoorPkE
namespace Go.Proofs.YtegbbkgmiklhcaaGreatDoor
open Go.RowKit
set_option maxRecDepth 100000
theorem zo3 {w:World} {base:Nat} {v:Value} {s:List Ob} (h:w.ownsRow base 47 32 v s.length ((s.map obId).flatMap (·.map bv))):∃ ao c,v = .slice ao s.length c∧∀ j (hj:j<s.length),∃ b o,ao=some ⟨b,o,none⟩∧∀ V,w.grownBy V none→V.rangeAt b (o+j*32) ((obId s[j]).map bv):=by
 have hmm:((s.map obId).flatMap (·.map bv))=s.flatMap (fun o=>(obId o).map bv):=by rw[List.flatMap_map]
 rw[hmm] at h
 obtain ⟨ao,c,e,hR,-⟩:=Rws.own (fun o=>(obId o).map bv) h (fun o _=>by rw[List.length_map,zbe])
 refine ⟨ao,c,e,fun j hj => ?_⟩
 obtain ⟨b,o,e2,hr⟩:=hR.at j hj
 exact ⟨b,o,e2,fun V g=>zad hr g (by simp)⟩
def zq9 (w w' : World) (b:List UInt8) (e:Ending):Prop :=
 (∃ v R s,e = .returned (.tuple #[v,.int .i64 0])∧PackOf b s∧R.map (·.o)=s∧Obo w' w.heap.size w.heap.size v R∧w.grownBy w' none) ∨
 (e = .returned (.tuple #[.slice none 0 0,.int .i64 11])∧(∀ t,¬ PackOf b t)∧w.grownBy w' none)
set_option maxHeartbeats 8000000 in
theorem zmy (w:World) (ao:Option Addr) (c:Nat) (b:List UInt8) (hb:Bts w ao c b) (hl:b.length≤200000) (hT:Tabs w) :
  Calls Tryz.prog 13 #[.slice ao b.length c] w fun e w'=>zq9 w w' b e:=by
 have co:=zej w ao c b hb hl hT
 obtain ⟨n,hn⟩:∃ n,n=b.length:=⟨_,rfl⟩
 have cr:∀ V,w.grownBy V none→_:=fun V g=>zge V ao c b (hb.kept g (fun _ e=>by cases e)) hl
 rw[← hn] at co ⊢
 simp only[← hn] at cr
 obtain ⟨HCR,HN⟩:=zh2 cr hn
 clear cr hn hb hl hT
 go_enter Tryz.func13,Tryz.ntmps13
 go_wp2_with fail
 refine co.mono ?_
 rintro e w2 hop
 clear co
 rcases hop with ⟨v,m,s,K,rfl,hP,hO,hM,hK,g2⟩ | ⟨rfl,hno,g2⟩
 ·obtain ⟨ia,ic,rfl,hat⟩:=zo3 hO
  obtain ⟨sn,hsn⟩:∃ z,z=s.length:=⟨_,rfl⟩
  rw[← hsn]
  have hs9:sn≤256:=by rw[hsn];exact hP.few
  obtain ⟨HP,HM,HK,HAT,HG2,HSN⟩:=zh6 hP hM hK hat g2 hsn
  clear hP hO hM hK g2 hat hsn
  go_wp2_with fail
  go_loopw [7,9,21] (fun v7 _x9 vi wr=>∃ (i:Nat) (R:List ObP),vi = .int .i64 i∧i≤sn∧Hid (Obo wr w.heap.size w2.heap.size v7 R∧R.map (·.o)=s.take i∧w2.grownBy wr none)) (fun _ _ vi _=>sn - (intOf vi).toNat)
  case atStart=>exact ⟨0,[],rfl,Nat.zero_le _,⟨Obo.nil _ (uh HG2).size,by simp,zab _ _⟩⟩
  case round =>
   obtain ⟨i,R,rfl,hin,HR⟩:=hrel
   by_cases hi:i<sn
   ·have hiz:(i:Int)<(sn:Int):=by omega
    have hiw:IntKind.i64.wrap ((i:Int)+1)=(i:Int)+1:=by rw[IntKind.wrap_i64];omega
    have his:i<s.length:=by rw[← uh HSN];exact hi
    obtain ⟨ib,io,rfl,hrow⟩:=uh HAT i his
    obtain ⟨hRo,hRs,hg⟩:=uh HR
    have hr:=hrow wr hg
    obtain ⟨o,ho⟩:∃ o,o=s[i]:=⟨_,rfl⟩
    obtain ⟨IB,hIB⟩:∃ I,I=obId o:=⟨_,rfl⟩
    have hIBl:IB.length=32:=by rw[hIB];exact zbe _
    obtain ⟨KB,hKB⟩:∃ k,k=IB.map bv:=⟨_,rfl⟩
    rw[← ho,← hIB,← hKB] at hr
    have hKl:KB.length=32:=by rw[hKB,List.length_map,hIBl]
    have hK1:∀ u∈KB,u.oneCell'=true:=by rw[hKB];exact zaw _
    have hKo:KB.toArray.all (·.oneCell')=true:=all_oneCell_toArray hK1
    have hiK:(Tryz.prog.info? 47).map (·.size)=some KB.length:=by rw[hKl];exact zax
    have hiK2:(Tryz.prog.info? 47).map (·.size)=some KB.toArray.size:=by simpa using hiK
    obtain ⟨Z,hZ,hzv⟩:=zc8
    have hZK:Z.toList.toArray.size=KB.toArray.size:=by simp[hZ,hKl]
    obtain ⟨W5,hW5,hB5,g5⟩:=zbg wr 47 Z KB
    have hBN:Blk (wr.alloc (.cells Z 47)) wr.heap.size 47 Z.toList:=by simpa using Blk.new wr 47 Z.toList
    have h5:=zal hB5
    have G5:=tn hg g5
    have hM5:=(uh HM).none G5
    obtain ⟨a9,ha9⟩:∃ z,z=offO s i:=⟨_,rfl⟩
    obtain ⟨n9,hn9⟩:∃ z,z=5+o.2.length:=⟨_,rfl⟩
    obtain ⟨PC,hPC⟩:∃ P,P=plC IB a9 n9:=⟨_,rfl⟩
    have hlu:(Instr.lookup 70 (.map (some m)) (.agg KB.toArray) false).run Tryz.prog W5 = .ok (.agg PC.toArray) W5:=by
     have:=hM5.look 70 49 Tryz.underlying70 _ (zd4 W5) IB hIBl false
     rw[hIB,ho,(uh HK).get i his] at this
     rw[hKB,hPC,hIB,ha9,hn9,ho]
     exact this
    obtain ⟨hsg1,hsg2⟩:=zg6 (uh HP) his
    rw[← ho,← ha9,← hn9] at hsg1 hsg2
    have cq:=uh HCR W5 (tn (uh HG2) G5) IB hIBl a9 n9 (by rw[uh HN];exact hsg1) o ((uh HP).ok o (by rw[ho];exact List.getElem_mem _)) hsg2
    rw[← hPC] at cq
    have hnx:s.take (i+1)=s.take i++[o]:=by rw[List.take_succ_eq_append_getElem his,← ho]
    have hRl:R.length=i:=by have:=congrArg List.length hRs;simpa[Nat.min_eq_left (Nat.le_of_lt his)] using this
    obtain ⟨HNX,HRL,HIK,HIK2,HZK,HKO⟩:=zh6 hnx hRl hiK hiK2 hZK hKo
    obtain ⟨HBN,HW5,H5,HROW,HLU⟩:=zh5 hBN hW5 h5 hr hlu
    have HRO5:=hide (hRo.stay g5)
    obtain ⟨HG5,HRS⟩:=zh2 G5 hRs
    clear hnx hRl hiK hiK2 hZK hKo hBN hW5 h5 hr hlu hRs G5 hg g5 hB5 hM5 ha9 hn9 hPC hsg1 hsg2 hKB hKl hK1 hIB hIBl ho hZ hrow hRo
    go_wp2_with (first
     | (refine wpList_load_mid rfl 47 _ rfl ib (io+i*32) rfl KB _ (uh HROW) Tryz.underlying47 rfl (uh HIK) ?_;clear HROW)
     | (refine wpList_store_row rfl 47 _ _ rfl wr.heap.size KB.toArray rfl rfl _ _ (uh HBN) (uh HIK2) (uh HZK) (uh HKO) ?_;rw[← uh HW5])
     | (refine wpList_load_mid rfl 47 _ rfl wr.heap.size 0 rfl KB _ (uh H5) Tryz.underlying47 rfl (uh HIK) ?_;clear H5)
     | (rw[uh HLU]))
    refine cq.mono ?_
    rintro e w6 ⟨v6,rfl,⟨a6,c6,rfl,hb6,ht6⟩,g6⟩
    clear cq
    obtain ⟨r,hr⟩:∃ r:ObP,r=⟨o.1,o.2,a6,c6⟩:=⟨_,rfl⟩
    obtain ⟨dl,hdl⟩:∃ z,z=o.2.length:=⟨_,rfl⟩
    rw[← hdl]
    obtain ⟨W7,hW7,hB7,g7⟩:=zah w6 42 [.int .i64 o.1,.slice a6 dl c6]
    have hbs:(Instr.buildSlice 22 1 #[(0,.agg #[.int .i64 o.1,.slice a6 dl c6])]).run Tryz.prog w6 = .ok (.slice (some ⟨w6.heap.size,0,none⟩) 1 1) W7:=by rw[hW7];exact zow _ _ _ _ w6
    have g57:=tn g6 g7
    have hO7:=(uh HRO5).stay g57
    have hown:=hO7.own
    rw[uh HRL] at hown
    have hrP:obP r=[.int .i64 o.1,.slice a6 dl c6]:=by rw[hr,hdl];rfl
    have hb7:Bts W7 r.ao r.c r.d:=by rw[hr];exact hb6.kept g7 (fun _ e=>by cases e)
    have ht7:∀ ad,r.ao=some ad→Typ W7 ad.block∨ad.block<w.heap.size:=fun ad e=>by
     rw[hr] at e
     exact Or.inl ((ht6 ad e).2.kept g7 (by simp))
    have hi9:i≤100000:=by omega
    have hbase:w2.heap.size≤W7.heap.size:=(tn (uh HG5) g57).size
    obtain ⟨HBS,HOWN,HB7,HO7,HBT,HTT⟩:=zh6 hbs hown hB7 hO7 hb7 ht7
    obtain ⟨HRP,HRE⟩:=zh2 hrP hr
    have HG7:=hide (tn (uh HG5) g57)
    clear hbs hown hB7 hO7 hb7 ht7 hrP hr g57 g7 g6 hW7 hb6 ht6 hdl
    go_wp2_with (first
     | (refine zav rfl 22 _ rfl (.agg #[.int .i64 o.1,.slice a6 dl c6]) _ rfl (uh HBS) ?_;(try simp only[pq]))
     | (refine zeg rfl _ _ rfl w2.heap.size _ i _ rfl (uh HOWN) _ [.int .i64 o.1,.slice a6 dl c6] (uh HB7) rfl (by intro u hu;simp only[List.mem_cons,List.not_mem_nil,or_false] at hu;rcases hu with rfl | rfl <;> rfl) rfl hi9 hbase ?_;intro v8 w8 ho8 g8;have HO8:=hide ho8;have HG8:=hide g8;clear ho8 g8;(try simp only[pq])))
    go_roundw
    case rel =>
     refine ⟨i+1,R++[r],by go_num,by omega,⟨?_,?_,?_⟩⟩
     ·refine (uh HO7).put r (uh HBT) (uh HTT) (uh HG8) ?_
      rw[uh HRL,uh HRP]
      exact uh HO8
     ·rw[List.map_append,uh HRS,uh HNX,uh HRE];rfl
     ·exact zac (uh HG7) (uh HG8) (fun y e=>Or.inl ((uh HO7).own.lt y e).1)
    case measure=>simp[intOf];omega
   ·have hiz:¬ (i:Int)<(sn:Int):=by omega
    go_wp2_with fail
    go_ret2
    obtain ⟨hRo,hRs,hg⟩:=uh HR
    rw[List.take_of_length_le (by have:=uh HSN;omega)] at hRs
    have hRo2:=hRo.low (uh HG2).size (Nat.le_refl _)
    exact Or.inl ⟨_,R,s,rfl,uh HP,hRs,hRo2,tn (uh HG2) hg⟩
 ·go_wp2_with fail
  go_ret2
  exact Or.inr ⟨rfl,hno,g2⟩
def zqx (w w' : World) (b:List UInt8) (e:Ending):Prop :=
 (∃ v s,e = .returned (.tuple #[v,.int .i64 0])∧PackOf b s∧w'.ownsRow w.heap.size 49 34 v s.length ((List.range s.length).flatMap (plO s))∧w.grownBy w' none) ∨
 (e = .returned (.tuple #[.slice none 0 0,.int .i64 11])∧(∀ t,¬ PackOf b t)∧w.grownBy w' none)
set_option maxHeartbeats 8000000 in
theorem zk4 (w:World) (ao:Option Addr) (c:Nat) (b:List UInt8) (hb:Bts w ao c b) (hl:b.length≤200000) (hT:Tabs w) :
  Calls Tryz.prog 15 #[.slice ao b.length c] w fun e w'=>zqx w w' b e:=by
 have co:=zej w ao c b hb hl hT
 obtain ⟨n,hn⟩:∃ n,n=b.length:=⟨_,rfl⟩
 rw[← hn] at co ⊢
 have HN:=hide hn
 clear hn hb hl hT
 go_enter Tryz.func15,Tryz.ntmps15
 go_wp2_with fail
 refine co.mono ?_
 rintro e w2 hop
 clear co
 rcases hop with ⟨v,m,s,K,rfl,hP,hO,hM,hK,g2⟩ | ⟨rfl,hno,g2⟩
 ·obtain ⟨ia,ic,rfl,hat⟩:=zo3 hO
  obtain ⟨sn,hsn⟩:∃ z,z=s.length:=⟨_,rfl⟩
  rw[← hsn]
  have hs9:sn≤256:=by rw[hsn];exact hP.few
  obtain ⟨HP,HM,HK,HAT,HG2,HSN⟩:=zh6 hP hM hK hat g2 hsn
  clear hP hO hM hK g2 hat hsn
  go_wp2_with fail
  go_loopw [7,9,21] (fun v7 _x9 vi wr=>∃ (i:Nat),vi = .int .i64 i∧i≤sn∧Hid (wr.ownsRow w2.heap.size 49 34 v7 i ((List.range i).flatMap (plO s))∧w2.grownBy wr none)) (fun _ _ vi _=>sn - (intOf vi).toNat)
  case atStart=>exact ⟨0,rfl,Nat.zero_le _,⟨World.ownsRow_nil _ _ _ _,zab _ _⟩⟩
  case round =>
   obtain ⟨i,rfl,hin,HR⟩:=hrel
   by_cases hi:i<sn
   ·have hiz:(i:Int)<(sn:Int):=by omega
    have hiw:IntKind.i64.wrap ((i:Int)+1)=(i:Int)+1:=by rw[IntKind.wrap_i64];omega
    have his:i<s.length:=by rw[← uh HSN];exact hi
    obtain ⟨ib,io,rfl,hrow⟩:=uh HAT i his
    obtain ⟨hRo,hg⟩:=uh HR
    have hr:=hrow wr hg
    obtain ⟨o,ho⟩:∃ o,o=s[i]:=⟨_,rfl⟩
    obtain ⟨IB,hIB⟩:∃ I,I=obId o:=⟨_,rfl⟩
    have hIBl:IB.length=32:=by rw[hIB];exact zbe _
    obtain ⟨KB,hKB⟩:∃ k,k=IB.map bv:=⟨_,rfl⟩
    rw[← ho,← hIB,← hKB] at hr
    have hKl:KB.length=32:=by rw[hKB,List.length_map,hIBl]
    have hK1:∀ u∈KB,u.oneCell'=true:=by rw[hKB];exact zaw _
    have hKo:KB.toArray.all (·.oneCell')=true:=all_oneCell_toArray hK1
    have hiK:(Tryz.prog.info? 47).map (·.size)=some KB.length:=by rw[hKl];exact zax
    have hiK2:(Tryz.prog.info? 47).map (·.size)=some KB.toArray.size:=by simpa using hiK
    obtain ⟨Z,hZ,hzv⟩:=zc8
    have hZK:Z.toList.toArray.size=KB.toArray.size:=by simp[hZ,hKl]
    obtain ⟨W5,hW5,hB5,g5⟩:=zbg wr 47 Z KB
    have hBN:Blk (wr.alloc (.cells Z 47)) wr.heap.size 47 Z.toList:=by simpa using Blk.new wr 47 Z.toList
    have h5:=zal hB5
    have G5:=tn hg g5
    have hM5:=(uh HM).none G5
    obtain ⟨a9,ha9⟩:∃ z,z=offO s i:=⟨_,rfl⟩
    obtain ⟨n9,hn9⟩:∃ z,z=5+o.2.length:=⟨_,rfl⟩
    obtain ⟨PC,hPC⟩:∃ P,P=plC IB a9 n9:=⟨_,rfl⟩
    have hlu:(Instr.lookup 70 (.map (some m)) (.agg KB.toArray) false).run Tryz.prog W5 = .ok (.agg PC.toArray) W5:=by
     have:=hM5.look 70 49 Tryz.underlying70 _ (zd4 W5) IB hIBl false
     rw[hIB,ho,(uh HK).get i his] at this
     rw[hKB,hPC,hIB,ha9,hn9,ho]
     exact this
    have hPO:plO s i=PC:=by rw[zoz his,hPC,hIB,ha9,hn9,ho]
    have hPl:PC.length=34:=by rw[← hPO];exact zmx s i
    have hP1:∀ u∈PC,u.oneCell'=true:=by rw[hPC];exact zi0 _ _ _
    obtain ⟨W7,hW7,hB7,g7⟩:=zah W5 49 PC
    have hbs:(Instr.buildSlice 38 1 #[(0,.agg PC.toArray)]).run Tryz.prog W5 = .ok (.slice (some ⟨W5.heap.size,0,none⟩) 1 1) W7:=by rw[hW7,hPC];exact zqw IB hIBl a9 n9 W5
    have hO7:=zd3 hRo (tn g5 g7)
    have hi9:i≤100000:=by omega
    have hbase:w2.heap.size≤W7.heap.size:=(tn G5 g7).size
    obtain ⟨HPO,HPL,HP1,HBS,HO7,HB7⟩:=zh6 hPO hPl hP1 hbs hO7 hB7
    have HG7:=hide (tn G5 g7)
    clear hPO hPl hP1 hbs hO7 hB7 g7 hW7
    obtain ⟨HIK,HIK2,HZK,HKO,HBN,HW5⟩:=zh6 hiK hiK2 hZK hKo hBN hW5
    obtain ⟨H5,HROW,HLU⟩:=zh3 h5 hr hlu
    clear hiK hiK2 hZK hKo hBN hW5 h5 hr hlu G5 hg g5 hB5 hM5 ha9 hn9 hPC hKB hKl hK1 hIB hIBl ho hZ hrow hRo
    go_wp2_with (first
     | (refine wpList_load_mid rfl 47 _ rfl ib (io+i*32) rfl KB _ (uh HROW) Tryz.underlying47 rfl (uh HIK) ?_;clear HROW)
     | (refine wpList_store_row rfl 47 _ _ rfl wr.heap.size KB.toArray rfl rfl _ _ (uh HBN) (uh HIK2) (uh HZK) (uh HKO) ?_;rw[← uh HW5])
     | (refine wpList_load_mid rfl 47 _ rfl wr.heap.size 0 rfl KB _ (uh H5) Tryz.underlying47 rfl (uh HIK) ?_;clear H5)
     | (rw[uh HLU])
     | (refine zav rfl 38 _ rfl (.agg PC.toArray) _ rfl (uh HBS) ?_;(try simp only[pq]))
     | (refine zei rfl _ _ rfl w2.heap.size _ i _ rfl (uh HO7) _ PC (uh HB7) (uh HPL) (uh HP1) rfl hi9 hbase ?_;intro v8 w8 ho8 g8;have HO8:=hide ho8;have HG8:=hide g8;clear ho8 g8;(try simp only[pq])))
    go_roundw
    case rel =>
     refine ⟨i+1,by go_num,by omega,⟨?_,?_⟩⟩
     ·rw[List.range_succ,List.flatMap_append,List.flatMap_cons,List.flatMap_nil,List.append_nil,uh HPO]
      exact uh HO8
     ·exact zac (uh HG7) (uh HG8) (fun y e=>Or.inl ((uh HO7).lt y e).1)
    case measure=>simp[intOf];omega
   ·have hiz:¬ (i:Int)<(sn:Int):=by omega
    go_wp2_with fail
    go_ret2
    obtain ⟨hRo,hg⟩:=uh HR
    have hsi:i=s.length:=by have:=uh HSN;omega
    rw[hsi] at hRo
    have hRo2:=zb5 hRo (uh HG2).size
    exact Or.inl ⟨_,s,rfl,uh HP,hRo2,tn (uh HG2) hg⟩
 ·go_wp2_with fail
  go_ret2
  exact Or.inr ⟨rfl,hno,g2⟩
end Go.Proofs.YtegbbkgmiklhcaaGreatDoor
