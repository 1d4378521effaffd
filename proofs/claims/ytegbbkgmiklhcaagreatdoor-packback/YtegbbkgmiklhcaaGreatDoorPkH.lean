/- Lemmas. -/
import Derived.Test.YtegbbkgmiklhcaaGreatDoorPkE
namespace Go.Proofs.YtegbbkgmiklhcaaGreatDoor
open Go.RowKit
set_option maxRecDepth 100000
structure Obo (w:World) (lim base:Nat) (v:Value) (R:List ObP):Prop where
 own:w.ownsRow base 42 2 v R.length (R.flatMap obP)
 bts:∀ r∈R,Bts w r.ao r.c r.d
 typ:∀ r∈R,∀ ad,r.ao=some ad→Typ w ad.block∨ad.block<lim
 le:lim≤base
theorem Obo.nil (w:World) {lim base:Nat} (h:lim≤base):Obo w lim base (.slice none 0 0) []:=⟨World.ownsRow_nil w base _ 2,(fun _ e=>by cases e),(fun _ e=>by cases e),h⟩
theorem Obo.stay {w a:World} {lim base:Nat} {v:Value} {R:List ObP} (h:Obo w lim base v R) (g:w.grownBy a none):Obo a lim base v R :=
 ⟨zeq h.own g,fun r hr=>(h.bts r hr).kept g (fun _ e=>by cases e),fun r hr ad e=>(h.typ r hr ad e).imp (fun q=>q.kept g (by simp)) id,h.le⟩
theorem Obo.low {w:World} {lim base b2:Nat} {v:Value} {R:List ObP} (h:Obo w lim base v R) (h1:b2≤base) (h2:lim≤b2):Obo w lim b2 v R :=
 ⟨zca h.own h1,h.bts,h.typ,h2⟩
theorem Obo.put {w a:World} {lim base:Nat} {v v2:Value} {R:List ObP} (h:Obo w lim base v R) (r:ObP) (hb:Bts w r.ao r.c r.d) (ht:∀ ad,r.ao=some ad→Typ w ad.block∨ad.block<lim) (g:w.grownBy a v.ownBlock)
  (ho:a.ownsRow base 42 2 v2 (R.length+1) (R.flatMap obP++obP r)):Obo a lim base v2 (R++[r]):=by
 have ne:∀ x,v.ownBlock=some x→¬ Typ w x∧base≤x:=fun x e=>⟨zbu h.own e (by decide),(h.own.lt x e).1⟩
 have hle:=h.le
 have all:∀ q∈R++[r],Bts w q.ao q.c q.d∧∀ ad,q.ao=some ad→Typ w ad.block∨ad.block<lim:=by
  intro q hq
  rcases List.mem_append.1 hq with h1 | h1
  ·exact ⟨h.bts q h1,h.typ q h1⟩
  ·rw[List.mem_singleton.1 h1];exact ⟨hb,ht⟩
 have off:∀ q∈R++[r],∀ x,v.ownBlock=some x→∀ ad,q.ao=some ad→ad.block≠x:=fun q hq x e ad e2 e3=>by
  rcases (all q hq).2 ad e2 with h1 | h1
  ·exact (ne x e).1 (by rw[← e3];exact h1)
  ·have:=(ne x e).2;omega
 refine ⟨by simpa using ho,fun q hq=>(all q hq).1.kept g (fun x e ad e2 e3=>off q hq x e ad e2 e3),fun q hq ad e => ?_,hle⟩
 rcases (all q hq).2 ad e with h1 | h1
 ·exact Or.inl (h1.kept g (fun e2=>off q hq _ e2.symm ad e rfl))
 ·exact Or.inr h1
theorem Obo.sl {w:World} {lim base:Nat} {v:Value} {R:List ObP} (h:Obo w lim base v R):∃ ao c,v = .slice ao R.length c∧Obsl w ao c R:=by
 obtain ⟨ao,c,h1,h2,h3,h4,h5,h6⟩:=zde obP 2 h.own (fun _ _=>rfl)
 exact ⟨ao,c,h1,⟨h2,h3,h4,fun ad e _=>(h5 ad e).1,h6,h.bts⟩⟩
theorem zjd:(Tryz.prog.info? 49).map (·.size)=some 34:=by kernel_rfl
theorem zer (w:World):(zeroValue 49).run Tryz.prog w = .ok (.agg (plC (List.replicate 32 0) 0 0).toArray) w:=by kernel_rfl
theorem zmn (x:List UInt8) (a n:Nat):∀ u∈plC x a n,u.oneCell'=true:=by
 intro u hu
 unfold plC at hu
 rcases List.mem_append.1 hu with h | h
 ·exact zax _ u h
 ·simp only[List.mem_cons,List.not_mem_nil,or_false] at h
  rcases h with rfl | rfl <;> rfl
def plO (s:List Ob) (j:Nat):List Value:=plC (nmO s j) (offO s j) (5+(s.getD j (0,[])).2.length) where
 nmO (s:List Ob) (j:Nat):List UInt8:=obId (s.getD j (0,[]))
theorem zje {b:List UInt8} {s:List Ob} (h:PackOf b s) {j:Nat} (hj:j<s.length):offO s j+(5+s[j].2.length)≤b.length∧(b.drop (offO s j)).take (5+s[j].2.length)=obB s[j]:=by
 have hb:b=zdg s.length++(s.flatMap obB):=h.eq
 have hs:s.flatMap obB=(s.take j).flatMap obB++(obB s[j]++(s.drop (j+1)).flatMap obB):=by
  conv=>lhs;rw[← List.take_append_drop j s]
  rw[List.flatMap_append,List.drop_eq_getElem_cons hj,List.flatMap_cons]
 have ho:(obB s[j]).length=5+s[j].2.length:=zi2 _
 have hd:b.drop (offO s j)=obB s[j]++(s.drop (j+1)).flatMap obB:=by
  rw[hb,hs,← List.append_assoc]
  have hl:offO s j=(zdg s.length++(s.take j).flatMap obB).length:=by unfold offO;rw[List.length_append,zfe]
  rw[hl,List.drop_left]
 constructor
 ·have:=congrArg List.length hd
  rw[List.length_drop,List.length_append,ho] at this
  omega
 ·rw[hd,← ho,List.take_left]
theorem zqt {w:World} {base:Nat} {v:Value} {s:List Ob} (h:w.ownsRow base 47 32 v s.length ((s.map obId).flatMap (·.map bv))):∃ ao c,v = .slice ao s.length c∧∀ j (hj:j<s.length),∃ b o,ao=some ⟨b,o,none⟩∧∀ V,w.grownBy V none→V.rangeAt b (o+j*32) ((obId s[j]).map bv):=by
 have hmm:((s.map obId).flatMap (·.map bv))=s.flatMap (fun o=>(obId o).map bv):=by rw[List.flatMap_map]
 rw[hmm] at h
 obtain ⟨ao,c,e,hR,-⟩:=Rws.own (fun o=>(obId o).map bv) h (fun o _=>by rw[List.length_map,zbx])
 refine ⟨ao,c,e,fun j hj => ?_⟩
 obtain ⟨b,o,e2,hr⟩:=hR.at j hj
 exact ⟨b,o,e2,fun V g=>zac hr g (by simp)⟩
def zq6 (w w' : World) (b:List UInt8) (e:Ending):Prop :=
 (∃ v R s,e = .returned (.tuple #[v,.int .i64 0])∧PackOf b s∧R.map (·.o)=s∧Obo w' w.heap.size w.heap.size v R∧w.grownBy w' none) ∨
 (e = .returned (.tuple #[.slice none 0 0,.int .i64 11])∧(∀ t,¬ PackOf b t)∧w.grownBy w' none)
set_option maxHeartbeats 8000000 in
theorem zfn (w:World) (ao:Option Addr) (c:Nat) (b:List UInt8) (hb:Bts w ao c b) (hl:b.length≤100000) (hT:Tabs w) :
  Calls Tryz.prog 13 #[.slice ao b.length c] w fun e w'=>zq6 w w' b e:=by
 have co:=zf6 w ao c b hb hl hT
 obtain ⟨n,hn⟩:∃ n,n=b.length:=⟨_,rfl⟩
 have cr:∀ V,w.grownBy V none→_:=fun V g=>zf5 V ao c b (hb.kept g (fun _ e=>by cases e)) hl
 rw[← hn] at co ⊢
 simp only[← hn] at cr
 obtain ⟨HCR,HN⟩:=zh2 cr hn
 clear cr hn hb hl hT
 go_enter Tryz.func13,Tryz.ntmps13
 go_wp2_with fail
 refine co.mono ?_
 rintro e w2 hop
 clear co
 rcases hop with ⟨v,m,s,K,rfl,hP,hO,hM,hK,g2⟩ | ⟨rfl,hno,g2⟩
 ·obtain ⟨ia,ic,rfl,hat⟩:=zqt hO
  obtain ⟨sn,hsn⟩:∃ z,z=s.length:=⟨_,rfl⟩
  rw[← hsn]
  have hs9:sn≤256:=by rw[hsn];exact hP.few
  obtain ⟨HP,HM,HK,HAT,HG2,HSN⟩:=zh6 hP hM hK hat g2 hsn
  clear hP hO hM hK g2 hat hsn
  go_wp2_with fail
  go_loopw [7,9,21] (fun v7 _x9 vi wr=>∃ (i:Nat) (R:List ObP),vi = .int .i64 i∧i≤sn∧Hid (Obo wr w.heap.size w2.heap.size v7 R∧R.map (·.o)=s.take i∧w2.grownBy wr none)) (fun _ _ vi _=>sn - (intOf vi).toNat)
  case atStart=>exact ⟨0,[],rfl,Nat.zero_le _,⟨Obo.nil _ (uh HG2).size,by simp,zaa _ _⟩⟩
  case round =>
   obtain ⟨i,R,rfl,hin,HR⟩:=hrel
   by_cases hi:i<sn
   ·have hiz:(i:Int)<(sn:Int):=by omega
    have hiw:IntKind.i64.wrap ((i:Int)+1)=(i:Int)+1:=by rw[IntKind.wrap_i64];omega
    have his:i<s.length:=by rw[← uh HSN];exact hi
    obtain ⟨ib,io,rfl,hrow⟩:=uh HAT i his
    obtain ⟨hRo,hRs,hg⟩:=uh HR
    have hr:=hrow wr hg
    obtain ⟨o,ho⟩:∃ o,o=s[i]:=⟨_,rfl⟩
    obtain ⟨IB,hIB⟩:∃ I,I=obId o:=⟨_,rfl⟩
    have hIBl:IB.length=32:=by rw[hIB];exact zbx _
    obtain ⟨KB,hKB⟩:∃ k,k=IB.map bv:=⟨_,rfl⟩
    rw[← ho,← hIB,← hKB] at hr
    have hKl:KB.length=32:=by rw[hKB,List.length_map,hIBl]
    have hK1:∀ u∈KB,u.oneCell'=true:=by rw[hKB];exact zax _
    have hKo:KB.toArray.all (·.oneCell')=true:=all_oneCell_toArray hK1
    have hiK:(Tryz.prog.info? 47).map (·.size)=some KB.length:=by rw[hKl];exact zav
    have hiK2:(Tryz.prog.info? 47).map (·.size)=some KB.toArray.size:=by simpa using hiK
    obtain ⟨Z,hZ,hzv⟩:=zdm
    have hZK:Z.toList.toArray.size=KB.toArray.size:=by simp[hZ,hKl]
    obtain ⟨W5,hW5,hB5,g5⟩:=zbl wr 47 Z KB
    have hBN:Blk (wr.alloc (.cells Z 47)) wr.heap.size 47 Z.toList:=by simpa using Blk.new wr 47 Z.toList
    have h5:=zal hB5
    have G5:=tn hg g5
    have hM5:=(uh HM).none G5
    obtain ⟨a9,ha9⟩:∃ z,z=offO s i:=⟨_,rfl⟩
    obtain ⟨n9,hn9⟩:∃ z,z=5+o.2.length:=⟨_,rfl⟩
    obtain ⟨PC,hPC⟩:∃ P,P=plC IB a9 n9:=⟨_,rfl⟩
    have hlu:(Instr.lookup 70 (.map (some m)) (.agg KB.toArray) false).run Tryz.prog W5 = .ok (.agg PC.toArray) W5:=by
     have:=hM5.look 70 49 Tryz.underlying70 _ (zer W5) IB hIBl false
     rw[hIB,ho,(uh HK).get i his] at this
     rw[hKB,hPC,hIB,ha9,hn9,ho]
     exact this
    obtain ⟨hsg1,hsg2⟩:=zje (uh HP) his
    rw[← ho,← ha9,← hn9] at hsg1 hsg2
    have cq:=uh HCR W5 (tn (uh HG2) G5) IB hIBl a9 n9 (by rw[uh HN];exact hsg1) o ((uh HP).ok o (by rw[ho];exact List.getElem_mem _)) hsg2
    rw[← hPC] at cq
    have hnx:s.take (i+1)=s.take i++[o]:=by rw[List.take_succ_eq_append_getElem his,← ho]
    have hRl:R.length=i:=by have:=congrArg List.length hRs;simpa[Nat.min_eq_left (Nat.le_of_lt his)] using this
    obtain ⟨HNX,HRL,HIK,HIK2,HZK,HKO⟩:=zh6 hnx hRl hiK hiK2 hZK hKo
    obtain ⟨HBN,HW5,H5,HROW,HLU⟩:=zh5 hBN hW5 h5 hr hlu
    have HRO5:=hide (hRo.stay g5)
    obtain ⟨HG5,HRS⟩:=zh2 G5 hRs
    clear hnx hRl hiK hiK2 hZK hKo hBN hW5 h5 hr hlu hRs G5 hg g5 hB5 hM5 ha9 hn9 hPC hsg1 hsg2 hKB hKl hK1 hIB hIBl ho hZ hrow hRo
    go_wp2_with (first
     | (refine wpList_load_mid rfl 47 _ rfl ib (io+i*32) rfl KB _ (uh HROW) Tryz.underlying47 rfl (uh HIK) ?_;clear HROW)
     | (refine wpList_store_row rfl 47 _ _ rfl wr.heap.size KB.toArray rfl rfl _ _ (uh HBN) (uh HIK2) (uh HZK) (uh HKO) ?_;rw[← uh HW5])
     | (refine wpList_load_mid rfl 47 _ rfl wr.heap.size 0 rfl KB _ (uh H5) Tryz.underlying47 rfl (uh HIK) ?_;clear H5)
     | (rw[uh HLU]))
    refine cq.mono ?_
    rintro e w6 ⟨v6,rfl,⟨a6,c6,rfl,hb6,ht6⟩,g6⟩
    clear cq
    obtain ⟨r,hr⟩:∃ r:ObP,r=⟨o.1,o.2,a6,c6⟩:=⟨_,rfl⟩
    obtain ⟨dl,hdl⟩:∃ z,z=o.2.length:=⟨_,rfl⟩
    rw[← hdl]
    obtain ⟨W7,hW7,hB7,g7⟩:=zah w6 42 [.int .i64 o.1,.slice a6 dl c6]
    have hbs:(Instr.buildSlice 22 1 #[(0,.agg #[.int .i64 o.1,.slice a6 dl c6])]).run Tryz.prog w6 = .ok (.slice (some ⟨w6.heap.size,0,none⟩) 1 1) W7:=by rw[hW7];exact zmf _ _ _ _ w6
    have g57:=tn g6 g7
    have hO7:=(uh HRO5).stay g57
    have hown:=hO7.own
    rw[uh HRL] at hown
    have hrP:obP r=[.int .i64 o.1,.slice a6 dl c6]:=by rw[hr,hdl];rfl
    have hb7:Bts W7 r.ao r.c r.d:=by rw[hr];exact hb6.kept g7 (fun _ e=>by cases e)
    have ht7:∀ ad,r.ao=some ad→Typ W7 ad.block∨ad.block<w.heap.size:=fun ad e=>by
     rw[hr] at e
     exact Or.inl ((ht6 ad e).2.kept g7 (by simp))
    have hi9:i≤100000:=by omega
    have hbase:w2.heap.size≤W7.heap.size:=(tn (uh HG5) g57).size
    obtain ⟨HBS,HOWN,HB7,HO7,HBT,HTT⟩:=zh6 hbs hown hB7 hO7 hb7 ht7
    obtain ⟨HRP,HRE⟩:=zh2 hrP hr
    have HG7:=hide (tn (uh HG5) g57)
    clear hbs hown hB7 hO7 hb7 ht7 hrP hr g57 g7 g6 hW7 hb6 ht6 hdl
    go_wp2_with (first
     | (refine zau rfl 22 _ rfl (.agg #[.int .i64 o.1,.slice a6 dl c6]) _ rfl (uh HBS) ?_;(try simp only[pq]))
     | (refine zcs rfl _ _ rfl w2.heap.size _ i _ rfl (uh HOWN) _ [.int .i64 o.1,.slice a6 dl c6] (uh HB7) rfl (by intro u hu;simp only[List.mem_cons,List.not_mem_nil,or_false] at hu;rcases hu with rfl | rfl <;> rfl) rfl hi9 hbase ?_;intro v8 w8 ho8 g8;have HO8:=hide ho8;have HG8:=hide g8;clear ho8 g8;(try simp only[pq])))
    go_roundw
    case rel =>
     refine ⟨i+1,R++[r],by go_num,by omega,⟨?_,?_,?_⟩⟩
     ·refine (uh HO7).put r (uh HBT) (uh HTT) (uh HG8) ?_
      rw[uh HRL,uh HRP]
      exact uh HO8
     ·rw[List.map_append,uh HRS,uh HNX,uh HRE];rfl
     ·exact zab (uh HG7) (uh HG8) (fun y e=>Or.inl ((uh HO7).own.lt y e).1)
    case measure=>simp[intOf];omega
   ·have hiz:¬ (i:Int)<(sn:Int):=by omega
    go_wp2_with fail
    go_ret2
    obtain ⟨hRo,hRs,hg⟩:=uh HR
    rw[List.take_of_length_le (by have:=uh HSN;omega)] at hRs
    have hRo2:=hRo.low (uh HG2).size (Nat.le_refl _)
    exact Or.inl ⟨_,R,s,rfl,uh HP,hRs,hRo2,tn (uh HG2) hg⟩
 ·go_wp2_with fail
  go_ret2
  exact Or.inr ⟨rfl,hno,g2⟩
def zmo (w w' : World) (b x:List UInt8) (e:Ending):Prop :=
 (∃ s o v,PackOf b s∧o∈s∧obId o=x∧e = .returned (.tuple #[.agg #[.int .i64 o.1,v],.int .i64 0])∧NewB w w' v o.2∧w.grownBy w' none) ∨
 (∃ s,PackOf b s∧x∉s.map obId∧e = .returned (.tuple #[.agg #[.int .i64 0,.slice none 0 0],.int .i64 13])∧w.grownBy w' none) ∨
 (e = .returned (.tuple #[.agg #[.int .i64 0,.slice none 0 0],.int .i64 11])∧(∀ t,¬ PackOf b t)∧w.grownBy w' none)
theorem zmp (k:Int) (ao:Option Addr) (n c:Nat):(#[Value.int .i64 k,Value.slice ao n c]:Array Value).all (·.oneCell')=true:=by simp[Value.oneCell']
theorem zmq:∃ Z:Array Value,Z.size=34∧∀ w,(zeroValue 49).run Tryz.prog w = .ok (.agg Z) w:=⟨_,by simp[plC],zer⟩
set_option maxHeartbeats 8000000 in
theorem zhj (w:World) (ao:Option Addr) (c:Nat) (b:List UInt8) (hb:Bts w ao c b) (hl:b.length≤100000) (hT:Tabs w) (x:List UInt8) (hx:x.length=32) :
  Calls Tryz.prog 18 #[.slice ao b.length c,.agg (x.map bv).toArray] w fun e w'=>zmo w w' b x e:=by
 have co:∀ V,w.grownBy V none→Calls Tryz.prog 29 #[.slice ao b.length c] V fun e w'=>zou V w' b e:=fun V g=>zf6 V ao c b (hb.kept g (fun _ e=>by cases e)) hl (hT.kept0 g)
 have cr:∀ V,w.grownBy V none→_:=fun V g=>zf5 V ao c b (hb.kept g (fun _ e=>by cases e)) hl
 obtain ⟨n,hn⟩:∃ n,n=b.length:=⟨_,rfl⟩
 rw[← hn] at co ⊢
 simp only[← hn] at cr
 obtain ⟨KB,hKB⟩:∃ k,k=x.map bv:=⟨_,rfl⟩
 rw[← hKB]
 have hKl:KB.length=32:=by rw[hKB,List.length_map,hx]
 have hiK:(Tryz.prog.info? 47).map (·.size)=some KB.length:=by rw[hKl];exact zav
 obtain ⟨W1,hW1,hB1,g1⟩:=zah w 47 KB
 obtain ⟨W2,hW2,hB2,g2⟩:∃ W2,W2=W1.alloc (.cells #[.int .i64 0,.slice none 0 0] 42)∧Blk W2 W1.heap.size 42 [.int .i64 0,.slice none 0 0]∧W1.grownBy W2 none:=zah W1 _ _
 have hs1:W1.heap.size=w.heap.size+1:=by rw[hW1];simp
 rw[hs1] at hB2
 have G2:=tn g1 g2
 have hB12:=hB1.kept g2 (by simp)
 have co2:=co W2 G2
 obtain ⟨ZP,hZP,hzp⟩:=zmq
 have HW:=hide (show W2=(w.alloc (.cells KB.toArray 47)).alloc (.cells #[.int .i64 0,.slice none 0 0] 42) by rw[hW2,hW1])
 obtain ⟨HB1,HB2,HG2,HCR,HN,HKB⟩:=zh6 hB12 hB2 G2 cr hn hKB
 obtain ⟨HIK,HX,HZP⟩:=zh3 hiK hx hZP
 clear cr co hn hb hl hT hKB hKl hiK hW1 hB1 g1 hW2 hB2 g2 hs1 G2 hB12 hx hZP
 go_enter Tryz.func18,Tryz.ntmps18
 go_wp2_with (rw[← uh HW])
 refine co2.mono ?_
 rintro e w3 hop
 clear co2
 rcases hop with ⟨v,m,s,K,rfl,hP,hO,hM,hK,g3⟩ | ⟨rfl,hno,g3⟩
 ·have HP:=hide hP
  obtain ⟨HM,HK,HG3⟩:=zh3 hM hK g3
  have hB1:=(uh HB1).kept g3 (by simp)
  have hB2:=(uh HB2).kept g3 (by simp)
  have hr1:=zal hB1
  obtain ⟨HR1,HB3⟩:=zh2 hr1 hB2
  clear hP hM hK g3 hB1 hB2 hr1 hO
  by_cases hin:x∈s.map obId
  ·obtain ⟨o,hos,hoi⟩:=List.mem_map.1 hin
   obtain ⟨i,hi,hio⟩:=List.mem_iff_getElem.1 hos
   obtain ⟨a9,ha9⟩:∃ z,z=offO s i:=⟨_,rfl⟩
   obtain ⟨n9,hn9⟩:∃ z,z=5+o.2.length:=⟨_,rfl⟩
   obtain ⟨PC,hPC⟩:∃ P,P=plC x a9 n9:=⟨_,rfl⟩
   have hPl:PC.length=34:=by rw[hPC];exact zp1 x (uh HX) _ _
   have hlu:(Instr.lookup 70 (.map (some m)) (.agg KB.toArray) true).run Tryz.prog w3 = .ok (.tuple #[.agg PC.toArray,.bool true]) w3:=by
    have:=(uh HM).look 70 49 Tryz.underlying70 _ (zer w3) x (uh HX) true
    have hg:=(uh HK).get i hi
    rw[hio,hoi] at hg
    rw[hg] at this
    rw[uh HKB,hPC,ha9,hn9]
    exact this
   obtain ⟨hsg1,hsg2⟩:=zje (uh HP) hi
   rw[hio,← ha9,← hn9] at hsg1 hsg2
   obtain ⟨W5,hW5,hB5,g5⟩:=zbl w3 49 ZP PC
   have hBN:Blk (w3.alloc (.cells ZP 49)) w3.heap.size 49 ZP.toList:=by simpa using Blk.new w3 49 ZP.toList
   have h5:=zal hB5
   have hiP:(Tryz.prog.info? 49).map (·.size)=some PC.length:=by rw[hPl];exact zjd
   have hiP2:(Tryz.prog.info? 49).map (·.size)=some PC.toArray.size:=by simpa using hiP
   have hZK:ZP.toList.toArray.size=PC.toArray.size:=by simp[uh HZP,hPl]
   have hPo:PC.toArray.all (·.oneCell')=true:=all_oneCell_toArray (by rw[hPC];exact zmn _ _ _)
   have cq:=uh HCR W5 (tn (tn (uh HG2) (uh HG3)) g5) x (uh HX) a9 n9 (by rw[uh HN];exact hsg1) o ((uh HP).ok o hos) hsg2
   rw[← hPC] at cq
   have HB35:=hide ((uh HB3).kept g5 (by simp))
   obtain ⟨HLU,HBN,HW5,H5,HIP,HIP2⟩:=zh6 hlu hBN hW5 h5 hiP hiP2
   obtain ⟨HZK,HPO⟩:=zh2 hZK hPo
   have HOS:=hide (And.intro hos hoi)
   have HG5:=hide (tn (tn (uh HG2) (uh HG3)) g5)
   clear hlu hBN hW5 h5 hiP hiP2 hZK hPo hos hoi g5 hB5 hsg1 hsg2 hPl hPC ha9 hn9 hio hi hin
   go_wp2_with (first
    | (refine wpList_load_mid rfl 47 _ rfl w.heap.size 0 rfl KB _ (uh HR1) Tryz.underlying47 rfl (uh HIK) ?_;clear HR1)
    | (rw[uh HLU])
    | (refine wpList_store_row rfl 49 _ _ rfl w3.heap.size PC.toArray rfl rfl _ _ (uh HBN) (uh HIP2) (uh HZK) (uh HPO) ?_;rw[← uh HW5])
    | (refine wpList_load_mid rfl 49 _ rfl w3.heap.size 0 rfl PC _ (uh H5) Tryz.underlying49 rfl (uh HIP) ?_;clear H5))
   refine cq.mono ?_
   rintro e w6 ⟨v6,rfl,⟨a6,c6,rfl,hb6,ht6⟩,g6⟩
   clear cq
   have hBr:=(uh HB35).kept g6 (by simp)
   have HN6:=hide (And.intro hb6 ht6)
   have HG6:=hide (tn (uh HG5) g6)
   have HS:=hide (show w.heap.size≤W5.heap.size from (uh HG5).size)
   clear hb6 ht6 g6
   go_wp2_with (refine wpList_store_row rfl 42 _ _ rfl (w.heap.size+1) #[.int .i64 o.1,.slice a6 o.2.length c6] rfl rfl _ _ hBr zap rfl (zmp _ _ _ _) ?_)
   obtain ⟨hb6,ht6⟩:=uh HN6
   have g7:w6.grownBy (w6.setRow (w.heap.size+1) #[.int .i64 o.1,.slice a6 o.2.length c6]) (some (w.heap.size+1)):=zar (zaa _ _) _ (Or.inr rfl)
   have h2:w.heap.size+1<W5.heap.size:=(uh HB35).lt
   refine bodyPost_ret (zag rfl _ _ _ _ _ _ _ rfl (hBr.row [.int .i64 o.1,.slice a6 o.2.length c6]) Tryz.underlying42 rfl zap) rfl ?_
   refine Or.inl ⟨s,o,_,uh HP,(uh HOS).1,(uh HOS).2,rfl,⟨a6,c6,rfl,hb6.kept g7 (fun y e => ?_),fun ad e=>⟨?_,(ht6 ad e).2.kept g7 ?_⟩⟩,zar (uh HG6) _ (Or.inl (Nat.le_succ _))⟩
   ·cases e
    intro ad e2
    have:=(ht6 ad e2).1
    omega
   ·have:=(ht6 ad e).1
    omega
   ·have:=(ht6 ad e).1
    simp only[ne_eq,Option.some.injEq]
    omega
  ·obtain ⟨PC,hPC⟩:∃ P,P=ZP.toList:=⟨_,rfl⟩
   have hZP2:ZP=PC.toArray:=by rw[hPC]
   have hlu:(Instr.lookup 70 (.map (some m)) (.agg KB.toArray) true).run Tryz.prog w3 = .ok (.tuple #[.agg PC.toArray,.bool false]) w3:=by
    have:=(uh HM).look 70 49 Tryz.underlying70 _ (hzp w3) x (uh HX) true
    rw[zhg (fun h=>hin (((uh HK).keys x).1 h))] at this
    rw[uh HKB,← hZP2]
    exact this
   have hP1:∀ u∈PC,u.oneCell'=true:=by
    have h1:=hzp w3
    rw[zer w3] at h1
    injection h1 with h1
    injection h1 with h1
    rw[hPC,← h1]
    exact zmn _ _ _
   have hPl:PC.length=34:=by rw[hPC];simpa using uh HZP
   obtain ⟨W5,hW5,hB5,g5⟩:=zbl w3 49 ZP PC
   have hBN:Blk (w3.alloc (.cells ZP 49)) w3.heap.size 49 ZP.toList:=by simpa using Blk.new w3 49 ZP.toList
   have hiP2:(Tryz.prog.info? 49).map (·.size)=some PC.toArray.size:=by rw[List.size_toArray,hPl];exact zjd
   have hZK:ZP.toList.toArray.size=PC.toArray.size:=by simp[uh HZP,hPl]
   have hPo:PC.toArray.all (·.oneCell')=true:=all_oneCell_toArray hP1
   have hBr:=(uh HB3).kept g5 (by simp)
   obtain ⟨HLU,HBN,HW5,HIP2,HZK,HPO⟩:=zh6 hlu hBN hW5 hiP2 hZK hPo
   have HIN:=hide hin
   have HG5:=hide (tn (tn (uh HG2) (uh HG3)) g5)
   clear hlu hBN hW5 hiP2 hZK hPo g5 hB5 hP1 hin hPC hZP2 hPl
   go_wp2_with (first
    | (refine wpList_load_mid rfl 47 _ rfl w.heap.size 0 rfl KB _ (uh HR1) Tryz.underlying47 rfl (uh HIK) ?_;clear HR1)
    | (rw[uh HLU])
    | (refine wpList_store_row rfl 49 _ _ rfl w3.heap.size PC.toArray rfl rfl _ _ (uh HBN) (uh HIP2) (uh HZK) (uh HPO) ?_;rw[← uh HW5])
    | (refine wpList_store_row rfl 42 _ _ rfl (w.heap.size+1) #[.int .i64 0,.slice none 0 0] rfl rfl _ _ hBr zap rfl (zmp _ _ _ _) ?_))
   refine bodyPost_ret (zag rfl _ _ _ _ _ _ _ rfl (hBr.row [.int .i64 0,.slice none 0 0]) Tryz.underlying42 rfl zap) rfl ?_
   exact Or.inr (Or.inl ⟨s,uh HP,uh HIN,rfl,zar (uh HG5) _ (Or.inl (Nat.le_succ _))⟩)
 ·have hB2:=(uh HB2).kept g3 (by simp)
  have HNO:=hide hno
  have HG3:=hide (tn (uh HG2) g3)
  clear hno g3
  go_wp2_with (refine wpList_store_row rfl 42 _ _ rfl (w.heap.size+1) #[.int .i64 0,.slice none 0 0] rfl rfl _ _ hB2 zap rfl (zmp _ _ _ _) ?_)
  refine bodyPost_ret (zag rfl _ _ _ _ _ _ _ rfl (hB2.row [.int .i64 0,.slice none 0 0]) Tryz.underlying42 rfl zap) rfl ?_
  exact Or.inr (Or.inr ⟨rfl,uh HNO,zar (uh HG3) _ (Or.inl (Nat.le_succ _))⟩)
end Go.Proofs.YtegbbkgmiklhcaaGreatDoor
