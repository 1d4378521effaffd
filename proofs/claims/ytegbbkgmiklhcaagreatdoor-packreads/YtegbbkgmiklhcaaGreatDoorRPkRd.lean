/- Lemmas. -/
import Derived.Test.YtegbbkgmiklhcaaGreatDoorPkE
import Derived.Test.YtegbbkgmiklhcaaGreatDoorRPkPut
import Derived.Deep.DeepCutAuto
namespace Go.Proofs.YtegbbkgmiklhcaaGreatDoor
open Go.RowKit
set_option maxRecDepth 100000
structure Obo (w:World) (lim base:Nat) (v:Value) (R:List ObP):Prop where
 own:w.ownsRow base 42 2 v R.length (R.flatMap obP)
 bts:∀ r∈R,Bts w r.ao r.c r.d
 typ:∀ r∈R,∀ ad,r.ao=some ad→Typ w ad.block∨ad.block<lim
 le:lim≤base
theorem Obo.nil (w:World) {lim base:Nat} (h:lim≤base):Obo w lim base (.slice none 0 0) []:=⟨World.ownsRow_nil w base _ 2,(fun _ e=>by cases e),(fun _ e=>by cases e),h⟩
theorem Obo.stay {w a:World} {lim base:Nat} {v:Value} {R:List ObP} (h:Obo w lim base v R) (g:w.grownBy a none):Obo a lim base v R :=
 ⟨zgp h.own g,fun r hr=>(h.bts r hr).kept g (fun _ e=>by cases e),fun r hr ad e=>(h.typ r hr ad e).imp (fun q=>q.kept g (by simp)) id,h.le⟩
theorem Obo.low {w:World} {lim base b2:Nat} {v:Value} {R:List ObP} (h:Obo w lim base v R) (h1:b2≤base) (h2:lim≤b2):Obo w lim b2 v R :=
 ⟨zbs h.own h1,h.bts,h.typ,h2⟩
theorem Obo.put {w a:World} {lim base:Nat} {v v2:Value} {R:List ObP} (h:Obo w lim base v R) (r:ObP) (hb:Bts w r.ao r.c r.d) (ht:∀ ad,r.ao=some ad→Typ w ad.block∨ad.block<lim) (g:w.grownBy a v.ownBlock)
  (ho:a.ownsRow base 42 2 v2 (R.length+1) (R.flatMap obP++obP r)):Obo a lim base v2 (R++[r]):=by
 have ne:∀ x,v.ownBlock=some x→¬ Typ w x∧base≤x:=fun x e=>⟨zcq h.own e (by decide),(h.own.lt x e).1⟩
 have hle:=h.le
 have all:∀ q∈R++[r],Bts w q.ao q.c q.d∧∀ ad,q.ao=some ad→Typ w ad.block∨ad.block<lim:=by
  intro q hq
  rcases List.mem_append.1 hq with h1 | h1
  ·exact ⟨h.bts q h1,h.typ q h1⟩
  ·rw[List.mem_singleton.1 h1];exact ⟨hb,ht⟩
 have off:∀ q∈R++[r],∀ x,v.ownBlock=some x→∀ ad,q.ao=some ad→ad.block≠x:=fun q hq x e ad e2 e3=>by
  rcases (all q hq).2 ad e2 with h1 | h1
  ·exact (ne x e).1 (by rw[← e3];exact h1)
  ·have:=(ne x e).2;omega
 refine ⟨by simpa using ho,fun q hq=>(all q hq).1.kept g (fun x e ad e2 e3=>off q hq x e ad e2 e3),fun q hq ad e => ?_,hle⟩
 rcases (all q hq).2 ad e with h1 | h1
 ·exact Or.inl (h1.kept g (fun e2=>off q hq _ e2.symm ad e rfl))
 ·exact Or.inr h1
theorem Obo.sl {w:World} {lim base:Nat} {v:Value} {R:List ObP} (h:Obo w lim base v R):∃ ao c,v = .slice ao R.length c∧Obsl w ao c R:=by
 obtain ⟨ao,c,h1,h2,h3,h4,h5,h6⟩:=zeh obP 2 h.own (fun _ _=>rfl)
 exact ⟨ao,c,h1,⟨h2,h3,h4,fun ad e _=>(h5 ad e).1,h6,h.bts⟩⟩
theorem zqk:(Tryz.prog.info? 49).map (fun i=>(i.zero,i.size,i.bytes))=some (some (.agg (plC (List.replicate 32 0) 0 0).toArray),34,48):=by kernel_rfl
theorem zi1:(Tryz.prog.info? 49).map (·.size)=some 34:=by kernel_rfl
theorem zfl (w:World):(zeroValue 49).run Tryz.prog w = .ok (.agg (plC (List.replicate 32 0) 0 0).toArray) w:=by kernel_rfl
theorem zlg (x:List UInt8) (a n:Nat):∀ u∈plC x a n,u.oneCell'=true:=by
 intro u hu
 unfold plC at hu
 rcases List.mem_append.1 hu with h | h
 ·exact za6 _ u h
 ·simp only[List.mem_cons,List.not_mem_nil,or_false] at h
  rcases h with rfl | rfl <;> rfl
theorem zvb (x:List UInt8) (hx:x.length=32) (a n:Nat) (V:World):(Instr.buildSlice 38 1 #[(0,.agg (plC x a n).toArray)]).run Tryz.prog V = .ok (.slice (some ⟨V.heap.size,0,none⟩) 1 1) (V.alloc (.cells (plC x a n).toArray 49)):=by
 obtain ⟨a0,a1,a2,a3,a4,a5,a6,a7,a8,a9,a10,a11,a12,a13,a14,a15,a16,a17,a18,a19,a20,a21,a22,a23,a24,a25,a26,a27,a28,a29,a30,a31,rfl⟩:=zea x hx
 kernel_rfl
theorem zf2 {w:World} {ops:Array Oper} {rest:List Oper} {o:Oper} {a:Act} {Q:Exit→Act→World→Prop} (hgd:o.guard=none) (s x:Operand)
  (ho:o.op = .call { callee := .builtin .append,args := #[s,x],argTypes := #[38,38] })
  (base:Nat) (v:Value) (n:Nat) (xs:List Value) (hs:a.eval s=v) (hown:w.ownsRow base 49 34 v n xs) (p:Nat) (EC:List Value) (hB:Blk w p 49 EC) (hEl:EC.length=34) (hE1:∀ u∈EC,u.oneCell'=true)
  (hx:a.eval x = .slice (some ⟨p,0,none⟩) 1 1) (hn:n≤100000) (hbase:base≤w.heap.size)
  (h:∀ v' w',w'.ownsRow base 49 34 v' (n+1) (xs++EC)→w.grownBy w' v.ownBlock→wpList Tryz.prog ops Q rest (a.put o.dst v') w'):wpList Tryz.prog ops Q (o::rest) a w:=by
 obtain ⟨i0,hi,hz0,hz1,hz2⟩:=info_parts zqk
 exact wpList_append_own w hgd s x 38 ho base 49 i0 _ 34 48 Tryz.underlying38 hi hz0 hz1 hz2 rfl (by decide) v n xs hs hown ⟨p,0,none⟩ 1 1 EC hx (by rw[hEl]) (fun j u hu=>World.news_of_block hB j u (by simpa using hu)) hE1 (by unfold maxLen;omega) (by omega) hbase (fun v' w' q1 q2 _=>h v' w' q1 q2)
def plO (s:List Ob) (j:Nat):List Value:=plC (nmO s j) (offO s j) (5+(s.getD j (0,[])).2.length) where
 nmO (s:List Ob) (j:Nat):List UInt8:=obId (s.getD j (0,[]))
theorem zs4 {s:List Ob} {j:Nat} (h:j<s.length):plO s j=plC (obId s[j]) (offO s j) (5+s[j].2.length):=by
 unfold plO plO.nmO
 rw[List.getD_eq_getElem?_getD,List.getElem?_eq_getElem h]
 rfl
theorem zql (s:List Ob) (j:Nat):(plO s j).length=34:=by
 unfold plO plO.nmO
 exact plC_len' _ (zcb _) _ _
where plC_len' (x:List UInt8) (hx:x.length=32) (a n:Nat):(plC x a n).length=34:=by simp[plC,hx]
theorem zi2 {b:List UInt8} {s:List Ob} (h:PackOf b s) {j:Nat} (hj:j<s.length):offO s j+(5+s[j].2.length)≤b.length∧(b.drop (offO s j)).take (5+s[j].2.length)=obB s[j]:=by
 have hb:b=zds s.length++(s.flatMap obB):=h.eq
 have hs:s.flatMap obB=(s.take j).flatMap obB++(obB s[j]++(s.drop (j+1)).flatMap obB):=by
  conv=>lhs;rw[← List.take_append_drop j s]
  rw[List.flatMap_append,List.drop_eq_getElem_cons hj,List.flatMap_cons]
 have ho:(obB s[j]).length=5+s[j].2.length:=zht _
 have hd:b.drop (offO s j)=obB s[j]++(s.drop (j+1)).flatMap obB:=by
  rw[hb,hs,← List.append_assoc]
  have hl:offO s j=(zds s.length++(s.take j).flatMap obB).length:=by unfold offO;rw[List.length_append,zfg]
  rw[hl,List.drop_left]
 constructor
 ·have:=congrArg List.length hd
  rw[List.length_drop,List.length_append,ho] at this
  omega
 ·rw[hd,← ho,List.take_left]
theorem zs5 {w:World} {base:Nat} {v:Value} {s:List Ob} (h:w.ownsRow base 47 32 v s.length ((s.map obId).flatMap (·.map bv))):∃ ao c,v = .slice ao s.length c∧∀ j (hj:j<s.length),∃ b o,ao=some ⟨b,o,none⟩∧∀ V,w.grownBy V none→V.rangeAt b (o+j*32) ((obId s[j]).map bv):=by
 have hmm:((s.map obId).flatMap (·.map bv))=s.flatMap (fun o=>(obId o).map bv):=by rw[List.flatMap_map]
 rw[hmm] at h
 obtain ⟨ao,c,e,hR,-⟩:=Rws.own (fun o=>(obId o).map bv) h (fun o _=>by rw[List.length_map,zcb])
 refine ⟨ao,c,e,fun j hj => ?_⟩
 obtain ⟨b,o,e2,hr⟩:=hR.at j hj
 exact ⟨b,o,e2,fun V g=>zah hr g (by simp)⟩
def zvc (w w' : World) (b:List UInt8) (e:Ending):Prop :=
 (∃ v R s,e = .returned (.tuple #[v,.int .i64 0])∧PackOf b s∧R.map (·.o)=s∧Obo w' w.heap.size w.heap.size v R∧w.grownBy w' none) ∨
 (e = .returned (.tuple #[.slice none 0 0,.int .i64 11])∧(∀ t,¬ PackOf b t)∧w.grownBy w' none)
set_option maxHeartbeats 8000000 in
theorem zj9 (w:World) (ao:Option Addr) (c:Nat) (b:List UInt8) (hb:Bts w ao c b) (hl:b.length≤100000) (hT:Tabs w) :
  Calls Tryz.prog 13 #[.slice ao b.length c] w fun e w'=>zvc w w' b e:=by
 have co:=zf0 w ao c b hb hl hT
 obtain ⟨n,hn⟩:∃ n,n=b.length:=⟨_,rfl⟩
 have cr:∀ V,w.grownBy V none→_:=fun V g=>zhx V ao c b (hb.kept g (fun _ e=>by cases e)) hl
 rw[← hn] at co ⊢
 simp only[← hn] at cr
 obtain ⟨HCR,HN⟩:=zh2 cr hn
 clear cr hn hb hl hT
 go_enter Tryz.func13,Tryz.ntmps13
 go_wp2_with fail
 refine co.mono ?_
 rintro e w2 hop
 clear co
 rcases hop with ⟨v,m,s,K,rfl,hP,hO,hM,hK,g2⟩ | ⟨rfl,hno,g2⟩
 ·obtain ⟨ia,ic,rfl,hat⟩:=zs5 hO
  obtain ⟨sn,hsn⟩:∃ z,z=s.length:=⟨_,rfl⟩
  rw[← hsn]
  have hs9:sn≤256:=by rw[hsn];exact hP.few
  obtain ⟨HP,HM,HK,HAT,HG2,HSN⟩:=zh6 hP hM hK hat g2 hsn
  clear hP hO hM hK g2 hat hsn
  go_wp2_with fail
  go_loopw [7,9,21] (fun v7 _x9 vi wr=>∃ (i:Nat) (R:List ObP),vi = .int .i64 i∧i≤sn∧Hid (Obo wr w.heap.size w2.heap.size v7 R∧R.map (·.o)=s.take i∧w2.grownBy wr none)) (fun _ _ vi _=>sn - (intOf vi).toNat)
  case atStart=>exact ⟨0,[],rfl,Nat.zero_le _,⟨Obo.nil _ (uh HG2).size,by simp,zaa _ _⟩⟩
  case round =>
   obtain ⟨i,R,rfl,hin,HR⟩:=hrel
   by_cases hi:i<sn
   ·have hiz:(i:Int)<(sn:Int):=by omega
    have hiw:IntKind.i64.wrap ((i:Int)+1)=(i:Int)+1:=by rw[IntKind.wrap_i64];omega
    have his:i<s.length:=by rw[← uh HSN];exact hi
    obtain ⟨ib,io,rfl,hrow⟩:=uh HAT i his
    obtain ⟨hRo,hRs,hg⟩:=uh HR
    have hr:=hrow wr hg
    obtain ⟨o,ho⟩:∃ o,o=s[i]:=⟨_,rfl⟩
    obtain ⟨IB,hIB⟩:∃ I,I=obId o:=⟨_,rfl⟩
    have hIBl:IB.length=32:=by rw[hIB];exact zcb _
    obtain ⟨KB,hKB⟩:∃ k,k=IB.map bv:=⟨_,rfl⟩
    rw[← ho,← hIB,← hKB] at hr
    have hKl:KB.length=32:=by rw[hKB,List.length_map,hIBl]
    have hK1:∀ u∈KB,u.oneCell'=true:=by rw[hKB];exact za6 _
    have hKo:KB.toArray.all (·.oneCell')=true:=all_oneCell_toArray hK1
    have hiK:(Tryz.prog.info? 47).map (·.size)=some KB.length:=by rw[hKl];exact zba
    have hiK2:(Tryz.prog.info? 47).map (·.size)=some KB.toArray.size:=by simpa using hiK
    obtain ⟨Z,hZ,hzv⟩:=zd9
    have hZK:Z.toList.toArray.size=KB.toArray.size:=by simp[hZ,hKl]
    obtain ⟨W5,hW5,hB5,g5⟩:=zb6 wr 47 Z KB
    have hBN:Blk (wr.alloc (.cells Z 47)) wr.heap.size 47 Z.toList:=by simpa using Blk.new wr 47 Z.toList
    have h5:=zas hB5
    have G5:=tn hg g5
    have hM5:=(uh HM).none G5
    obtain ⟨a9,ha9⟩:∃ z,z=offO s i:=⟨_,rfl⟩
    obtain ⟨n9,hn9⟩:∃ z,z=5+o.2.length:=⟨_,rfl⟩
    obtain ⟨PC,hPC⟩:∃ P,P=plC IB a9 n9:=⟨_,rfl⟩
    have hlu:(Instr.lookup 70 (.map (some m)) (.agg KB.toArray) false).run Tryz.prog W5 = .ok (.agg PC.toArray) W5:=by
     have:=hM5.look 70 49 Tryz.underlying70 _ (zfl W5) IB hIBl false
     rw[hIB,ho,(uh HK).get i his] at this
     rw[hKB,hPC,hIB,ha9,hn9,ho]
     exact this
    obtain ⟨hsg1,hsg2⟩:=zi2 (uh HP) his
    rw[← ho,← ha9,← hn9] at hsg1 hsg2
    have cq:=uh HCR W5 (tn (uh HG2) G5) IB hIBl a9 n9 (by rw[uh HN];exact hsg1) o ((uh HP).ok o (by rw[ho];exact List.getElem_mem _)) hsg2
    rw[← hPC] at cq
    have hnx:s.take (i+1)=s.take i++[o]:=by rw[List.take_succ_eq_append_getElem his,← ho]
    have hRl:R.length=i:=by have:=congrArg List.length hRs;simpa[Nat.min_eq_left (Nat.le_of_lt his)] using this
    obtain ⟨HNX,HRL,HIK,HIK2,HZK,HKO⟩:=zh6 hnx hRl hiK hiK2 hZK hKo
    obtain ⟨HBN,HW5,H5,HROW,HLU⟩:=zh5 hBN hW5 h5 hr hlu
    have HRO5:=hide (hRo.stay g5)
    obtain ⟨HG5,HRS⟩:=zh2 G5 hRs
    clear hnx hRl hiK hiK2 hZK hKo hBN hW5 h5 hr hlu hRs G5 hg g5 hB5 hM5 ha9 hn9 hPC hsg1 hsg2 hKB hKl hK1 hIB hIBl ho hZ hrow hRo
    go_wp2_with (first
     | (refine wpList_load_mid rfl 47 _ rfl ib (io+i*32) rfl KB _ (uh HROW) Tryz.underlying47 rfl (uh HIK) ?_;clear HROW)
     | (refine wpList_store_row rfl 47 _ _ rfl wr.heap.size KB.toArray rfl rfl _ _ (uh HBN) (uh HIK2) (uh HZK) (uh HKO) ?_;rw[← uh HW5])
     | (refine wpList_load_mid rfl 47 _ rfl wr.heap.size 0 rfl KB _ (uh H5) Tryz.underlying47 rfl (uh HIK) ?_;clear H5)
     | (rw[uh HLU]))
    refine cq.mono ?_
    rintro e w6 ⟨v6,rfl,⟨a6,c6,rfl,hb6,ht6⟩,g6⟩
    clear cq
    obtain ⟨r,hr⟩:∃ r:ObP,r=⟨o.1,o.2,a6,c6⟩:=⟨_,rfl⟩
    obtain ⟨dl,hdl⟩:∃ z,z=o.2.length:=⟨_,rfl⟩
    rw[← hdl]
    obtain ⟨W7,hW7,hB7,g7⟩:=zag w6 42 [.int .i64 o.1,.slice a6 dl c6]
    have hbs:(Instr.buildSlice 22 1 #[(0,.agg #[.int .i64 o.1,.slice a6 dl c6])]).run Tryz.prog w6 = .ok (.slice (some ⟨w6.heap.size,0,none⟩) 1 1) W7:=by rw[hW7];exact zs3 _ _ _ _ w6
    have g57:=tn g6 g7
    have hO7:=(uh HRO5).stay g57
    have hown:=hO7.own
    rw[uh HRL] at hown
    have hrP:obP r=[.int .i64 o.1,.slice a6 dl c6]:=by rw[hr,hdl];rfl
    have hb7:Bts W7 r.ao r.c r.d:=by rw[hr];exact hb6.kept g7 (fun _ e=>by cases e)
    have ht7:∀ ad,r.ao=some ad→Typ W7 ad.block∨ad.block<w.heap.size:=fun ad e=>by
     rw[hr] at e
     exact Or.inl ((ht6 ad e).2.kept g7 (by simp))
    have hi9:i≤100000:=by omega
    have hbase:w2.heap.size≤W7.heap.size:=(tn (uh HG5) g57).size
    obtain ⟨HBS,HOWN,HB7,HO7,HBT,HTT⟩:=zh6 hbs hown hB7 hO7 hb7 ht7
    obtain ⟨HRP,HRE⟩:=zh2 hrP hr
    have HG7:=hide (tn (uh HG5) g57)
    clear hbs hown hB7 hO7 hb7 ht7 hrP hr g57 g7 g6 hW7 hb6 ht6 hdl
    go_wp2_with (first
     | (refine zaw rfl 22 _ rfl (.agg #[.int .i64 o.1,.slice a6 dl c6]) _ rfl (uh HBS) ?_;(try simp only[pq]))
     | (refine zfz rfl _ _ rfl w2.heap.size _ i _ rfl (uh HOWN) _ [.int .i64 o.1,.slice a6 dl c6] (uh HB7) rfl (by intro u hu;simp only[List.mem_cons,List.not_mem_nil,or_false] at hu;rcases hu with rfl | rfl <;> rfl) rfl hi9 hbase ?_;intro v8 w8 ho8 g8;have HO8:=hide ho8;have HG8:=hide g8;clear ho8 g8;(try simp only[pq])))
    go_roundw
    case rel =>
     refine ⟨i+1,R++[r],by go_num,by omega,⟨?_,?_,?_⟩⟩
     ·refine (uh HO7).put r (uh HBT) (uh HTT) (uh HG8) ?_
      rw[uh HRL,uh HRP]
      exact uh HO8
     ·rw[List.map_append,uh HRS,uh HNX,uh HRE];rfl
     ·exact zae (uh HG7) (uh HG8) (fun y e=>Or.inl ((uh HO7).own.lt y e).1)
    case measure=>simp[intOf];omega
   ·have hiz:¬ (i:Int)<(sn:Int):=by omega
    go_wp2_with fail
    go_ret2
    obtain ⟨hRo,hRs,hg⟩:=uh HR
    rw[List.take_of_length_le (by have:=uh HSN;omega)] at hRs
    have hRo2:=hRo.low (uh HG2).size (Nat.le_refl _)
    exact Or.inl ⟨_,R,s,rfl,uh HP,hRs,hRo2,tn (uh HG2) hg⟩
 ·go_wp2_with fail
  go_ret2
  exact Or.inr ⟨rfl,hno,g2⟩
def eE (o:Ob):ObE:=⟨[],o.1,o.2⟩
theorem zvd (s:List Ob):(s.map eE).map eOb=s:=by
 rw[List.map_map]
 exact (List.map_congr_left fun _ _=>rfl).trans (List.map_id s)
def zve (w w' : World) (b:List UInt8) (e:Ending):Prop :=
 (∃ v s,e = .returned (.tuple #[v,.int .i64 0])∧PackOf b s∧Rob w' w.heap.size v (s.map eE)∧w.grownBy w' none) ∨
 (e = .returned (.tuple #[.slice none 0 0,.int .i64 11])∧(∀ t,¬ PackOf b t)∧w.grownBy w' none)
set_option maxHeartbeats 8000000 in
theorem zlh (w:World) (b:List UInt8) (hl:b.length≤100000) :
  Calls Tryz.prog 14 #[.string (str b)] w fun e w'=>zve w w' b e:=by
 obtain ⟨N,m,f,hnum⟩:∃ x y z,numS (b.drop 4) 0 2=(x,y,z):=⟨_,_,_,rfl⟩
 have hN:=zqb (b.drop 4) 0
 have hm:=zfy (b.drop 4) 0 2
 rw[hnum] at hN hm
 simp only[List.length_drop] at hN hm
 have cn:=fun V=>zc2 V (b.drop 4) 0 2 (by simp;omega)
 rw[hnum] at cn
 simp only at cn
 obtain ⟨SB,hSB⟩:∃ S,S=str b:=⟨_,rfl⟩
 obtain ⟨n,hn⟩:∃ z,z=b.length:=⟨_,rfl⟩
 have hsz:SB.size=n:=by rw[hSB,zaj,hn]
 have hn9:n≤100000:=by omega
 obtain ⟨HNUM,HSB,HN⟩:=zh3 hnum hSB hn
 rw[← hSB]
 by_cases h6:n<6
 ·have hno:∀ t,¬ PackOf b t:=fun t ht=>by have:=(zcy ht).1;omega
  have HNO:=hide hno
  have h6z:(n:Int)<6:=by omega
  clear hno hnum cn hn hl hm hN hSB
  go_enter Tryz.func14,Tryz.ntmps14
  go_wp2
  go_ret2
  exact Or.inr ⟨rfl,uh HNO,zaa _ _⟩
 ·have h6z:¬ (n:Int)<6:=by omega
  obtain ⟨TH,hTH⟩:∃ T,T=str (b.take 4):=⟨_,rfl⟩
  have hsl:∀ W:World,(Instr.slice 9 (.string SB) none (some (.int .i64 4)) none).run Tryz.prog W = .ok (.string TH) W:=fun W=>by rw[hTH,hSB];exact zi6 b 4 (by omega) W
  have hTL:TH.toList=b.take 4:=by rw[hTH,zaz]
  have hsz4:4≤n:=by omega
  by_cases hmk:b.take 4=[67,80,75,49]
  ·rw[hmk] at hTL
   obtain ⟨T4,hT4⟩:∃ T,T=str (b.drop 4):=⟨_,rfl⟩
   have hsf:∀ W:World,(Instr.slice 9 (.string SB) (some (.int .i64 4)) none none).run Tryz.prog W = .ok (.string T4) W:=fun W=>by rw[hT4,hSB];exact zdi b 4 (by omega) W
   rw[← hT4] at cn
   obtain ⟨TM,hTM⟩:∃ T,T=str m:=⟨_,rfl⟩
   rw[← hTM] at cn
   have hbd:Tryz.prog.built 75 [(0,.string T4)]=some #[.string T4,.int .i64 0]:=by kernel_rfl
   have HM9:=hide (show m.length≤100000 by omega)
   obtain ⟨HTM,HN9⟩:=zh2 hTM hN
   clear hnum hn hl hm hSB hTH hT4 hTM
   go_enter Tryz.func14,Tryz.ntmps14
   go_wp2_with fail
   refine (cn w).mono ?_
   rintro e w1 ⟨rfl,g1⟩
   clear cn hsl hsf hbd
   obtain ⟨W2,hW2,hB2,g2⟩:=zag w1 75 [.string TM,.int .i64 f]
   obtain ⟨rB,hrB⟩:∃ z,z=w1.heap.size:=⟨_,rfl⟩
   rw[← hrB] at hB2
   have hBt:Blk W2 rB 75 [.string (str m),.int .i64 f]:=by rw[← uh HTM];exact hB2
   have hwr:w.heap.size≤rB:=by rw[hrB];exact g1.size
   have HST:=hide (And.intro hBt (tn g1 g2))
   obtain ⟨HW2,HRB⟩:=zh2 hW2 hrB
   clear hW2 hB2 g2 hrB g1 hBt
   go_wp2_with (rw[← uh HW2,← uh HRB])
   obtain ⟨M,hM⟩:∃ z,z=min N 300:=⟨_,rfl⟩
   have hM9:M≤300:=by omega
   have HM:=hide hM
   clear HW2 HRB hM
   go_loopw [6,7,8,9,10,11] (fun v6 vi _x8 _x9 _x10 _x11 wr=>∃ (i:Nat) (s:List Ob) (li:List UInt8) (ei:Int),vi = .int .u64 (i:Int)∧i≤M∧Hid (rdOs i m f=(s,li,ei)∧li.length≤100000∧Rob wr w.heap.size v6 (s.map eE)∧Blk wr rB 75 [.string (str li),.int .i64 ei]∧w.grownBy wr none)) (fun _ vi _ _ _ _ _=>M - (intOf vi).toNat)
   case atStart=>exact ⟨0,[],m,f,rfl,Nat.zero_le _,⟨rfl,uh HM9,Rob.nil _ _,(uh HST).1,(uh HST).2⟩⟩
   case round =>
    obtain ⟨i,s,li,ei,rfl,hiM,HR⟩:=hrel
    go_upto_region 6 with fail
    go_cut [35] (fun x35 wx=>x35 = .bool (decide (i<M))∧wx=wr)
    case first =>
     by_cases h1:i<N
     ·have h1z:(i:Int)<(N:Int):=by omega
      by_cases h3:i<300
      ·have h3z:(i:Int)<300:=by omega
       have hd:decide (i<M)=true:=by have:=uh HM;simp;omega
       go_wp2_with fail
       go_meet
       case rel=>exact ⟨by rw[hd],rfl⟩
      ·have h3z:¬ (i:Int)<300:=by omega
       have hd:decide (i<M)=false:=by have:=uh HM;simp;omega
       go_wp2_with fail
       go_meet
       case rel=>exact ⟨by rw[hd],rfl⟩
     ·have h1z:¬ (i:Int)<(N:Int):=by omega
      have hd:decide (i<M)=false:=by have:=uh HM;simp;omega
      go_wp2_with fail
      go_meet
      case rel=>exact ⟨by rw[hd],rfl⟩
    case rest =>
     obtain ⟨rfl,hwx⟩:=hcut
     subst hwx
     by_cases hi:i<M
     ·have hd:decide (i<M)=true:=by simpa using hi
      rw[hd]
      have hiw:IntKind.u64.wrap ((i:Int)+1)=(i:Int)+1:=by rw[IntKind.wrap_u64];omega
      obtain ⟨h1,h2,h3,h4,h5⟩:=uh HR
      obtain ⟨K9,lk,ek,hnk⟩:∃ x y z,numS li ei 1=(x,y,z):=⟨_,_,_,rfl⟩
      obtain ⟨D9,l9,e9,hsd⟩:∃ x y z,zal lk ek=(x,y,z):=⟨_,_,_,rfl⟩
      have hK9:K9<256:=by have:=zqc li ei;rw[hnk] at this;exact this
      have hlk:lk.length≤100000:=by have:=zfy li ei 1;rw[hnk] at this;simp only at this;omega
      have hl9:l9.length≤100000:=by have:=(zgf lk ek).1;rw[hsd] at this;simp only at this;omega
      have hrO:rdOs (i+1) m f=(s++[((K9:Int),D9)],l9,e9):=by unfold rdOs;rw[h1];simp only;unfold rdO;simp only[hnk,hsd]
      have cn1:=zc2 wc li ei 1 (by omega)
      rw[hnk] at cn1
      simp only at cn1
      have cs1:=fun V=>zfw V lk ek (by omega)
      rw[hsd] at cs1
      simp only at cs1
      obtain ⟨TI,hTI⟩:∃ T,T=str li:=⟨_,rfl⟩
      obtain ⟨TK,hTK⟩:∃ T,T=str lk:=⟨_,rfl⟩
      obtain ⟨T9,hT9⟩:∃ T,T=str l9:=⟨_,rfl⟩
      obtain ⟨TD,hTD⟩:∃ T,T=str D9:=⟨_,rfl⟩
      rw[← hTI,← hTK] at cn1
      rw[← hTK,← hT9,← hTD] at cs1
      rw[← hTI] at h4
      have hwK:IntKind.i64.wrap (K9:Int)=(K9:Int):=by rw[IntKind.wrap_i64];omega
      have q0:=h4.cell 0
      have q1:=h4.cell 1
      simp only[List.getElem?_cons_zero,List.getElem?_cons_succ] at q0 q1
      have HX:=hide (And.intro hrO (And.intro hl9 (And.intro hT9 (And.intro hTD (And.intro hTI hTK)))))
      obtain ⟨HB4,HROB,HG5⟩:=zh3 h4 h3 h5
      have hsl:(s.map eE).length=i:=by have:=zl8 i m f;rw[h1] at this;simpa using this
      have HSL:=hide hsl
      clear hrO hl9 hT9 hTD hTI hTK h1 h2 h3 h4 h5 hnk hsd hlk HR hsl
      go_wp2_with fail
      refine cn1.mono ?_
      rintro e w4 ⟨rfl,g4⟩
      clear cn1
      obtain ⟨W5,hW5,hB5,g5⟩:=zag w4 75 [.string TK,.int .i64 ek]
      have r0:=hB5.cell 0
      have r1:=hB5.cell 1
      simp only[List.getElem?_cons_zero,List.getElem?_cons_succ] at r0 r1
      have HW5:=hide hW5
      have G5:=tn g4 g5
      have HBA:=hide ((uh HB4).kept G5 (by simp))
      have HROB5:=hide ((uh HROB).kept G5)
      have HGA:=hide (tn (uh HG5) G5)
      clear q0 q1 hW5 hB5 g4 g5 G5
      have cs2:=cs1 W5
      go_wp2_with (rw[← uh HW5])
      refine cs2.mono ?_
      rintro e w6 ⟨rfl,g6⟩
      clear cs1 cs2
      obtain ⟨W7,hW7,hB7,g7⟩:=zag w6 75 [.string T9,.int .i64 e9]
      have p0:=hB7.cell 0
      have p1:=hB7.cell 1
      have hBA:=(uh HBA).kept (tn g6 g7) (by simp)
      have a0:=hBA.cell 0
      have a1:=hBA.cell 1
      have z0:=hBA.fz 0
      have z1:=hBA.fz 1
      simp only[List.getElem?_cons_zero,List.getElem?_cons_succ] at p0 p1 a0 a1
      obtain ⟨W8,hW8⟩:∃ W,W=(W7.setCell ⟨rB,0,none⟩ (.string T9)).setCell ⟨rB,1,none⟩ (.int .i64 e9):=⟨_,rfl⟩
      have hBA8:Blk W8 rB 75 [.string T9,.int .i64 e9]:=by rw[hW8];exact (hBA.set 0 _).set 1 _
      have g8:W7.grownBy W8 (some rB):=by rw[hW8];exact zab (zd4 W7 rB 0 _) _ _ (Or.inr rfl)
      have hro7:=(uh HROB5).kept (tn g6 g7)
      have hro8:Rob W8 w.heap.size _ (s.map eE):=World.ownsRow.kept hro7 g8 (Or.inr fun e=>zao hro7 hBA (by decide) e.symm)
      have hG8:w.grownBy W8 none:=zae (tn (uh HGA) (tn g6 g7)) g8 (fun y e=>Or.inl (by injection e with e;omega))
      obtain ⟨W9,hW9,hB9,g9⟩:=zag W8 44 [.int .i64 (K9:Int),.string TD]
      have hbs:(Instr.buildSlice 30 1 #[(0,.agg #[.int .i64 (K9:Int),.string TD])]).run Tryz.prog W8 = .ok (.slice (some ⟨W8.heap.size,0,none⟩) 1 1) W9:=by rw[hW9];exact zu4 _ _ W8
      have hrw:Rws W9 2 roC (some ⟨W8.heap.size,0,none⟩) 1 [eE ((K9:Int),D9)]:=Rws.one (by rw[show roC (eE ((K9:Int),D9))=[.int .i64 (K9:Int),.string TD] by rw[(uh HX).2.2.2.1];rfl];exact hB9)
      obtain ⟨HW7,HW8,HBS,HRW⟩:=zh4 hW7 hW8 hbs hrw
      have HOB:=hide (hro8.kept g9)
      have HB9:=hide (hBA8.kept g9 (by simp))
      have HG9:=hide (tn hG8 g9)
      clear hW7 hB7 g6 g7 hBA hW8 hBA8 g8 hro7 hro8 hG8 hW9 hB9 g9 hbs hrw r0 r1
      go_upto_region 11 with (first | (rw[← uh HW7]) | (rw[← uh HW8]))
      clear p0 p1 a0 a1 z0 z1
      go_wp2_with (first
       | (refine zaw rfl 30 _ rfl (.agg #[.int .i64 (K9:Int),.string TD]) _ rfl (uh HBS) ?_;(try simp only[pq]))
       | (refine zfk rfl _ _ rfl w.heap.size _ _ [eE ((K9:Int),D9)] rfl (uh HOB) _ 1 1 rfl rfl (uh HRW) (by rw[uh HSL];simp;omega) (uh HG9).size ?_;intro v10 w10 h10 g10;have H10:=hide h10;have HG10:=hide g10;clear h10 g10;(try simp only[pq])))
      go_roundw
      case rel =>
       obtain ⟨x1,x2,x3,x4,x5,x6⟩:=uh HX
       refine ⟨i+1,s++[((K9:Int),D9)],l9,e9,by go_num,by omega,⟨x1,x2,?_,?_,zae (uh HG9) (uh HG10) (fun y e=>Or.inl ((World.ownsRow.lt (uh HOB)) y e).1)⟩⟩
       ·rw[List.map_append]
        exact uh H10
       ·rw[← x3]
        exact (uh HB9).kept (uh HG10) (zao (uh HOB) (uh HB9) (by decide))
      case measure=>simp[intOf];omega
     ·have hd:decide (i<M)=false:=by simpa using hi
      rw[hd]
      have hiM2:i=M:=by omega
      obtain ⟨h1,h2,h3,h4,h5⟩:=uh HR
      rw[hiM2,uh HM] at h1
      have hsl:(s.map eE).length≤100000:=by have:=zl8 (min N 300) m f;rw[h1] at this;simp only at this;rw[List.length_map];omega
      have cd:=zfc wc li ei (by omega)
      obtain ⟨D,hD⟩:∃ D,D=zb4 li ei:=⟨_,rfl⟩
      obtain ⟨TI,hTI⟩:∃ T,T=str li:=⟨_,rfl⟩
      rw[← hTI,← hD] at cd
      rw[← hTI] at h4
      have q0:=h4.cell 0
      have q1:=h4.cell 1
      simp only[List.getElem?_cons_zero,List.getElem?_cons_succ] at q0 q1
      have hno:∀ t,PackOf b t→s=t∧D=0:=fun t ht=>by
       obtain ⟨x1,x2,x3⟩:=zj2 ht (uh HNUM) h1
       exact ⟨x1,by rw[hD,x2,x3];rfl⟩
      obtain ⟨HNO,HRD,HROB,HG5⟩:=zh4 hno h1 h3 h5
      have cpl:∀ V,wc.grownBy V none→_:=fun V g=>zn9 V _ _ (s.map eE) (h3.kept g) hsl
      simp only[zvd] at cpl
      have HCP:=hide cpl
      clear h1 h2 h3 h4 h5 HR hD hTI hno hiM2 hsl cpl
      by_cases hD0:D=0
      ·subst hD0
       go_wp2_with (go_at_call 33;refine cd.mono ?_;rintro e w6 ⟨rfl,g6⟩;clear cd;have cp6:=uh HCP w6 g6;have HG6:=hide (tn (uh HG5) g6);have HROB6:=hide ((uh HROB).kept g6);clear g6)
       refine cp6.mono ?_
       rintro e w7 ⟨cc,y,rfl,hp,g7⟩
       clear cp6
       obtain ⟨SC,hSC⟩:∃ S,S=str cc:=⟨_,rfl⟩
       rw[← hSC]
       have HP:=hide hp
       have HG7:=hide (tn (uh HG6) g7)
       have HROB7:=hide ((uh HROB6).kept g7)
       clear g7 hp q0 q1 HCP
       by_cases hy:y=0
       ·subst hy
        have hLC:SC.toList=cc:=by rw[hSC,zaz]
        have hLB:SB.toList=b:=by rw[uh HSB,zaz]
        by_cases hcb:cc=b
        ·subst hcb
         clear hSC
         go_wp2_with fail
         go_ret2
         exact Or.inl ⟨_,s,rfl,zj1 (uh HNUM) (uh HRD) (uh HP),uh HROB7,uh HG7⟩
        ·have hcb2:(cc == b)=false:=by simpa using hcb
         have HF:Hid (∀ t,¬ PackOf b t):=fun t ht=>by
          obtain ⟨x1,_⟩:=uh HNO t ht
          rw[← x1] at ht
          exact hcb ((uh HP).one (PutP.of ht)).1
         clear hSC
         go_wp2_with fail
         go_ret2
         exact Or.inr ⟨rfl,uh HF,uh HG7⟩
       ·have hyz:(y == 0)=false:=by simpa using hy
        have HF:Hid (∀ t,¬ PackOf b t):=fun t ht=>by
         obtain ⟨x1,_⟩:=uh HNO t ht
         rw[← x1] at ht
         exact hy ((uh HP).one (PutP.of ht)).2
        clear hSC
        go_wp2_with fail
        go_ret2
        exact Or.inr ⟨rfl,uh HF,uh HG7⟩
      ·have hDz:(D == 0)=false:=by simpa using hD0
       have HF:Hid (∀ t,¬ PackOf b t):=fun t ht=>hD0 (uh HNO t ht).2
       clear hD0
       go_wp2_with (go_at_call 33;refine cd.mono ?_;rintro e w6 ⟨rfl,g6⟩;clear cd;have HG6:=hide (tn (uh HG5) g6);clear g6)
       go_ret2
       exact Or.inr ⟨rfl,uh HF,uh HG6⟩
  ·have HNO:=hide (show ∀ t,¬ PackOf b t from fun t ht=>hmk (zcy ht).2.1)
   have hmb:(b.take 4 == [67,80,75,49])=false:=by simpa using hmk
   clear hnum cn hn hl hm hN hSB hTH
   go_enter Tryz.func14,Tryz.ntmps14
   go_wp2
   go_ret2
   exact Or.inr ⟨rfl,uh HNO,zaa _ _⟩
end Go.Proofs.YtegbbkgmiklhcaaGreatDoor
