/- Lemmas. -/
import Derived.Test.YthhnfloohbdaiaaGreatDoorGTexts
import Derived.Test.YthhnfloohbdaiaaGreatDoorGOneM
import Derived.Deep.DeepCutAuto
import Derived.Deep.CutBlock
namespace Go.Proofs.YthhnfloohbdaiaaGreatDoor
open Go.RowKit
def idR (r:ObjR):List UInt8:=shaL (putL (r.kind:Int) r.data)
theorem zkx (r:ObjR):(idR r).length=32:=zbc _
structure MadeG (w:World) (base:Nat) (v1 v2:Value) (R:List ObjR):Prop where
 objs:Objs w base v1 R
 ids:w.ownsRow base 33 32 v2 R.length ((R.map idR).flatMap (·.map bv))
 small:∀ r∈R,r.data.length≤16384
theorem MadeG.nil (w:World) (base:Nat):MadeG w base (.slice none 0 0) (.slice none 0 0) []:=⟨Objs.nil _ _,World.ownsRow_nil _ _ _ _,fun _ h=>by cases h⟩
theorem MadeG.none {w a:World} {base:Nat} {v1 v2:Value} {R:List ObjR} (h:MadeG w base v1 v2 R) (g:w.grownBy a Option.none):MadeG a base v1 v2 R :=
 ⟨h.objs.none g,h.ids.kept g (by cases v2.ownBlock <;> simp),h.small⟩
theorem zwa:(Tryz.prog.info? 82).map (·.size)=some 4:=by kernel_rfl
theorem zwb (w:World):(zeroValue 82).run Tryz.prog w = .ok (.agg #[.int .i64 0,.slice none 0 0,.int .u64 0,.bool false]) w:=by kernel_rfl
theorem zoi {w:World} {b1 b2 k1 k2 n1 n2:Nat} {t1 t2:TypeId} {v1 v2:Value} {x1 x2:List Value} (h1:w.ownsRow b1 t1 k1 v1 n1 x1) (h2:w.ownsRow b2 t2 k2 v2 n2 x2) (ht:t1≠t2):v1.ownBlock=none∨v1.ownBlock≠v2.ownBlock:=by
 rcases h1.2 with ⟨rfl,_⟩ | ⟨g,cap,cur,rfl,_,hh,_⟩
 ·exact Or.inl rfl
 ·refine Or.inr fun e => ?_
  have hb:Blk w g t1 cur.toList:=by unfold Blk;simpa using hh
  exact zaj h2 hb (fun e=>ht e.symm) e
theorem Objs.other {w a:World} {base b2 n:Nat} {v v2:Value} {xs:List Value} {R:List ObjR} (h:Objs w base v R) (ho:w.ownsRow b2 33 32 v2 n xs) (g:w.grownBy a v2.ownBlock):Objs a base v R :=
 ⟨h.own.kept g (zoi h.own ho (by decide)),fun r hr=>(h.bts r hr).kept g (fun x e ad e2 e3=>zcw ho e (by decide) (by rw[← e3];exact h.typ r hr ad e2)),fun r hr ad e=>(h.typ r hr ad e).kept g (fun e2=>zcw ho e2.symm (by decide) (h.typ r hr ad e))⟩
theorem zye {w:World} {b:Nat} {l:List UInt8} (h:Blk w b 5 (l.map bv)) (hl:l.length≤maxLen):Dat w (some ⟨b,0,none⟩) l.length l :=
 ⟨zci (zal h) hl,fun ad e=>by cases e;exact ⟨_,_,h⟩⟩
theorem ztg (x:Nat):∃ b:UInt8,IntKind.u8.wrap (x:Int)=(b.toNat:Int):=by
 refine ⟨UInt8.ofNat x,?_⟩
 rw[IntKind.wrap_u8,UInt8.toNat_ofNat']
 omega
def zz32:List UInt8:=List.replicate 32 0
theorem zky:zz32.length=32:=rfl
theorem znb (a b:List UInt8) (ha:a.length=32) (hb:b.length=32) (w:World):(binOp .neq 33 (.agg (a.map bv).toArray) (.agg (b.map bv).toArray)).run Tryz.prog w = .ok (.bool (!(a == b))) w:=by
 have h:(Op.equalIn 10000 33 (.agg (a.map bv).toArray) (.agg (b.map bv).toArray)).run Tryz.prog w = .ok (a == b) w:=run_equalIn_bytes w 9998 33 5 32 Tryz.underlying33 Tryz.underlying5 zbf a b ha hb
 rw[run_neq_struct,h]
 simp[Result.andThen]
theorem zqj (s:ByteArray) (t:List UInt8) (h:t.length=32):Tryz.prog.built 123 [(0,.string s),(2,.agg (t.map bv).toArray)]=some (Value.string s::Value.bool false::t.map bv).toArray:=by
 obtain ⟨a0,a1,a2,a3,a4,a5,a6,a7,a8,a9,a10,a11,a12,a13,a14,a15,a16,a17,a18,a19,a20,a21,a22,a23,a24,a25,a26,a27,a28,a29,a30,a31,rfl⟩:=zew t h
 kernel_rfl
theorem znc (k:Nat) (x:List UInt8):Tryz.prog.built 70 [(2,.int .u64 (k:Int)),(4,.string (str x))]=some (chC ⟨zz32,[],k,[],x⟩ none 0).toArray:=by kernel_rfl
theorem zqk (x:List UInt8):Tryz.prog.built 126 [(1,.string (str x))]=some (mkC ⟨zz32,x,[]⟩).toArray:=by kernel_rfl
theorem zwc:∃ Z:Array Value,Z.size=34∧∀ w,(zeroValue 126).run Tryz.prog w = .ok (.agg Z) w:=⟨_,rfl,fun w=>(by kernel_rfl:(zeroValue 126).run Tryz.prog w = .ok (.agg (mkC ⟨zz32,[],[]⟩).toArray) w)⟩
theorem zg3 {w:World} {b:Nat} {t:TypeId} {cs:List Value} (h:Blk w b t cs) (ht:t≠5):¬ Typ w b:=by
 rintro ⟨cur,m,h2⟩
 unfold Blk at h
 rw[h] at h2
 injection h2 with h3
 injection h3 with _ h4
 exact ht h4
theorem zi5 (d:List UInt8):(fitB d).2.length≤16384:=by
 unfold fitB
 split
 ·exact Nat.zero_le _
 ·show d.length≤16384
  omega
theorem zql (es:List EntL):(za9 es).2.length≤16384:=by
 unfold za9
 split
 ·exact Nat.zero_le _
 ·split
  ·exact zi5 _
  ·exact Nat.zero_le _
theorem zth (c:ChgL):(zcf c).2.length≤16384:=by
 unfold zcf
 split
 ·exact Nat.zero_le _
 ·split
  ·exact zi5 _
  ·exact Nat.zero_le _
theorem zlz (m:MrkL):(zcv m).2.length≤16384:=by
 unfold zcv
 split
 ·exact zi5 _
 ·exact Nat.zero_le _
theorem zyf (c:Prop) [Decidable c] (k:Nat):∃ kk:Nat,(if c then (k:Int) else 0)=(kk:Int):=by
 split
 ·exact ⟨k,rfl⟩
 ·exact ⟨0,rfl⟩
theorem Made.obj {w w' : World} (k:Nat) {K:Int} (hK:K=(k:Int)) {r:Int × List UInt8} {e:Ending} (h:Made w w' K r e) (hs:r.2.length≤16384):∃ (kk:Nat) (a:Option Addr) (c n:Nat) (y:Int) (d:List UInt8),e = .returned (.tuple #[.agg #[.int .i64 (kk:Int),.slice a n c],.int .i64 y])∧n=d.length∧Dat w' a c d∧d.length≤16384∧w.grownBy w' none:=by
 obtain ⟨v,rfl,hn,g⟩:=h
 obtain ⟨a,c,rfl,hD⟩:=hn.dat
 subst hK
 obtain ⟨kk,hkk⟩:=zyf (r.1=0) k
 rw[hkk]
 exact ⟨kk,a,c,_,r.1,r.2,rfl,rfl,hD,hs,g⟩
theorem zwd {w:World} {b:Nat} {c:ChgL} {po:Option Addr} {pc:Nat} (h:Blk w b 70 (chC c po pc)) (hc:c.tree.length=32) (x:List UInt8) (hx:x.length=32):Blk (w.setCells b 0 (x.map bv)) b 70 (chC ⟨x,c.pars,c.time,c.author,c.text⟩ po pc)∧w.there b 0 32:=by
 have h1:Blk w b 70 ([]++(c.tree.map bv++[.slice po c.pars.length pc,.int .u64 (c.time:Int),.string (str c.author),.string (str c.text)])):=h
 refine ⟨Blk.setCells (x.map bv) (c.tree.map bv) h1 (by simp[hc,hx]),?_⟩
 have:=h1.thereIn
 simpa[hc] using this
theorem zqm {w:World} {b:Nat} {m:MrkL} (h:Blk w b 126 (mkC m)) (hc:m.target.length=32) (x:List UInt8) (hx:x.length=32):Blk (w.setCells b 0 (x.map bv)) b 126 (mkC ⟨x,m.name,m.text⟩)∧w.there b 0 32:=by
 have h1:Blk w b 126 ([]++(m.target.map bv++[.string (str m.name),.string (str m.text)])):=h
 refine ⟨Blk.setCells (x.map bv) (m.target.map bv) h1 (by simp[hc,hx]),?_⟩
 have:=h1.thereIn
 simpa[hc] using this
theorem zwe {w:World} {b:Nat} {c:ChgL} {po po2:Option Addr} {pc pc2:Nat} (h:Blk w b 70 (chC c po pc)) (hc:c.tree.length=32) (Q:List (List UInt8)):Blk (w.setCell ⟨b,32,none⟩ (.slice po2 Q.length pc2)) b 70 (chC ⟨c.tree,Q,c.time,c.author,c.text⟩ po2 pc2):=by
 have:=h.set 32 (.slice po2 Q.length pc2)
 have e:(chC c po pc).set 32 (.slice po2 Q.length pc2)=chC ⟨c.tree,Q,c.time,c.author,c.text⟩ po2 pc2:=by
  have hl:(c.tree.map bv).length=32:=by simp[hc]
  unfold chC
  simp only[List.set_append,hl,Nat.lt_irrefl,if_false,Nat.sub_self,List.set_cons_zero]
 rw[e] at this
 exact this
theorem zza (a b:Int) (V:World):(Instr.buildSlice 37 2 #[(0,.int .u8 a),(1,.int .u8 b)]).run Tryz.prog V = .ok (.slice (some ⟨V.heap.size,0,none⟩) 2 2) (V.alloc (.cells #[.int .u8 a,.int .u8 b] 5)):=by kernel_rfl
set_option maxRecDepth 100000 in
set_option maxHeartbeats 8000000 in
theorem zti (w:World) (ao:Option Addr) (ac:Nat) (L:List PlnR) (hL:Plns w ao ac L) (hT:Tabs w) :
  Calls Tryz.prog 35 #[.slice ao L.length ac] w fun e w'=>∃ (v1 v2:Value) (R:List ObjR),e = .returned (.tuple #[v1,v2])∧MadeG w' w.heap.size v1 v2 R∧R.length≤24∧R.length≤L.length∧w.grownBy w' none:=by
 obtain ⟨p,hp⟩:∃ p,p=L.length:=⟨_,rfl⟩
 have hpm:p≤9223372036854775807:=by rw[hp];have:=hL.fits;have:=hL.most;unfold maxLen at this;omega
 rw[← hp]
 obtain ⟨HL,HT,HP⟩:=zh3 hL hT hp
 clear hL hT hp
 go_enter Tryz.func35,Tryz.ntmps35
 go_wp2
 go_loopw [4,5,6] (fun v4 v5 i wr=>∃ (j:Nat) (R:List ObjR),i = .int .i64 j∧j≤p∧j≤24∧R.length=j∧MadeG wr w.heap.size v4 v5 R∧w.grownBy wr none) (fun _ _ i _=>24 - (intOf i).toNat)
 case atStart=>exact ⟨0,[],rfl,Nat.zero_le _,Nat.zero_le _,rfl,MadeG.nil _ _,zab _ _⟩
 case round =>
  obtain ⟨WR,hWR⟩:∃ V,V=wr:=⟨_,rfl⟩
  subst hWR
  obtain ⟨j,R,rfl,hjp,hj24,hRl,hM,hg⟩:=hrel
  by_cases h1:j<p
  ·by_cases h2:j<24
   ·have h2i:(j:Int)<24:=by omega
    have hjL:j<L.length:=by have:=uh HP;omega
    have hIr:WR.ownsRow w.heap.size 33 32 u5 (R.map idR).length ((R.map idR).flatMap (·.map bv)):=by simpa using hM.ids
    obtain ⟨ia,ic,e5,hI5⟩:=Ids.own hIr (fun x hx=>by obtain ⟨r,_,rfl⟩:=List.mem_map.1 hx;exact zkx r)
    rw[show (R.map idR).length=j by simpa using hRl] at e5
    clear hIr
    subst e5
    obtain ⟨b,o,hao,hrow,hN0,hn64⟩:=((uh HL).kept hg).at j hjL
    obtain ⟨P,hP⟩:∃ P,P=L[j]:=⟨_,rfl⟩
    rw[← hP] at hrow hN0 hn64
    obtain ⟨PC,hPC⟩:∃ C,C=plC P:=⟨_,rfl⟩
    rw[← hPC] at hrow
    have hPl:PC.length=4:=by rw[hPC];rfl
    have hPo:PC.toArray.all (·.oneCell')=true:=by rw[hPC];exact all_oneCell_toArray (zx0 _)
    have hiP:(Tryz.prog.info? 82).map (·.size)=some PC.length:=by rw[hPl];exact zwa
    have hiP2:(Tryz.prog.info? 82).map (·.size)=some PC.toArray.size:=by simpa using hiP
    have hzp:=zwb
    obtain ⟨W1,hW1,hB1,g1⟩:=zbl WR 82 #[.int .i64 0,.slice none 0 0,.int .u64 0,.bool false] PC
    obtain ⟨HW1,HB1⟩:=zh2 hW1 hB1
    have HG1:=hide (tn hg g1)
    have HM:=hide (hM.none g1)
    have HN0:=hide (hN0.kept g1)
    obtain ⟨HN64,HROW,HIP,HIP2,HPO,HPL⟩:=zh6 hn64 hrow hiP hiP2 hPo hPl
    have HPC:=hide hPC
    have HI5:=hide (hI5.none g1)
    have HRL:=hide hRl
    have HS1:Hid (WR.heap.size<W1.heap.size):=hB1.lt
    have HZ4:Hid ((#[Value.int .i64 0,.slice none 0 0,.int .u64 0,.bool false]:Array Value).size=PC.toArray.size):=by (show (#[Value.int .i64 0,.slice none 0 0,.int .u64 0,.bool false]:Array Value).size=PC.toArray.size;simp[hPl])
    clear hP hW1 hB1 g1 hM hN0 hrow hiP hiP2 hPo hPl hPC hg hn64 hjL hI5 hRl
    subst hao
    go_upto_block 2 with (first
     | (refine wpList_load_mid rfl 82 _ rfl b (o+j*4) rfl PC _ (uh HROW) Tryz.underlying82 rfl (uh HIP) ?_)
     | (refine wpList_store_row rfl 82 _ _ rfl WR.heap.size _ rfl rfl _ _ (Blk.new WR 82 [.int .i64 0,.slice none 0 0,.int .u64 0,.bool false]) (uh HIP2) (uh HZ4) (uh HPO) ?_;rw[← uh HW1]))
    go_cut [8,9] (fun x8 _x9 wx=>∃ A:List (List UInt8),A.length≤4∧(∀ x∈A,x.length=32)∧wx.ownsRow W1.heap.size 33 32 x8 A.length (A.flatMap (·.map bv))∧W1.grownBy wx none)
    case first =>
     as_aux_lemma =>
     go_wp2_with fail
     go_loopw [8,9] (fun v i wx=>∃ (m:Nat) (A:List (List UInt8)),i = .int .i64 m∧m≤4∧A.length=m∧(∀ x∈A,x.length=32)∧wx.ownsRow W1.heap.size 33 32 v m (A.flatMap (·.map bv))∧W1.grownBy wx none) (fun _ i _=>4 - (intOf i).toNat)
     case atStart=>exact ⟨0,[],rfl,Nat.zero_le _,rfl,(fun _ h=>by cases h),World.ownsRow_nil _ _ _ _,zab _ _⟩
     case round =>
      obtain ⟨m,A,rfl,hm4,hAl,hA,ho,hgx⟩:=hrel
      have hcp:wr.cell? ⟨WR.heap.size,1,none⟩=some (.slice P.ao P.pl.length P.c):=by rw[((uh HB1).kept hgx (by simp)).cell,uh HPC];rfl
      obtain ⟨pn,hpn⟩:∃ n,n=P.pl.length:=⟨_,rfl⟩
      rw[← hpn] at hcp
      by_cases g1:m<pn
      ·by_cases g2:m<4
       ·by_cases g3:0<j
        ·have g2i:(m:Int)<4:=by omega
         have g3i:(0:Int)<(j:Int):=by omega
         have g3n:¬ (j:Int)=0:=by omega
         have g3m:¬ j=0:=by omega
         obtain ⟨bb,bf,hbo,hcb⟩:=((uh HN0).kept hgx).at m (by rw[← hpn];exact g1)
         obtain ⟨z,hz⟩:∃ z,z=P.pl[m]'(by rw[← hpn];exact g1):=⟨_,rfl⟩
         rw[← hz] at hcb
         obtain ⟨r,s,q,e1,e2,e3,hq⟩:=zm4 z j g3 (by omega)
         have hqI:q<(R.map idR).length:=by rw[List.length_map,uh HRL];exact hq
         obtain ⟨ib,io,hia,hrow⟩:=((uh HI5).none hgx).at q hqI
         have hrq:=hrow q hqI
         have hid:=(uh HI5).ids _ (List.getElem_mem hqI)
         obtain ⟨E,hE⟩:∃ E,E=(R.map idR)[q]:=⟨_,rfl⟩
         rw[← hE] at hrq hid
         obtain ⟨KB,hKB⟩:∃ KB,KB=E.map bv:=⟨_,rfl⟩
         have hK32:KB.length=32:=by rw[hKB];simpa using hid
         have hK1:∀ u∈KB,u.oneCell'=true:=by rw[hKB];exact za6 _
         have hiK:(Tryz.prog.info? 33).map (·.size)=some KB.length:=by rw[hK32];exact zat
         have hbs1:=zfl E hid wr
         obtain ⟨W5,hW5,hB5,g5⟩:=zag wr 33 KB
         rw[← hKB] at hrq hbs1
         rw[← hW5] at hbs1
         have ho5:=zbg ho g5 (fun _ e=>by cases e)
         have G5:=tn hgx g5
         have hjw:IntKind.i64.wrap ((m:Int)+1)=(m:Int)+1:=by rw[IntKind.wrap_i64];omega
         obtain ⟨HKB,HBS,HID,HO5,HG5,HB5⟩:=zh6 hKB hbs1 hid ho5 G5 hB5
         have HRQ:=hide hrq
         clear hz hrow hE hid hKB hbs1 hW5 hB5 g5 ho5 G5 ho hgx hrq hpn
         rw[hbo] at hcp
         clear hbo
         subst hia
         go_wp2_with (first
          | (refine wpList_load_mid rfl 33 _ rfl ib (io+q*32) rfl KB _ (uh HRQ) Tryz.underlying33 rfl hiK ?_)
          | (refine zaq rfl 29 _ rfl (.agg KB.toArray) _ rfl (uh HBS) ?_)
          | (refine zb8 rfl _ _ rfl W1.heap.size _ _ _ rfl (uh HO5) _ KB (uh HB5) hK32 hK1 rfl (by omega) (uh HG5).size ?_;intro v6 w6 ho6 g6;have HO6:=hide ho6;have HG6:=hide (zae (uh HG5) g6 (fun x e=>Or.inl ((uh HO5).lt x e).1));clear ho6 g6))
         go_roundw
         case rel =>
          refine ⟨m+1,A++[E],by go_num,by omega,by simp[hAl],fun x hx => ?_,?_,uh HG6⟩
          ·rcases List.mem_append.1 hx with hx | hx
           ·exact hA x hx
           ·rw[List.mem_singleton.1 hx];exact uh HID
          ·have:=uh HO6
           rw[uh HKB] at this
           simpa using this
         case measure=>simp[intOf];omega
        ·have g3a:¬ (0:Int)<(j:Int):=by omega
         have g2i:(m:Int)<4:=by omega
         clear hpn
         go_wp2
         go_meet
         case rel=>exact ⟨A,by omega,hA,by rw[hAl];exact ho,hgx⟩
       ·have g2i:¬ (m:Int)<4:=by omega
        clear hpn
        go_wp2
        go_meet
        case rel=>exact ⟨A,by omega,hA,by rw[hAl];exact ho,hgx⟩
      ·clear hpn
       go_wp2
       go_meet
       case rel=>exact ⟨A,by omega,hA,by rw[hAl];exact ho,hgx⟩
    case rest =>
     obtain ⟨A,hA4,hA32,hAo,hgA⟩:=hcut
     obtain ⟨W2,hW2⟩:∃ W,W=wc:=⟨_,rfl⟩
     rw[← hW2]
     rw[← hW2] at hAo hgA
     clear hW2
     obtain ⟨aa,ac2,e8,hA8⟩:=Ids.own hAo hA32
     obtain ⟨an,han⟩:∃ n,n=A.length:=⟨_,rfl⟩
     rw[← han] at e8
     subst e8
     have hcN:W2.cell? ⟨WR.heap.size,2,none⟩=some (.int .u64 (P.n:Int)):=by rw[((uh HB1).kept hgA (by simp)).cell,uh HPC];rfl
     have hcK0:W2.cell? ⟨WR.heap.size,0,none⟩=some (.int .i64 P.kind):=by rw[((uh HB1).kept hgA (by simp)).cell,uh HPC];rfl
     obtain ⟨b0,hb0⟩:=ztg P.n
     obtain ⟨b1,hb1⟩:=ztg j
     obtain ⟨y0,hy0⟩:∃ y:Int,y=(b0.toNat:Int):=⟨_,rfl⟩
     obtain ⟨y1,hy1⟩:∃ y:Int,y=(b1.toNat:Int):=⟨_,rfl⟩
     rw[← hy0] at hb0
     rw[← hy1] at hb1
     obtain ⟨N,hN⟩:∃ n,n=P.n:=⟨_,rfl⟩
     obtain ⟨K,hK⟩:∃ k,k=P.kind:=⟨_,rfl⟩
     rw[← hN] at hb0 hcN
     rw[← hK] at hcK0
     have hbs2:=zza y0 y1
     have hbo:=zit
     have hzo:=zel
     obtain ⟨Wb,hWb,hBb,gb⟩:=zag W2 5 [.int .u8 y0,.int .u8 y1]
     obtain ⟨W3,hW3,hB3,g3⟩:=zbl Wb 42 #[.int .i64 0,.slice none 0 0] [.int .i64 1,.slice (some ⟨W2.heap.size,0,none⟩) 2 2]
     obtain ⟨q,hq⟩:∃ q,q=Wb.heap.size:=⟨_,rfl⟩
     have hqs:q=W2.heap.size+1:=by rw[hq,hWb,World.size_alloc]
     have hD3:Dat W3 (some ⟨W2.heap.size,0,none⟩) 2 [b0,b1]:=by
      have h9:Blk Wb W2.heap.size 5 ([b0,b1].map bv):=by rw[hy0,hy1] at hBb;exact hBb
      exact (zye h9 (by unfold maxLen;show 2≤_;decide)).none g3
     have hcK:W3.cell? ⟨WR.heap.size,0,none⟩=some (.int .i64 K):=(tn gb g3).cell hcK0 (by simp)
     have hcN3:W3.cell? ⟨WR.heap.size,2,none⟩=some (.int .u64 (N:Int)):=(tn gb g3).cell hcN (by simp)
     have HB3:Hid (Blk W3 q 42 [.int .i64 1,.slice (some ⟨W2.heap.size,0,none⟩) 2 2]):=by rw[hq];exact hB3
     have HD3:=hide hD3
     have HA3:=hide (hA8.none (tn gb g3))
     have HG3:=hide (tn hgA (tn gb g3))
     obtain ⟨HW3,HWB,HQ⟩:=zh3 hW3 hWb hq
     have HQS:Hid (W1.heap.size≤q):=by rw[hqs];have:=hgA.size;show _≤_;omega
     have HQL:Hid (q<W3.heap.size):=(uh HB3).lt
     obtain ⟨HK,HN,HAN⟩:=zh3 hK hN han
     clear hN hK hW3 hWb hB3 hD3 hBb gb g3 hq hqs hAo hA8 han hy0 hy1
     go_upto_block 4 with (first
      | (rw[← uh HWB])
      | (refine wpList_store_row rfl 42 _ _ rfl Wb.heap.size _ rfl rfl _ _ (Blk.new Wb 42 [.int .i64 0,.slice none 0 0]) zav rfl (zcq rfl) ?_;rw[← uh HW3]))
     rw[← uh HQ]
     go_cut [11,12,13,14,15] (fun _x1 _x2 _x3 _x4 _x5 wx=>∃ (kk:Nat) (ao' : Option Addr) (c' : Nat) (d' : List UInt8),Blk wx q 42 [.int .i64 (kk:Int),.slice ao' d'.length c']∧Dat wx ao' c' d'∧d'.length≤16384∧W3.grownBy wx (some q))
     case first =>
      clear hb0 hb1 hbs2 hcN hcK0
      by_cases hk1:K=1
      ·subst hk1
       as_aux_lemma =>
       clear hcN3
       go_wp2
       go_loopw [11,12] (fun v i wx=>∃ (m:Nat) (es:List EntL),i = .int .i64 m∧m≤an∧es.length=m∧wx.ownsRow W3.heap.size 123 34 v m (es.flatMap enC)∧(∀ e∈es,e.id.length=32∧e.name.length≤64)∧W3.grownBy wx none) (fun _ i _=>an - (intOf i).toNat)
       case atStart=>exact ⟨0,[],rfl,Nat.zero_le _,rfl,World.ownsRow_nil _ _ _ _,(fun _ h=>by cases h),zab _ _⟩
       case round =>
        obtain ⟨m,es,rfl,hma,hel,hoe,hes,hgx⟩:=hrel
        have ha4:an≤4:=by rw[uh HAN];exact hA4
        by_cases hlt:m<an
        ·have hmA:m<A.length:=by rw[← uh HAN];exact hlt
         obtain ⟨ab,af,haa,hrow⟩:=(uh HA3).at m hmA
         have hrq:=hrow m hmA
         have hid:=hA32 _ (List.getElem_mem hmA)
         obtain ⟨E,hE⟩:∃ E,E=A[m]:=⟨_,rfl⟩
         rw[← hE] at hrq hid
         obtain ⟨KB,hKB⟩:∃ KB,KB=E.map bv:=⟨_,rfl⟩
         have hK32:KB.length=32:=by rw[hKB];simpa using hid
         have hiK:(Tryz.prog.info? 33).map (·.size)=some KB.length:=by rw[hK32];exact zat
         rw[← hKB] at hrq
         have hss:=zfz [97,98,99,100] m (m+1) (by omega) (by simp;omega)
         obtain ⟨X,hX⟩:∃ X:List UInt8,X=(([97,98,99,100]:List UInt8).drop m).take (m+1 - m):=⟨_,rfl⟩
         have hXl:X.length≤64:=by rw[hX,List.length_take];omega
         rw[← hX] at hss
         obtain ⟨TS,hTS⟩:∃ T,T=str X:=⟨_,rfl⟩
         rw[← hTS] at hss
         have hss2:∀ V,(Instr.slice 9 (.string { data := #[97,98,99,100] }) (some (.int .i64 (m:Int))) (some (.int .i64 ((m:Int)+1))) none).run Tryz.prog V = .ok (.string TS) V:=hss
         obtain ⟨EC,hEC⟩:∃ C,C=Value.string TS::Value.bool false::KB:=⟨_,rfl⟩
         have hEe:EC=enC ⟨X,false,E⟩:=by rw[hEC,hTS,hKB];rfl
         have hbe:Tryz.prog.built 123 [(0,.string TS),(2,.agg KB.toArray)]=some EC.toArray:=by rw[hEC,hKB];exact zqj TS E hid
         obtain ⟨W5,hW5,hB5,g5⟩:=zag wr.drew 123 EC
         have hbs:(Instr.buildSlice 121 1 #[(0,.agg EC.toArray)]).run Tryz.prog wr.drew = .ok (.slice (some ⟨wr.drew.heap.size,0,none⟩) 1 1) W5:=by rw[hW5,hEC,hKB];exact zre TS false E hid wr.drew
         have h0:W3.grownBy wr.drew none:=zak hgx
         have ho5:=zck hoe (tn (zak (zab wr none)) g5) (fun _ e=>by cases e)
         have HG6:Hid (∀ w6 (v6:Value),W5.grownBy w6 u11.ownBlock→W3.grownBy w6 none):=fun w6 v6 g6=>zae (tn h0 g5) g6 (fun x e=>Or.inl (ho5.lt x e).1)
         obtain ⟨HSS,HBE,HBS,HE5,HO5⟩:=zh5 hss2 hbe hbs hB5 ho5
         have HG5:=hide (tn h0 g5)
         have HGX:Hid (W3.grownBy W3 none):=zab _ _
         obtain ⟨HRQ,HIK⟩:=zh2 hrq hiK
         have HEL:Hid (EC.length=34):=by rw[hEC];show _+1+1=34;rw[hK32]
         have HE1:Hid (∀ u∈EC,u.oneCell'=true):=by rw[hEe];exact zgu _
         obtain ⟨HEE,HXL,HID⟩:=zh3 hEe hXl hid
         have hjw:IntKind.i64.wrap ((m:Int)+1)=(m:Int)+1:=by rw[IntKind.wrap_i64];omega
         clear hss hss2 hX hTS hEC hEe hbe hbs hW5 hB5 g5 ho5 hrow hrq hE hKB hK32 hiK hid hXl hmA hoe
         subst haa
         go_upto_region 19 with fail
         refine wp_region_noPanic ?_
         refine wp_region_held_drew (S:=fun V=>W3.grownBy V none) (by kernel_rfl) h0 (fun _ => ?_)
         refine tq 0 79 (.move (.tmp 11)) u11 h0 ?_
         refine tq 1 80 (.move (.tmp 12)) (.int .i64 (m:Int)) h0 ?_
         refine tq 2 81 (.move (.tmp 12)) (.int .i64 (m:Int)) h0 ?_
         refine tq 3 82 (.binOp .add 3 (.tmp 81) (.const (.int .i64 1)) 3) (.int .i64 ((m:Int)+1)) h0 ?_
         (try simp only[pq])
         refine tz 4 83 (.slice 9 (.const (.string { data := #[97,98,99,100] })) (some (.tmp 80)) (some (.tmp 82)) none) (.string TS) h0 ?_ (y:=(Or.inl ⟨by rfl,fun V hV=>by (have z9:=uh HSS V;go_simp)⟩))
         refine tq 5 84 (.move (.tmp 8)) (.slice (some ⟨ab,af,none⟩) an ac2) h0 ?_
         refine tq 6 85 (.move (.tmp 12)) (.int .i64 (m:Int)) h0 ?_
         refine tq 7 86 (.indexAddr 29 (.tmp 84) (.tmp 85)) (.pointer (some ⟨ab,af+m*32,none⟩)) h0 ?_
         (try simp only[pq])
         refine tz 8 87 (.load 33 (.tmp 86)) (.agg KB.toArray) h0 ?_ (y:=(yieldsIf_load_mid (by rfl) _ _ rfl _ _ rfl KB _ (fun V hV=>zaf (uh HRQ) hV (by simp)) Tryz.underlying33 rfl (uh HIK)))
         refine tz 9 88 (.build 123 #[(0,(.tmp 83)),(2,(.tmp 87))]) (.agg EC.toArray) h0 ?_ (y:=(zbe (by rfl) _ _ rfl _ (Eq.trans (b:=Tryz.prog.built 123 [(0,.string TS),(2,.agg KB.toArray)]) (by kernel_rfl) (uh HBE))))
         (try simp only[pq])
         refine rd 10 (some 89) (.buildSlice 121 1 #[(0,(.tmp 88))]) (fun K9 hK9 => ?_)
         refine zar (by rfl) 121 _ rfl (.agg EC.toArray) _ rfl (uh HBS) ?_
         refine hK9.out _ _ (uh HG5) (fun _ => ?_)
         clear hK9 K9
         (try simp only[pq])
         refine rd 11 (some 90) (.call { callee := .builtin .append,args := #[(.tmp 79),(.tmp 89)],argTypes := #[121,121] }) (fun K9 hK9 => ?_)
         refine zcj (by rfl) _ _ rfl W3.heap.size u11 _ _ rfl (uh HO5) _ EC (uh HE5) (uh HEL) (uh HE1) rfl (by omega) (Nat.le_trans (uh HGX).size (uh HG5).size) ?_
         intro v6 w6 ho6 g6
         have k6:wr.grownBy w6 none∨True:=Or.inr trivial
         have h6:=uh HG6 w6 v6 g6
         refine hK9.out _ _ h6 (fun _ => ?_)
         clear hK9 K9 k6
         refine tq 12 11 (.assign (.tmp 90)) v6 h6 ?_
         (try simp only[pq])
         refine wpAnyH_done (by kernel_rfl) ?_ _
         refine NoPanic.normal ?_
         go_wp2
         go_roundw
         case rel =>
          refine ⟨m+1,es++[⟨X,false,E⟩],by go_num,by omega,by simp[hel],?_,fun e he => ?_,h6⟩
          ·rw[uh HEE] at ho6
           simpa using ho6
          ·rcases List.mem_append.1 he with he | he
           ·exact hes e he
           ·rw[List.mem_singleton.1 he];exact ⟨uh HID,uh HXL⟩
         case measure=>simp[intOf];omega
        ·have hoe2:wr.ownsRow W3.heap.size 123 34 u11 es.length (es.flatMap enC):=by rw[hel];exact hoe
         obtain ⟨ao9,c9,e9,hEns⟩:=Ens.own hoe2 (fun e he=>(hes e he).1)
         have ct:=(zjl wr ao9 c9 es hEns (fun e he=>by have:=(hes e he).2;omega)).mono (fun e w' h=>h.obj 2 rfl (zql es))
         obtain ⟨ne,hne⟩:∃ n,n=es.length:=⟨_,rfl⟩
         rw[← hne] at ct e9
         subst e9
         have hmn:m=ne:=by rw[hne,hel]
         clear hEns hoe hne hel hoe2 hes
         subst hmn
         go_wp2_with (first | (go_at_call 66;refine (ct).mono ?_;rintro e w7 ⟨kk,a7,c7,n7,y7,d7,rfl,hn7,hD7,hs7,g7⟩;have G7:=tn hgx g7;have hBq:=(uh HB3).kept G7 (by simp);have HD7:=hide hD7;have HN7:=hide hn7;have HSM7:=hide hs7;clear hD7 hn7 hs7 g7) | (refine wpList_store_row rfl 42 _ _ rfl q _ rfl rfl _ _ hBq zav rfl (zcq rfl) ?_))
         (try simp only[Act.put])
         have g9:w7.grownBy (w7.setRow q #[.int .i64 (kk:Int),.slice a7 n7 c7]) (some q):=zam (zab _ _) _ (Or.inr rfl)
         go_meet
         case rel=>exact ⟨kk,a7,c7,d7,(by rw[← uh HN7];exact hBq.row [.int .i64 (kk:Int),.slice a7 n7 c7]),(uh HD7).kept g9 (fun x e=>by cases e;exact zg3 hBq (by decide)),uh HSM7,zae (zaw (some q) G7) g9 (fun _ e=>Or.inr e)⟩
      ·have k1:(K == 1)=false:=by simpa using hk1
       by_cases hk2:K=2
       ·subst hk2
        as_aux_lemma =>
        obtain ⟨Z,hZ,hzc⟩:=zj7
        obtain ⟨t5,ht5⟩:∃ t:Nat,t=N % 5:=⟨_,rfl⟩
        have hrem:Int.tmod (N:Int) 5=(t5:Int):=by rw[Int.tmod_eq_emod_of_nonneg (by omega),ht5];omega
        have ha4:an≤4:=by rw[uh HAN];exact hA4
        have hss:=zfz [97,98,99,100,101,102,103,104,105,106,107,108,109,110,111,112,113,114,115,116,117,118,119,120] j (j+1) (by omega) (by simp;omega)
        obtain ⟨X,hX⟩:∃ X:List UInt8,X=(([97,98,99,100,101,102,103,104,105,106,107,108,109,110,111,112,113,114,115,116,117,118,119,120]:List UInt8).drop j).take (j+1 - j):=⟨_,rfl⟩
        have hXl:X.length≤1000000:=by rw[hX,List.length_take];omega
        rw[← hX] at hss
        obtain ⟨TS,hTS⟩:∃ T,T=str X:=⟨_,rfl⟩
        rw[← hTS] at hss
        have hss2:∀ V,(Instr.slice 9 (.string { data := #[97,98,99,100,101,102,103,104,105,106,107,108,109,110,111,112,113,114,115,116,117,118,119,120] }) (some (.int .i64 (j:Int))) (some (.int .i64 ((j:Int)+1))) none).run Tryz.prog V = .ok (.string TS) V:=hss
        obtain ⟨CC,hCC⟩:∃ C,C=chC ⟨zz32,[],t5,[],X⟩ none 0:=⟨_,rfl⟩
        have hbe:Tryz.prog.built 70 [(2,.int .u64 (t5:Int)),(4,.string TS)]=some CC.toArray:=by rw[hCC,hTS];exact znc t5 X
        have hCl:CC.length=36:=by rw[hCC];exact zd0 _ _ _ rfl
        have hCo:CC.toArray.all (·.oneCell')=true:=by rw[hCC];exact all_oneCell_toArray (zeg _ _ _)
        have hiC2:(Tryz.prog.info? 70).map (·.size)=some CC.toArray.size:=by rw[show CC.toArray.size=36 by simpa using hCl];exact zbv
        have hZC:Z.toList.toArray.size=CC.toArray.size:=by simp[hZ,hCl]
        obtain ⟨WD,hWD⟩:∃ V,V=W3.drew:=⟨_,rfl⟩
        have h0:W3.grownBy WD none:=by rw[hWD];exact zak (zab _ _)
        have HWD:=hide hWD
        clear hWD
        obtain ⟨WA,hWA,hBA,gA⟩:=ze6 WD 70 Z
        obtain ⟨HSS,HBE,HIC2,HZC,HCO,HZB⟩:=zh6 hss2 hbe hiC2 hZC hCo hBA
        have HWA:=hide hWA
        have HGA2:=hide (tn h0 gA)
        obtain ⟨HXL,HCC⟩:=zh2 hXl hCC
        have hjw:IntKind.i64.wrap ((j:Int)+1)=(j:Int)+1:=by rw[IntKind.wrap_i64];omega
        clear hss hss2 hX hTS hbe hCl hCo hiC2 hZC hZ hWA hBA gA hXl hCC ht5
        go_upto_region 22 with fail
        go_cut [13] (fun x13 wx=>∃ cb,x13 = .pointer (some ⟨cb,0,none⟩)∧Blk wx cb 70 CC∧W3.heap.size≤cb∧W3.grownBy wx none)
        case first =>
         as_aux_lemma =>
         refine wp_region_noPanic ?_
         refine wp_region_held_drew (S:=fun V=>W3.grownBy V none) (by kernel_rfl) (by rw[← uh HWD];exact h0) (fun _ => ?_)
         rw[← uh HWD]
         refine tq 0 98 (.fieldAddr 82 (.tmp 7) 2) (.pointer (some ⟨WR.heap.size,2,none⟩)) h0 ?_
         refine tz 1 99 (.load 68 (.tmp 98)) (.int .u64 (N:Int)) h0 ?_ (y:=(Or.inl ⟨by rfl,fun V hV=>by (have hv1:=hV.cell hcN3 (by simp);go_simp)⟩))
         refine tq 2 100 (.binOp .rem 68 (.tmp 99) (.const (.int .u64 5)) 68) (.int .u64 (t5:Int)) h0 ?_
         refine tq 3 101 (.move (.tmp 6)) (.int .i64 (j:Int)) h0 ?_
         (try simp only[pq])
         refine tq 4 102 (.move (.tmp 6)) (.int .i64 (j:Int)) h0 ?_
         refine tq 5 103 (.binOp .add 3 (.tmp 102) (.const (.int .i64 1)) 3) (.int .i64 ((j:Int)+1)) h0 ?_
         refine tz 6 104 (.slice 9 (.const (.string { data := #[97,98,99,100,101,102,103,104,105,106,107,108,109,110,111,112,113,114,115,116,117,118,119,120] })) (some (.tmp 101)) (some (.tmp 103)) none) (.string TS) h0 ?_ (y:=(Or.inl ⟨by rfl,fun V hV=>by (have z9:=uh HSS V;go_simp)⟩))
         refine tz 7 105 (.build 70 #[(2,(.tmp 100)),(4,(.tmp 104))]) (.agg CC.toArray) h0 ?_ (y:=(zbe (by rfl) _ _ rfl _ (Eq.trans (b:=Tryz.prog.built 70 [(2,.int .u64 (t5:Int)),(4,.string TS)]) (by kernel_rfl) (uh HBE))))
         (try simp only[pq])
         refine rd 8 (some 13) (.alloc 70) (fun K9 hK9 => ?_)
         go_simp
         rw[← uh HWA]
         refine hK9.out _ _ (uh HGA2) (fun _ => ?_)
         clear hK9 K9
         (try simp only[pq])
         refine rd 9 none (.store 70 (.tmp 13) (.tmp 105)) (fun K9 hK9 => ?_)
         rw[if_pos (by rfl)]
         refine wp_store_row _ _ _ rfl WD.heap.size _ rfl rfl _ _ (uh HZB) (uh HIC2) (uh HZC) (uh HCO) ?_
         refine hK9.out _ _ (zam (uh HGA2) _ (Or.inl h0.size)) (fun _ => ?_)
         clear hK9 K9
         (try simp only[Act.put])
         refine wpAnyH_done (by kernel_rfl) ?_ _
         refine NoPanic.normal ?_
         go_wp2_with fail
         go_meet
         case rel=>exact ⟨_,rfl,(uh HZB).row CC,h0.size,zam (uh HGA2) _ (Or.inl h0.size)⟩
        case rest =>
         obtain ⟨cb,rfl,hB4,hcb,hg4⟩:=hcut
         obtain ⟨W4,hW4⟩:∃ W,W=wc:=⟨_,rfl⟩
         rw[← hW4]
         rw[← hW4] at hB4 hg4
         rw[uh HCC] at hB4
         clear hW4 hcN3 h0 hrem HSS HBE HIC2 HZC HCO HZB HWA HGA2 hzc HCC
         go_upto_if 108 with fail
         go_cut [] (fun wx=>∃ tr:List UInt8,tr.length=32∧Blk wx cb 70 (chC ⟨tr,[],t5,[],X⟩ none 0)∧W3.grownBy wx none)
         case first =>
          as_aux_lemma =>
          by_cases h0:0<an
          ·have hmA:0<A.length:=by rw[← uh HAN];exact h0
           obtain ⟨ab,af,haa,hrow⟩:=(uh HA3).at 0 hmA
           have hrq:=hrow 0 hmA
           rw[Nat.zero_mul,Nat.add_zero] at hrq
           have hid:=hA32 _ (List.getElem_mem hmA)
           obtain ⟨E,hE⟩:∃ E,E=A[0]:=⟨_,rfl⟩
           rw[← hE] at hrq hid
           obtain ⟨KB,hKB⟩:∃ KB,KB=E.map bv:=⟨_,rfl⟩
           have hK32:KB.length=32:=by rw[hKB];simpa using hid
           have hKo:KB.toArray.all (·.oneCell')=true:=by rw[hKB];exact all_oneCell_toArray (za6 _)
           have hiK:(Tryz.prog.info? 33).map (·.size)=some KB.length:=by rw[hK32];exact zat
           have hiK2:(Tryz.prog.info? 33).map (·.size)=some KB.toArray.size:=by simpa using hiK
           rw[← hKB] at hrq
           have h0i:(0:Int)<(an:Int):=by omega
           have hrq4:=zaf hrq hg4 (by simp)
           obtain ⟨hB6,ht6⟩:=zwd hB4 zky E hid
           have hg6:W3.grownBy (W4.setCells cb 0 (E.map bv)) none:=zbi (Or.inl hcb) _ _ hg4
           have hth:W4.there cb 0 KB.toArray.size:=by rw[show KB.toArray.size=32 by simpa using hK32];exact ht6
           rw[← hKB] at hB6 hg6
           obtain ⟨HTH,HKO,HIK2,HB6,HG6,HID⟩:=zh6 hth hKo hiK2 hB6 hg6 hid
           clear ht6 hth hB6 hg6 hKB hE hrow hmA hid hK32 hKo hiK2 hB4
           subst haa
           go_wp2_with (first | (refine wpList_load_mid rfl 33 _ rfl ab af rfl KB _ hrq4 Tryz.underlying33 rfl hiK ?_;clear hrq4) | (refine wpList_store_mid rfl 33 _ _ rfl cb 0 KB.toArray rfl rfl (uh HTH) (uh HIK2) (uh HKO) ?_))
           (try simp only[Act.put])
           go_meet
           case rel=>exact ⟨E,uh HID,by simpa only[List.toList_toArray] using uh HB6,by simpa only[List.toList_toArray] using uh HG6⟩
          ·have h0i:¬ (0:Int)<(an:Int):=by omega
           go_wp2
           go_meet
           case rel=>exact ⟨zz32,zky,hB4,hg4⟩
         case rest =>
          obtain ⟨tr,htr,hB5,hg5⟩:=hcut
          obtain ⟨W5,hW5⟩:∃ W,W=wc:=⟨_,rfl⟩
          rw[← hW5]
          rw[← hW5] at hB5 hg5
          clear hW5 hB4 hg4
          obtain ⟨HB5,HG5,HTR,HCB⟩:=zh4 hB5 hg5 htr hcb
          have HS35:Hid (W3.heap.size≤W5.heap.size):=hg5.size
          clear hB5 hg5 htr
          go_wp2_with fail
          go_loopw [14] (fun i wx=>∃ (m:Nat) (po:Option Addr) (pc:Nat) (Q:List (List UInt8)),i = .int .i64 m∧1≤m∧m≤4∧Q.length≤m∧(∀ x∈Q,x.length=32)∧Blk wx cb 70 (chC ⟨tr,Q,t5,[],X⟩ po pc)∧wx.ownsRow W5.heap.size 33 32 (.slice po Q.length pc) Q.length (Q.flatMap (·.map bv))∧W3.grownBy wx none∧W5.heap.size≤wx.heap.size) (fun i _=>4 - (intOf i).toNat)
          case atStart=>exact ⟨1,none,0,[],rfl,Nat.le_refl _,by omega,Nat.zero_le _,(fun _ h=>by cases h),uh HB5,World.ownsRow_nil _ _ _ _,uh HG5,Nat.le_refl _⟩
          case round =>
           obtain ⟨m,po,pc,Q,rfl,hm1,hm4,hQm,hQ,hBx,hOx,hgx,hsx⟩:=hrel
           by_cases hlt:m<an
           ·have hmA:m<A.length:=by rw[← uh HAN];exact hlt
            obtain ⟨ab,af,haa,hrow⟩:=(uh HA3).at m hmA
            have hr3:=hrow m hmA
            have hrb:=hrow 1 (by omega)
            have hrc:=hrow (m - 1) (by omega)
            have hid:=hA32 _ (List.getElem_mem hmA)
            have hi1:=hA32 _ (List.getElem_mem (show 1<A.length by omega))
            have hip:=hA32 _ (List.getElem_mem (show m - 1<A.length by omega))
            obtain ⟨E,hE⟩:∃ E,E=A[m]:=⟨_,rfl⟩
            obtain ⟨E1,hE1⟩:∃ E,E=A[1]'(by omega):=⟨_,rfl⟩
            obtain ⟨EP,hEP⟩:∃ E,E=A[m - 1]'(by omega):=⟨_,rfl⟩
            rw[← hE] at hr3 hid
            rw[← hE1] at hrb hi1
            rw[← hEP] at hrc hip
            obtain ⟨m1,hm1e⟩:∃ n,n=m - 1:=⟨_,rfl⟩
            rw[← hm1e] at hrc
            rw[Nat.one_mul] at hrb
            obtain ⟨KM,hKM⟩:∃ KB,KB=E.map bv:=⟨_,rfl⟩
            obtain ⟨K1,hK1e⟩:∃ KB,KB=E1.map bv:=⟨_,rfl⟩
            obtain ⟨KP,hKP⟩:∃ KB,KB=EP.map bv:=⟨_,rfl⟩
            have hKl:KM.length=32:=by rw[hKM];simpa using hid
            have hiM:(Tryz.prog.info? 33).map (·.size)=some KM.length:=by rw[hKl];exact zat
            have hiI1:(Tryz.prog.info? 33).map (·.size)=some K1.length:=by rw[hK1e,List.length_map,hi1];exact zat
            have hiPP:(Tryz.prog.info? 33).map (·.size)=some KP.length:=by rw[hKP,List.length_map,hip];exact zat
            have hKo:∀ u∈KM,u.oneCell'=true:=by rw[hKM];exact za6 _
            have hne1:∀ V,(binOp .neq 33 (.agg KM.toArray) (.agg K1.toArray)).run Tryz.prog V = .ok (.bool (!(E == E1))) V:=fun V=>by rw[hKM,hK1e];exact znb E E1 hid hi1 V
            have hneP:∀ V,(binOp .neq 33 (.agg KM.toArray) (.agg KP.toArray)).run Tryz.prog V = .ok (.bool (!(E == EP))) V:=fun V=>by rw[hKM,hKP];exact znb E EP hid hip V
            obtain ⟨bb,hbb⟩:∃ b,b = !(E == EP):=⟨_,rfl⟩
            rw[← hbb] at hneP
            rw[← hKM] at hr3
            rw[← hK1e] at hrb
            rw[← hKP] at hrc
            have hrM:=zaf hr3 hgx (by simp)
            have hr1:=zaf hrb hgx (by simp)
            have hrP:=zaf hrc hgx (by simp)
            have hbs:∀ V:World,(Instr.buildSlice 29 1 #[(0,.agg KM.toArray)]).run Tryz.prog V = .ok (.slice (some ⟨V.heap.size,0,none⟩) 1 1) (V.alloc (.cells KM.toArray 33)):=fun V=>by rw[hKM];exact zfl E hid V
            have hms:IntKind.i64.wrap ((m:Int) - 1)=(m1:Int):=by rw[IntKind.wrap_i64];omega
            have hmw:IntKind.i64.wrap ((m:Int)+1)=(m:Int)+1:=by rw[IntKind.wrap_i64];omega
            obtain ⟨HIM,HI1,HIP9,HNP,HBS,HKL⟩:=zh6 hiM hiI1 hiPP hneP hbs hKl
            obtain ⟨HK1,HID,HKM⟩:=zh3 hKo hid hKM
            have HBD:=hide ((hBx.kept (zak (zab wr none)) (by simp)).kept (zak (zab wr.drew none)) (by simp))
            have HOD:=hide (zbg (zbg hOx (zak (zab wr none)) (fun _ e=>by cases e)) (zak (zab wr.drew none)) (fun _ e=>by cases e))
            have HPR:Hid (∀ (w6:World) po6 pc6,Blk w6 cb 70 (chC ⟨tr,Q,t5,[],X⟩ po pc)→Blk (w6.setCell ⟨cb,32,none⟩ (.slice po6 (Q.length+1) pc6)) cb 70 (chC ⟨tr,Q++[E],t5,[],X⟩ po6 pc6)):=fun w6 po6 pc6 hB=>by
             have:=zwe (po2:=po6) (pc2:=pc6) hB (uh HTR) (Q++[E])
             rw[show (Q++[E]).length=Q.length+1 by simp] at this
             exact this
            have HS5:Hid (W5.heap.size≤wr.drew.drew.heap.size):=hsx
            have han1:¬ (an:Int)≤1:=by omega
            have hm1n:m1<an:=by omega
            obtain ⟨HNE1,HOX,HBX⟩:=zh3 hne1 hOx hBx
            clear hne1 hneP hbs hKl hKo hiM hiI1 hiPP hid hi1 hip hE hE1 hEP hKM hK1e hKP hrow hmA hbb hrb hrc hm1e
            subst haa
            go_upto_region 28 with fail
            go_cut [142] (fun x wx=>∃ bb:Bool,x = .bool bb∧wx=wr.drew)
            case first =>
             as_aux_lemma =>
             have h0:wr.grownBy wr.drew none:=zak (zab _ _)
             by_cases hm:m=1
             ·subst hm
              refine wp_region_noPanic ?_
              refine wp_region_held_drew (S:=fun V=>wr.grownBy V none) (by kernel_rfl) h0 (fun _ => ?_)
              refine tq 0 119 (.move (.tmp 14)) (.int .i64 1) h0 ?_
              refine tq 1 120 (.binOp .eql 3 (.tmp 119) (.const (.int .i64 1)) 3) (.bool true) h0 ?_
              refine tq 2 121 (.move (.tmp 120)) (.bool true) h0 ?_
              refine tz 3 122 (.move (.tmp 8)) undef h0 ?_ (y:=(Or.inr ⟨by rfl,rfl⟩))
              (try simp only[pq])
              refine tz 4 123 (.move (.tmp 14)) undef h0 ?_ (y:=(Or.inr ⟨by rfl,rfl⟩))
              refine tz 5 124 (.indexAddr 29 (.tmp 122) (.tmp 123)) undef h0 ?_ (y:=(Or.inr ⟨by rfl,rfl⟩))
              refine tz 6 125 (.load 33 (.tmp 124)) undef h0 ?_ (y:=(Or.inr ⟨by rfl,rfl⟩))
              refine tz 7 126 (.move (.tmp 8)) undef h0 ?_ (y:=(Or.inr ⟨by rfl,rfl⟩))
              (try simp only[pq])
              refine tz 8 127 (.indexAddr 29 (.tmp 126) (.const (.int .i64 1))) undef h0 ?_ (y:=(Or.inr ⟨by rfl,rfl⟩))
              refine tz 9 128 (.load 33 (.tmp 127)) undef h0 ?_ (y:=(Or.inr ⟨by rfl,rfl⟩))
              refine tz 10 129 (.binOp .neq 33 (.tmp 125) (.tmp 128) 33) undef h0 ?_ (y:=(Or.inr ⟨by rfl,rfl⟩))
              refine tz 11 130 (.move (.tmp 129)) undef h0 ?_ (y:=(Or.inr ⟨by rfl,rfl⟩))
              (try simp only[pq])
              refine tz 12 131 (.move (.tmp 8)) undef h0 ?_ (y:=(Or.inr ⟨by rfl,rfl⟩))
              refine tz 13 132 (.move (.tmp 14)) undef h0 ?_ (y:=(Or.inr ⟨by rfl,rfl⟩))
              refine tz 14 133 (.indexAddr 29 (.tmp 131) (.tmp 132)) undef h0 ?_ (y:=(Or.inr ⟨by rfl,rfl⟩))
              refine tz 15 134 (.load 33 (.tmp 133)) undef h0 ?_ (y:=(Or.inr ⟨by rfl,rfl⟩))
              (try simp only[pq])
              refine tz 16 135 (.move (.tmp 8)) undef h0 ?_ (y:=(Or.inr ⟨by rfl,rfl⟩))
              refine tz 17 136 (.move (.tmp 14)) undef h0 ?_ (y:=(Or.inr ⟨by rfl,rfl⟩))
              refine tz 18 137 (.binOp .sub 3 (.tmp 136) (.const (.int .i64 1)) 3) undef h0 ?_ (y:=(Or.inr ⟨by rfl,rfl⟩))
              refine tz 19 138 (.indexAddr 29 (.tmp 135) (.tmp 137)) undef h0 ?_ (y:=(Or.inr ⟨by rfl,rfl⟩))
              (try simp only[pq])
              refine tz 20 139 (.load 33 (.tmp 138)) undef h0 ?_ (y:=(Or.inr ⟨by rfl,rfl⟩))
              refine tz 21 140 (.binOp .neq 33 (.tmp 134) (.tmp 139) 33) undef h0 ?_ (y:=(Or.inr ⟨by rfl,rfl⟩))
              refine tz 22 141 (.pick (.tmp 130) (.tmp 140) (.const (.bool false))) undef h0 ?_ (y:=(Or.inr ⟨by rfl,rfl⟩))
              refine tq 23 142 (.pick (.tmp 121) (.const (.bool true)) (.tmp 141)) (.bool true) h0 ?_
              (try simp only[pq])
              refine wpAnyH_done (by kernel_rfl) ?_ _
              refine NoPanic.normal ?_
              go_wp2_with fail
              go_meet
              case rel=>exact ⟨true,rfl,rfl⟩
             ·have hmi:((m:Int) == 1)=false:=by simp;omega
              have hmj:¬ (m:Int)=1:=by omega
              by_cases hab:E=E1
              ·have HNE:Hid (∀ V,(binOp .neq 33 (.agg KM.toArray) (.agg K1.toArray)).run Tryz.prog V = .ok (.bool false) V):=fun V=>by rw[uh HNE1];simp[hab]
               clear hab
               refine wp_region_noPanic ?_
               refine wp_region_held_drew (S:=fun V=>wr.grownBy V none) (by kernel_rfl) h0 (fun _ => ?_)
               refine tq 0 119 (.move (.tmp 14)) (.int .i64 (m:Int)) h0 ?_
               refine tq 1 120 (.binOp .eql 3 (.tmp 119) (.const (.int .i64 1)) 3) (.bool false) h0 ?_
               refine tq 2 121 (.move (.tmp 120)) (.bool false) h0 ?_
               refine tq 3 122 (.move (.tmp 8)) (.slice (some ⟨ab,af,none⟩) an ac2) h0 ?_
               (try simp only[pq])
               refine tq 4 123 (.move (.tmp 14)) (.int .i64 (m:Int)) h0 ?_
               refine tq 5 124 (.indexAddr 29 (.tmp 122) (.tmp 123)) (.pointer (some ⟨ab,af+m*32,none⟩)) h0 ?_
               refine tz 6 125 (.load 33 (.tmp 124)) (.agg KM.toArray) h0 ?_ (y:=(yieldsIf_load_mid (by rfl) _ _ rfl _ _ rfl KM _ (fun V hV=>zaf hrM hV (by simp)) Tryz.underlying33 rfl (uh HIM)))
               refine tq 7 126 (.move (.tmp 8)) (.slice (some ⟨ab,af,none⟩) an ac2) h0 ?_
               (try simp only[pq])
               refine tq 8 127 (.indexAddr 29 (.tmp 126) (.const (.int .i64 1))) (.pointer (some ⟨ab,af+32,none⟩)) h0 ?_
               refine tz 9 128 (.load 33 (.tmp 127)) (.agg K1.toArray) h0 ?_ (y:=(yieldsIf_load_mid (by rfl) _ _ rfl _ _ rfl K1 _ (fun V hV=>zaf hr1 hV (by simp)) Tryz.underlying33 rfl (uh HI1)))
               refine tz 10 129 (.binOp .neq 33 (.tmp 125) (.tmp 128) 33) (.bool false) h0 ?_ (y:=(zeo (by rfl) _ _ _ _ rfl _ _ _ rfl rfl zej (uh HNE)))
               refine tq 11 130 (.move (.tmp 129)) (.bool false) h0 ?_
               (try simp only[pq])
               refine tz 12 131 (.move (.tmp 8)) undef h0 ?_ (y:=(Or.inr ⟨by rfl,rfl⟩))
               refine tz 13 132 (.move (.tmp 14)) undef h0 ?_ (y:=(Or.inr ⟨by rfl,rfl⟩))
               refine tz 14 133 (.indexAddr 29 (.tmp 131) (.tmp 132)) undef h0 ?_ (y:=(Or.inr ⟨by rfl,rfl⟩))
               refine tz 15 134 (.load 33 (.tmp 133)) undef h0 ?_ (y:=(Or.inr ⟨by rfl,rfl⟩))
               (try simp only[pq])
               refine tz 16 135 (.move (.tmp 8)) undef h0 ?_ (y:=(Or.inr ⟨by rfl,rfl⟩))
               refine tz 17 136 (.move (.tmp 14)) undef h0 ?_ (y:=(Or.inr ⟨by rfl,rfl⟩))
               refine tz 18 137 (.binOp .sub 3 (.tmp 136) (.const (.int .i64 1)) 3) undef h0 ?_ (y:=(Or.inr ⟨by rfl,rfl⟩))
               refine tz 19 138 (.indexAddr 29 (.tmp 135) (.tmp 137)) undef h0 ?_ (y:=(Or.inr ⟨by rfl,rfl⟩))
               (try simp only[pq])
               refine tz 20 139 (.load 33 (.tmp 138)) undef h0 ?_ (y:=(Or.inr ⟨by rfl,rfl⟩))
               refine tz 21 140 (.binOp .neq 33 (.tmp 134) (.tmp 139) 33) undef h0 ?_ (y:=(Or.inr ⟨by rfl,rfl⟩))
               refine tq 22 141 (.pick (.tmp 130) (.tmp 140) (.const (.bool false))) (.bool false) h0 ?_
               refine tq 23 142 (.pick (.tmp 121) (.const (.bool true)) (.tmp 141)) (.bool false) h0 ?_
               (try simp only[pq])
               refine wpAnyH_done (by kernel_rfl) ?_ _
               refine NoPanic.normal ?_
               go_wp2_with fail
               go_meet
               case rel=>exact ⟨false,rfl,rfl⟩
              ·have HNE:Hid (∀ V,(binOp .neq 33 (.agg KM.toArray) (.agg K1.toArray)).run Tryz.prog V = .ok (.bool true) V):=fun V=>by rw[uh HNE1];simp[hab]
               clear hab
               refine wp_region_noPanic ?_
               refine wp_region_held_drew (S:=fun V=>wr.grownBy V none) (by kernel_rfl) h0 (fun _ => ?_)
               refine tq 0 119 (.move (.tmp 14)) (.int .i64 (m:Int)) h0 ?_
               refine tq 1 120 (.binOp .eql 3 (.tmp 119) (.const (.int .i64 1)) 3) (.bool false) h0 ?_
               refine tq 2 121 (.move (.tmp 120)) (.bool false) h0 ?_
               refine tq 3 122 (.move (.tmp 8)) (.slice (some ⟨ab,af,none⟩) an ac2) h0 ?_
               (try simp only[pq])
               refine tq 4 123 (.move (.tmp 14)) (.int .i64 (m:Int)) h0 ?_
               refine tq 5 124 (.indexAddr 29 (.tmp 122) (.tmp 123)) (.pointer (some ⟨ab,af+m*32,none⟩)) h0 ?_
               refine tz 6 125 (.load 33 (.tmp 124)) (.agg KM.toArray) h0 ?_ (y:=(yieldsIf_load_mid (by rfl) _ _ rfl _ _ rfl KM _ (fun V hV=>zaf hrM hV (by simp)) Tryz.underlying33 rfl (uh HIM)))
               refine tq 7 126 (.move (.tmp 8)) (.slice (some ⟨ab,af,none⟩) an ac2) h0 ?_
               (try simp only[pq])
               refine tq 8 127 (.indexAddr 29 (.tmp 126) (.const (.int .i64 1))) (.pointer (some ⟨ab,af+32,none⟩)) h0 ?_
               refine tz 9 128 (.load 33 (.tmp 127)) (.agg K1.toArray) h0 ?_ (y:=(yieldsIf_load_mid (by rfl) _ _ rfl _ _ rfl K1 _ (fun V hV=>zaf hr1 hV (by simp)) Tryz.underlying33 rfl (uh HI1)))
               refine tz 10 129 (.binOp .neq 33 (.tmp 125) (.tmp 128) 33) (.bool true) h0 ?_ (y:=(zeo (by rfl) _ _ _ _ rfl _ _ _ rfl rfl zej (uh HNE)))
               refine tq 11 130 (.move (.tmp 129)) (.bool true) h0 ?_
               (try simp only[pq])
               refine tq 12 131 (.move (.tmp 8)) (.slice (some ⟨ab,af,none⟩) an ac2) h0 ?_
               refine tq 13 132 (.move (.tmp 14)) (.int .i64 (m:Int)) h0 ?_
               refine tq 14 133 (.indexAddr 29 (.tmp 131) (.tmp 132)) (.pointer (some ⟨ab,af+m*32,none⟩)) h0 ?_
               refine tz 15 134 (.load 33 (.tmp 133)) (.agg KM.toArray) h0 ?_ (y:=(yieldsIf_load_mid (by rfl) _ _ rfl _ _ rfl KM _ (fun V hV=>zaf hrM hV (by simp)) Tryz.underlying33 rfl (uh HIM)))
               (try simp only[pq])
               refine tq 16 135 (.move (.tmp 8)) (.slice (some ⟨ab,af,none⟩) an ac2) h0 ?_
               refine tq 17 136 (.move (.tmp 14)) (.int .i64 (m:Int)) h0 ?_
               refine tq 18 137 (.binOp .sub 3 (.tmp 136) (.const (.int .i64 1)) 3) (.int .i64 (m1:Int)) h0 ?_
               refine tq 19 138 (.indexAddr 29 (.tmp 135) (.tmp 137)) (.pointer (some ⟨ab,af+m1*32,none⟩)) h0 ?_
               (try simp only[pq])
               refine tz 20 139 (.load 33 (.tmp 138)) (.agg KP.toArray) h0 ?_ (y:=(yieldsIf_load_mid (by rfl) _ _ rfl _ _ rfl KP _ (fun V hV=>zaf hrP hV (by simp)) Tryz.underlying33 rfl (uh HIP9)))
               refine tz 21 140 (.binOp .neq 33 (.tmp 134) (.tmp 139) 33) (.bool bb) h0 ?_ (y:=(zeo (by rfl) _ _ _ _ rfl _ _ _ rfl rfl zej (uh HNP)))
               refine tq 22 141 (.pick (.tmp 130) (.tmp 140) (.const (.bool false))) (.bool bb) h0 ?_
               refine tq 23 142 (.pick (.tmp 121) (.const (.bool true)) (.tmp 141)) (.bool bb) h0 ?_
               (try simp only[pq])
               refine wpAnyH_done (by kernel_rfl) ?_ _
               refine NoPanic.normal ?_
               go_wp2_with fail
               go_meet
               case rel=>exact ⟨bb,rfl,rfl⟩
            case rest =>
             obtain ⟨bx,rfl,hwc⟩:=hcut
             rw[hwc]
             clear hwc hrM hr1 hrP
             cases bx with
             | false =>
              go_wp2
              go_roundw
              case rel=>exact ⟨m+1,po,pc,Q,by go_num,by omega,by omega,by omega,hQ,(uh HBX).kept (zak (zab wr none)) (by simp),zbg (uh HOX) (zak (zab wr none)) (fun _ e=>by cases e),zak hgx,hsx⟩
              case measure=>simp[intOf];omega
             | true =>
              have h0:W3.grownBy wr.drew.drew none:=zak (zak hgx)
              clear hBx hOx
              go_upto_region 29 with fail
              refine wp_region_noPanic ?_
              refine wp_region_held_drew (S:=fun V=>W3.grownBy V none) (by kernel_rfl) h0 (fun _ => ?_)
              obtain ⟨WD,hWD⟩:∃ V,V=wr.drew.drew:=⟨_,rfl⟩
              rw[← hWD]
              rw[← hWD] at h0 HBD HOD HS5
              clear hWD
              refine tq 0 143 (.fieldAddr 70 (.tmp 13) 1) (.pointer (some ⟨cb,32,none⟩)) h0 ?_
              refine tq 2 145 (.move (.tmp 8)) (.slice (some ⟨ab,af,none⟩) an ac2) h0 ?_
              refine tq 3 146 (.move (.tmp 14)) (.int .i64 (m:Int)) h0 ?_
              refine tq 4 147 (.indexAddr 29 (.tmp 145) (.tmp 146)) (.pointer (some ⟨ab,af+m*32,none⟩)) h0 ?_
              (try simp only[pq])
              refine tz 5 148 (.load 33 (.tmp 147)) (.agg KM.toArray) h0 ?_ (y:=(yieldsIf_load_mid (by rfl) _ _ rfl _ _ rfl KM _ (fun V hV=>zaf hr3 hV (by simp)) Tryz.underlying33 rfl (uh HIM)))
              (try simp only[pq])
              refine wpAnyH_ready (rs:=[1,6]) (by kernel_rfl) (by simp) ?_
              refine AllReadyH.cons (o:=⟨some 144,.load 29 (.tmp 143),_,_,_,_⟩) rfl (fun K9 hK9 => ?_) (AllReadyH.cons (o:=⟨some 149,.buildSlice 29 1 #[(0,(.tmp 148))],_,_,_,_⟩) rfl (fun K9 hK9 => ?_) AllReadyH.nil)
              ·have z9:=((uh HBD)).cell 32
               rw[(zev _ _ _ (uh HTR)).1] at z9
               go_simp
               clear z9
               refine hK9.out _ _ h0 (fun _ => ?_)
               clear hK9 K9
               (try simp only[pq])
               refine rd 6 (some 149) (.buildSlice 29 1 #[(0,(.tmp 148))]) (fun K9 hK9 => ?_)
               obtain ⟨w5,hw5,hE5,g5⟩:=zag WD 33 KM
               refine zar (by rfl) 29 _ rfl (.agg KM.toArray) _ rfl (uh HBS WD) ?_
               rw[← hw5]
               have h5:=tn h0 g5
               have HGW5:=hide g5.size
               have B5:=((uh HBD)).kept g5 (by simp)
               have O5:=zbg (uh HOD) g5 (fun _ e=>by cases e)
               refine hK9.out _ _ h5 (fun _ => ?_)
               clear hK9 K9 hw5
               (try simp only[pq])
               refine rd 7 (some 150) (.call { callee := .builtin .append,args := #[(.tmp 144),(.tmp 149)],argTypes := #[29,29] }) (fun K9 hK9 => ?_)
               refine zbp (by rfl) _ _ rfl W5.heap.size (.slice po Q.length pc) _ _ rfl O5 _ KM hE5 (uh HKL) (uh HK1) rfl (by omega) (Nat.le_trans (uh HS5) (uh HGW5)) ?_
               intro v6 w6 O6 g6
               have h6:=zae h5 g6 (fun x e=>Or.inl (Nat.le_trans (uh HS35) (O5.lt x e).1))
               have B6:=B5.kept g6 (zaj O5 B5 (by decide))
               obtain ⟨po6,pc6,hv6⟩:=zbd O6
               subst hv6
               have q6:=B6.cell 32
               rw[(zev _ _ _ (uh HTR)).1] at q6
               have f6:=B6.fz 32
               refine hK9.out _ _ h6 (fun _ => ?_)
               clear hK9 K9
               refine tq 8 151 (.fieldAddr 70 (.tmp 13) 1) (.pointer (some ⟨cb,32,none⟩)) h6 ?_
               (try simp only[pq])
               refine rd 9 none (.store 29 (.tmp 151) (.tmp 150)) (fun K9 hK9 => ?_)
               go_simp
               have h7:=zad h6 ⟨cb,32,none⟩ (.slice po6 (Q.length+1) pc6) (Or.inl (uh HCB))
               have gs:=zcp w6 cb 32 (.slice po6 (Q.length+1) pc6)
               have O7:=World.ownsRow.kept O6 gs (Or.inr fun e=>zaj O6 B6 (by decide) e.symm)
               have B7:=uh HPR w6 po6 pc6 B6
               refine hK9.out _ _ h7 (fun _ => ?_)
               clear hK9 K9 q6 f6
               (try simp only[pq])
               refine wpAnyH_done (by kernel_rfl) ?_ _
               refine NoPanic.normal ?_
               go_wp2
               go_roundw
               case rel =>
                refine ⟨m+1,po6,pc6,Q++[E],by go_num,by omega,by omega,by simp;omega,?_,?_,?_,h7,?_⟩
                ·intro x hx;rcases List.mem_append.1 hx with hx | hx;exact hQ x hx;rw[List.mem_singleton.1 hx];exact uh HID
                ·exact B7
                ·rw[uh HKM] at O7;simpa using O7
                ·exact Nat.le_trans (uh HS5) (Nat.le_trans (uh HGW5) (Nat.le_trans g6.size gs.size))
               case measure=>simp[intOf];omega
              ·obtain ⟨w5,hw5,hE5,g5⟩:=zag WD 33 KM
               refine zar (by rfl) 29 _ rfl (.agg KM.toArray) _ rfl (uh HBS WD) ?_
               rw[← hw5]
               have h5:=tn h0 g5
               have HGW5:=hide g5.size
               have B5:=((uh HBD)).kept g5 (by simp)
               have O5:=zbg (uh HOD) g5 (fun _ e=>by cases e)
               refine hK9.out _ _ h5 (fun _ => ?_)
               clear hK9 K9 hw5
               (try simp only[pq])
               refine rd 1 (some 144) (.load 29 (.tmp 143)) (fun K9 hK9 => ?_)
               have z9:=(B5).cell 32
               rw[(zev _ _ _ (uh HTR)).1] at z9
               go_simp
               clear z9
               refine hK9.out _ _ h5 (fun _ => ?_)
               clear hK9 K9
               (try simp only[pq])
               refine rd 7 (some 150) (.call { callee := .builtin .append,args := #[(.tmp 144),(.tmp 149)],argTypes := #[29,29] }) (fun K9 hK9 => ?_)
               refine zbp (by rfl) _ _ rfl W5.heap.size (.slice po Q.length pc) _ _ rfl O5 _ KM hE5 (uh HKL) (uh HK1) rfl (by omega) (Nat.le_trans (uh HS5) (uh HGW5)) ?_
               intro v6 w6 O6 g6
               have h6:=zae h5 g6 (fun x e=>Or.inl (Nat.le_trans (uh HS35) (O5.lt x e).1))
               have B6:=B5.kept g6 (zaj O5 B5 (by decide))
               obtain ⟨po6,pc6,hv6⟩:=zbd O6
               subst hv6
               have q6:=B6.cell 32
               rw[(zev _ _ _ (uh HTR)).1] at q6
               have f6:=B6.fz 32
               refine hK9.out _ _ h6 (fun _ => ?_)
               clear hK9 K9
               refine tq 8 151 (.fieldAddr 70 (.tmp 13) 1) (.pointer (some ⟨cb,32,none⟩)) h6 ?_
               (try simp only[pq])
               refine rd 9 none (.store 29 (.tmp 151) (.tmp 150)) (fun K9 hK9 => ?_)
               go_simp
               have h7:=zad h6 ⟨cb,32,none⟩ (.slice po6 (Q.length+1) pc6) (Or.inl (uh HCB))
               have gs:=zcp w6 cb 32 (.slice po6 (Q.length+1) pc6)
               have O7:=World.ownsRow.kept O6 gs (Or.inr fun e=>zaj O6 B6 (by decide) e.symm)
               have B7:=uh HPR w6 po6 pc6 B6
               refine hK9.out _ _ h7 (fun _ => ?_)
               clear hK9 K9 q6 f6
               (try simp only[pq])
               refine wpAnyH_done (by kernel_rfl) ?_ _
               refine NoPanic.normal ?_
               go_wp2
               go_roundw
               case rel =>
                refine ⟨m+1,po6,pc6,Q++[E],by go_num,by omega,by omega,by simp;omega,?_,?_,?_,h7,?_⟩
                ·intro x hx;rcases List.mem_append.1 hx with hx | hx;exact hQ x hx;rw[List.mem_singleton.1 hx];exact uh HID
                ·exact B7
                ·rw[uh HKM] at O7;simpa using O7
                ·exact Nat.le_trans (uh HS5) (Nat.le_trans (uh HGW5) (Nat.le_trans g6.size gs.size))
               case measure=>simp[intOf];omega
           ·have hI9:=Ids.own hOx hQ
            obtain ⟨po9,pc9,e9,hI9⟩:=hI9
            have e9b:po9=po∧pc9=pc:=by injection e9 with x y z;exact ⟨x.symm,z.symm⟩
            obtain ⟨rfl,rfl⟩:=e9b
            have ct:=(zik wr ⟨tr,Q,t5,[],X⟩ po9 pc9 hI9 (uh HTR) (Nat.zero_le _) (uh HXL) (by show Q.length≤1000;omega)).mono (fun e w' h=>h.obj 3 rfl (zth _))
            obtain ⟨C9,hC9⟩:∃ C,C=chC ⟨tr,Q,t5,[],X⟩ po9 pc9:=⟨_,rfl⟩
            rw[← hC9] at ct hBx
            have hr9:=zal hBx
            have hi9:(Tryz.prog.info? 70).map (·.size)=some C9.length:=by rw[hC9,zd0 _ _ _ (uh HTR)];exact zbv
            clear hC9 hBx hOx hI9 e9 hQ
            go_wp2_with (first | (refine wpList_load_mid rfl 70 _ rfl cb 0 rfl C9 _ hr9 Tryz.underlying70 rfl hi9 ?_;clear hr9) | (go_at_call 44;refine (ct).mono ?_;rintro e w7 ⟨kk,a7,c7,n7,y7,d7,rfl,hn7,hD7,hs7,g7⟩;have G7:=tn hgx g7;have hBq:=(uh HB3).kept G7 (by simp);have HD7:=hide hD7;have HN7:=hide hn7;have HSM7:=hide hs7;clear hD7 hn7 hs7 g7) | (refine wpList_store_row rfl 42 _ _ rfl q _ rfl rfl _ _ hBq zav rfl (zcq rfl) ?_))
            (try simp only[Act.put])
            have g9:w7.grownBy (w7.setRow q #[.int .i64 (kk:Int),.slice a7 n7 c7]) (some q):=zam (zab _ _) _ (Or.inr rfl)
            go_meet
            case rel=>exact ⟨kk,a7,c7,d7,(by rw[← uh HN7];exact hBq.row [.int .i64 (kk:Int),.slice a7 n7 c7]),(uh HD7).kept g9 (fun x e=>by cases e;exact zg3 hBq (by decide)),uh HSM7,zae (zaw (some q) G7) g9 (fun _ e=>Or.inr e)⟩
       ·have k2:(K == 2)=false:=by simpa using hk2
        by_cases hk3:K=3
        ·subst hk3
         as_aux_lemma =>
         clear hcN3
         obtain ⟨Z,hZ,hzm⟩:=zwc
         obtain ⟨TG,hTG⟩:∃ l:List UInt8,l=[116,97,103,115,47,97]:=⟨_,rfl⟩
         have hbm:Tryz.prog.built 126 [(1,.string { data := #[116,97,103,115,47,97] })]=some (mkC ⟨zz32,TG,[]⟩).toArray:=by rw[hTG];exact zqk _
         have hTl:TG.length≤100000:=by rw[hTG];decide
         obtain ⟨MC,hMC⟩:∃ C,C=mkC ⟨zz32,TG,[]⟩:=⟨_,rfl⟩
         have hMl:MC.length=34:=by rw[hMC];exact zh0 _ rfl
         have hMo:MC.toArray.all (·.oneCell')=true:=by rw[hMC];exact all_oneCell_toArray (zh1 _)
         have hiM:(Tryz.prog.info? 126).map (·.size)=some MC.length:=by rw[hMl];exact ze9
         have hiM2:(Tryz.prog.info? 126).map (·.size)=some MC.toArray.size:=by simpa using hiM
         have hZM:Z.toList.toArray.size=MC.toArray.size:=by simp[hZ,hMl]
         obtain ⟨W5,hW5,hB5,g5⟩:=zbl W3 126 Z MC
         have hZB:Blk (W3.alloc (.cells Z 126)) W3.heap.size 126 Z.toList:=by simpa using Blk.new W3 126 Z.toList
         rw[← hMC] at hbm
         obtain ⟨HBM,HIM,HIM2,HZM,HMO,HZB⟩:=zh6 hbm hiM hiM2 hZM hMo hZB
         have HW5:=hide hW5
         clear hZ hTG hbm hMl hMo hiM hiM2 hZM hW5 hZB
         by_cases h0:0<an
         ·have hmA:0<A.length:=by rw[← uh HAN];exact h0
          obtain ⟨ab,af,haa,hrow⟩:=(uh HA3).at 0 hmA
          have hrq:=hrow 0 hmA
          rw[Nat.zero_mul,Nat.add_zero] at hrq
          have hid:=hA32 _ (List.getElem_mem hmA)
          obtain ⟨E,hE⟩:∃ E,E=A[0]:=⟨_,rfl⟩
          rw[← hE] at hrq hid
          obtain ⟨KB,hKB⟩:∃ KB,KB=E.map bv:=⟨_,rfl⟩
          have hK32:KB.length=32:=by rw[hKB];simpa using hid
          have hKo:KB.toArray.all (·.oneCell')=true:=by rw[hKB];exact all_oneCell_toArray (za6 _)
          have hiK:(Tryz.prog.info? 33).map (·.size)=some KB.length:=by rw[hK32];exact zat
          have hiK2:(Tryz.prog.info? 33).map (·.size)=some KB.toArray.size:=by simpa using hiK
          rw[← hKB] at hrq
          have h0i:(0:Int)<(an:Int):=by omega
          obtain ⟨hB6,ht6⟩:=zqm (by rw[← hMC];exact hB5) zky E hid
          have hg6:W3.grownBy (W5.setCells W3.heap.size 0 (E.map bv)) none:=zbi (Or.inl (Nat.le_refl _)) _ _ g5
          have hrq5:=zaf hrq g5 (by simp)
          rw[← hKB] at hB6 hg6
          obtain ⟨W6,hW6⟩:∃ W,W=W5.setCells W3.heap.size 0 KB:=⟨_,rfl⟩
          rw[← hW6] at hB6 hg6
          have ct:=(zil W6 ⟨E,TG,[]⟩ hid hTl (Nat.zero_le _)).mono (fun e w' h=>h.obj 4 rfl (zlz _))
          obtain ⟨M6,hM6⟩:∃ C,C=mkC ⟨E,TG,[]⟩:=⟨_,rfl⟩
          rw[← hM6] at ct hB6
          have hr6:=zal hB6
          have hi6:(Tryz.prog.info? 126).map (·.size)=some M6.length:=by rw[hM6,zh0 _ hid];exact ze9
          have hth:W5.there W3.heap.size 0 KB.toArray.size:=by rw[show KB.toArray.size=32 by simpa using hK32];exact ht6
          obtain ⟨HTH,HW6,HKO,HIK2⟩:=zh4 hth hW6 hKo hiK2
          clear hMC hB5 hB6 ht6 hW6 hM6 hth hKB hE hrow hmA hid hK32 hKo hiK2 g5 hTl
          subst haa
          go_wp2_with (first | (refine za4 rfl 126 _ rfl MC.toArray (Eq.trans (b:=Tryz.prog.built 126 [(1,.string { data := #[116,97,103,115,47,97] })]) (by kernel_rfl) (uh HBM)) ?_) | (refine wpList_store_row rfl 126 _ _ rfl W3.heap.size _ rfl rfl _ _ (uh HZB) (uh HIM2) (uh HZM) (uh HMO) ?_;rw[← uh HW5]) | (refine wpList_load_mid rfl 33 _ rfl ab af rfl KB _ hrq5 Tryz.underlying33 rfl hiK ?_;clear hrq5) | (refine wpList_store_mid rfl 33 _ _ rfl W3.heap.size 0 KB.toArray rfl rfl (uh HTH) (uh HIK2) (uh HKO) ?_;rw[List.toList_toArray,← uh HW6]) | (refine wpList_load_mid rfl 126 _ rfl W3.heap.size 0 rfl M6 _ hr6 Tryz.underlying126 rfl hi6 ?_;clear hr6) | (go_at_call 67;refine (ct).mono ?_;rintro e w7 ⟨kk,a7,c7,n7,y7,d7,rfl,hn7,hD7,hs7,g7⟩;have G7:=tn hg6 g7;have hBq:=(uh HB3).kept G7 (by simp);have HD7:=hide hD7;have HN7:=hide hn7;have HSM7:=hide hs7;clear hD7 hn7 hs7 g7) | (refine wpList_store_row rfl 42 _ _ rfl q _ rfl rfl _ _ hBq zav rfl (zcq rfl) ?_))
          (try simp only[Act.put])
          have g9:w7.grownBy (w7.setRow q #[.int .i64 (kk:Int),.slice a7 n7 c7]) (some q):=zam (zab _ _) _ (Or.inr rfl)
          go_meet
          case rel=>exact ⟨kk,a7,c7,d7,(by rw[← uh HN7];exact hBq.row [.int .i64 (kk:Int),.slice a7 n7 c7]),(uh HD7).kept g9 (fun x e=>by cases e;exact zg3 hBq (by decide)),uh HSM7,zae (zaw (some q) G7) g9 (fun _ e=>Or.inr e)⟩
         ·have h0i:¬ (0:Int)<(an:Int):=by omega
          have ct:=(zil W5 ⟨zz32,TG,[]⟩ rfl hTl (Nat.zero_le _)).mono (fun e w' h=>h.obj 4 rfl (zlz _))
          rw[← hMC] at ct
          have hr6:=zal hB5
          clear hMC hB5 hTl
          go_wp2_with (first | (refine za4 rfl 126 _ rfl MC.toArray (Eq.trans (b:=Tryz.prog.built 126 [(1,.string { data := #[116,97,103,115,47,97] })]) (by kernel_rfl) (uh HBM)) ?_) | (refine wpList_store_row rfl 126 _ _ rfl W3.heap.size _ rfl rfl _ _ (uh HZB) (uh HIM2) (uh HZM) (uh HMO) ?_;rw[← uh HW5]) | (refine wpList_load_mid rfl 126 _ rfl W3.heap.size 0 rfl MC _ hr6 Tryz.underlying126 rfl (uh HIM) ?_;clear hr6) | (go_at_call 67;refine (ct).mono ?_;rintro e w7 ⟨kk,a7,c7,n7,y7,d7,rfl,hn7,hD7,hs7,g7⟩;have G7:=tn g5 g7;have hBq:=(uh HB3).kept G7 (by simp);have HD7:=hide hD7;have HN7:=hide hn7;have HSM7:=hide hs7;clear hD7 hn7 hs7 g7) | (refine wpList_store_row rfl 42 _ _ rfl q _ rfl rfl _ _ hBq zav rfl (zcq rfl) ?_))
          (try simp only[Act.put])
          have g9:w7.grownBy (w7.setRow q #[.int .i64 (kk:Int),.slice a7 n7 c7]) (some q):=zam (zab _ _) _ (Or.inr rfl)
          go_meet
          case rel=>exact ⟨kk,a7,c7,d7,(by rw[← uh HN7];exact hBq.row [.int .i64 (kk:Int),.slice a7 n7 c7]),(uh HD7).kept g9 (fun x e=>by cases e;exact zg3 hBq (by decide)),uh HSM7,zae (zaw (some q) G7) g9 (fun _ e=>Or.inr e)⟩
        ·have k3:(K == 3)=false:=by simpa using hk3
         go_wp2
         go_meet
         case rel=>exact ⟨1,_,2,[b0,b1],uh HB3,uh HD3,(by show 2≤16384;decide),zab _ _⟩
     case rest =>
      as_aux_lemma =>
      obtain ⟨kk,oa,oc,d,hB4,hD4,hd4,hg4⟩:=hcut
      obtain ⟨W4,hW4⟩:∃ W,W=wc:=⟨_,rfl⟩
      rw[← hW4]
      rw[← hW4] at hB4 hD4 hg4
      clear hW4 hcK hcN3 hcN hcK0 hb0 hb1 hbs2
      have g14:W1.grownBy W4 none:=zae (uh HG3) hg4 (fun x e=>by cases e;exact Or.inl (uh HQS))
      have hM4:=(uh HM).none g14
      have hT4:Tabs W4:=(uh HT).kept0 (tn (uh HG1) g14)
      have hr4:=zal hB4
      obtain ⟨n,hn⟩:∃ n,n=d.length:=⟨_,rfl⟩
      rw[← hn] at hr4 hB4
      have hbs:=zy2 (kk:Int) oa n oc W4
      obtain ⟨W5,hW5,hE5,g5⟩:=zag W4 42 [.int .i64 (kk:Int),.slice oa n oc]
      rw[show (#[Value.int .i64 (kk:Int),Value.slice oa n oc]:Array Value)=[Value.int .i64 (kk:Int),Value.slice oa n oc].toArray from rfl,← hW5] at hbs
      have hM5:=hM4.none g5
      have hne4:some q≠u4.ownBlock:=fun e=>by
       have h9:=((uh HM).objs.own.lt q e.symm).2
       have:=uh HQS
       omega
      have hstep:∀ v6 w6,w6.ownsRow w.heap.size 42 2 v6 (R.length+1) (R.flatMap obC++[.int .i64 (kk:Int),.slice oa n oc])→W5.grownBy w6 u4.ownBlock→Objs w6 w.heap.size v6 (R++[⟨kk,d,oa,oc⟩])∧w6.ownsRow w.heap.size 33 32 (.slice ia j ic) R.length ((R.map idR).flatMap (·.map bv))∧Blk w6 q 42 [.int .i64 (kk:Int),.slice oa n oc]∧Bts w6 oa oc d∧Tabs w6∧w.grownBy w6 none:=by
       intro v6 w6 ho6 g6
       have hD5:=hD4.none g5
       refine ⟨hM5.objs.put ⟨kk,d,oa,oc⟩ hD5.bts hD5.typ g6 (by rw[show obC ⟨kk,d,oa,oc⟩=[.int .i64 (kk:Int),.slice oa n oc] by rw[hn];rfl];exact ho6),hM5.ids.kept g6 (zoi hM5.ids hM5.objs.own (by decide)),(hB4.kept g5 (by simp)).kept g6 hne4,(hD5.kept g6 (fun x e=>zcw hM5.objs.own e (by decide))).bts,?_,?_⟩
       ·exact (hT4.kept0 g5).kept g6 (fun x e=>(uh HT).glb ((hM5.objs.own.lt x e).1))
       ·exact zae (tn (tn (uh HG1) g14) g5) g6 (fun x e=>Or.inl (hM5.objs.own.lt x e).1)
      have HSTEP:=hide hstep
      have HOW:=hide hM5.objs.own
      obtain ⟨HE5,HBS⟩:=zh2 hE5 hbs
      have HSZ:Hid (w.heap.size≤W5.heap.size):=(tn (tn (uh HG1) g14) g5).size
      have HSM:=hide (uh HM).small
      obtain ⟨HDL,HNN⟩:=zh2 hd4 hn
      have hrl:R.length≤100000:=by rw[uh HRL];omega
      have hjw:IntKind.i64.wrap ((j:Int)+1)=(j:Int)+1:=by rw[IntKind.wrap_i64];omega
      clear g14 hM4 hT4 hbs hW5 hE5 g5 hM5 hne4 hstep hB4 hD4 hd4 hg4 hn
      go_wp2_with (first
       | (refine wpList_load_mid rfl 42 _ rfl q 0 rfl [.int .i64 (kk:Int),.slice oa n oc] _ hr4 Tryz.underlying42 rfl zav ?_;clear hr4)
       | (refine zaq rfl 78 _ rfl (.agg #[.int .i64 (kk:Int),.slice oa n oc]) _ rfl (uh HBS) ?_)
       | (refine zgz rfl _ _ rfl w.heap.size u4 _ _ rfl (uh HOW) _ [.int .i64 (kk:Int),.slice oa n oc] (uh HE5) rfl (fun u hu=>by simp only[List.mem_cons,List.not_mem_nil,or_false] at hu;rcases hu with rfl | rfl <;> rfl) rfl hrl (uh HSZ) ?_;intro v6 w6 ho6 g6;obtain ⟨ob6,oi6,bq6,bt6,t6,gw6⟩:=uh HSTEP v6 w6 ho6 g6;clear ho6 g6;have hr6:=zal bq6;have ci:=zsa w6 (kk:Int) oa oc d bt6 (by have:=uh HDL;omega) t6;rw[← uh HNN] at ci;have HOB6:=hide ob6;have HOI6:=hide oi6;have HGW6:=hide gw6;clear ob6 oi6 bq6 bt6 t6 gw6)
       | (refine wpList_load_mid rfl 42 _ rfl q 0 rfl [.int .i64 (kk:Int),.slice oa n oc] _ hr6 Tryz.underlying42 rfl zav ?_;clear hr6)
       | (go_at_call 33;refine ci.mono ?_;rintro e w7 ⟨rfl,g7⟩;clear ci;obtain ⟨E,hE⟩:∃ E,E=shaL (putL (kk:Int) d):=⟨_,rfl⟩;rw[← hE];have hid:E.length=32:=(congrArg List.length hE).trans (zbc _);obtain ⟨KB,hKB⟩:∃ KB,KB=E.map bv:=⟨_,rfl⟩;rw[← hKB];have hK32:KB.length=32:=(congrArg List.length hKB).trans ((List.length_map _).trans hid);have hK1:∀ u∈KB,u.oneCell'=true:=(fun u hu=>za6 E u (hKB ▸ hu));have hbs7:=zfl E hid w7;obtain ⟨W8,hW8,hE8,g8⟩:=zag w7 33 KB;rw[← hKB,← hW8] at hbs7;have ho8:=zbg (uh HOI6) (tn g7 g8) (fun _ e=>by cases e);have HO8:=hide ho8;have HBS7:=hide hbs7;have HE8:=hide hE8;have HG8:=hide (tn g7 g8);have HKB:=hide hKB;have HE:=hide hE;clear hbs7 hW8 hE8 g8 g7 ho8 hKB hE hid)
       | (refine zaq rfl 29 _ rfl (.agg KB.toArray) _ rfl (uh HBS7) ?_)
       | (refine zb8 rfl _ _ rfl w.heap.size (.slice ia j ic) _ _ rfl (uh HO8) _ KB (uh HE8) hK32 hK1 rfl hrl (tn (uh HGW6) (uh HG8)).size ?_;intro v9 w9 ho9 g9;have HO9:=hide ho9;have HOB9:=hide (((uh HOB6).none (uh HG8)).other (uh HO8) g9);have HG9:=hide (zae (tn (uh HGW6) (uh HG8)) g9 (fun x e=>Or.inl ((uh HO8).lt x e).1));clear ho9 g9))
      go_roundw
      case rel =>
       refine ⟨j+1,R++[⟨kk,d,oa,oc⟩],by go_num,by omega,by omega,by simp[uh HRL],⟨uh HOB9,?_,fun r hr => ?_⟩,uh HG9⟩
       ·have:=uh HO9
        rw[uh HKB,uh HE] at this
        simpa[idR] using this
       ·rcases List.mem_append.1 hr with hr | hr
        ·exact uh HSM r hr
        ·rw[List.mem_singleton.1 hr];exact uh HDL
      case measure=>simp[intOf];omega
   ·have h2i:¬ (j:Int)<24:=by omega
    go_wp2
    go_ret2
    first | exact ⟨_,_,R,rfl,hM,by omega,by omega,hg⟩ | exact ⟨_,_,rfl,R,hM,by omega,by omega,hg⟩
  ·go_wp2
   go_ret2
   first | exact ⟨_,_,R,rfl,hM,by omega,by have:=uh HP;omega,hg⟩ | exact ⟨_,_,rfl,R,hM,by omega,by have:=uh HP;omega,hg⟩
end Go.Proofs.YthhnfloohbdaiaaGreatDoor
