/- Lemmas. -/
import Derived.Test.YtegbbkgmiklhcaaGreatDoorPkD
import Derived.Deep.DeepCutAuto
import Derived.OwnWalk
namespace Go.Proofs.YtegbbkgmiklhcaaGreatDoor
open Go.RowKit
set_option maxRecDepth 100000 in
set_option maxHeartbeats 8000000 in
theorem zej (w:World) (ao:Option Addr) (c:Nat) (b:List UInt8) (hb:Bts w ao c b) (hl:b.length≤200000) (hT:Tabs w) :
  Calls Tryz.prog 29 #[.slice ao b.length c] w fun e w'=>zoy w w' b e:=by
 have cn:=ze5 w ao c b hb (by omega)
 obtain ⟨RB,l1,e1,hraw⟩:∃ x y z,rawS b 0 4=(x,y,z):=⟨_,_,_,rfl⟩
 obtain ⟨N,l2,e2,hnum⟩:∃ x y z,numS l1 e1 2=(x,y,z):=⟨_,_,_,rfl⟩
 have HNUM:Hid (∀ V rb,Rd V rb l1 e1→Calls Tryz.prog 37 #[.pointer (some ⟨rb,0,none⟩),.int .i64 2] V fun e w'=>e = .returned (.int .u64 (N:Int))∧Rd w' rb l2 e2∧V.grownBy w' (some rb)):=fun V rb h=>by
  have:=zc1 V rb l1 e1 2 h
  rw[hnum] at this
  exact this
 have HRAW:Hid (∀ V rb,Rd V rb b 0→Calls Tryz.prog 53 #[.pointer (some ⟨rb,0,none⟩),.int .i64 4] V fun e w'=>∃ v,e = .returned v∧NewB V w' v RB∧Rd w' rb l1 e1∧V.grownBy w' (some rb)):=fun V rb h=>by
  have:=zlf V rb b 0 4 (by omega) h
  rw[hraw] at this
  exact this
 have hN:N<65536:=by have:=zp7 l1 e1;rw[hnum] at this;exact this
 obtain ⟨n,hn⟩:∃ n,n=b.length:=⟨_,rfl⟩
 rw[← hn] at cn ⊢
 have hn9:n≤200000:=by omega
 obtain ⟨rn,hrn⟩:∃ n,n=RB.length:=⟨_,rfl⟩
 obtain ⟨SB,hSB⟩:∃ S,S=str RB:=⟨_,rfl⟩
 obtain ⟨HN,HT,HRN,HSB⟩:=zh4 hn hT hrn hSB
 have HPU:=hide (And.intro hraw hnum)
 clear hn hb hT hl hrn hSB hraw hnum
 go_enter Tryz.func29,Tryz.ntmps29
 go_wp2
 go_step3
 go_upto_region 2 with (go_at_call 36;refine cn.mono ?_;rintro e w1 ⟨rb,rfl,hrb,hr1,g1⟩;clear cn)
 rename_i K hK
 have FIN:Hid (∀ (V:World) (a2:Option Addr) (c2:Nat),Rd V rb l2 e2→w.grownBy V none→K { tmps := #[.slice ao n c,undef,.slice none 0 0,.map none,.int .i64 0,.pointer (some ⟨rb,0,none⟩),.string SB,.int .i64 (N:Int),undef,undef,undef,undef,undef,.slice ao n c,.pointer (some ⟨rb,0,none⟩),.pointer (some ⟨rb,0,none⟩),.slice a2 rn c2,.string SB,.pointer (some ⟨rb,0,none⟩),.int .u64 (N:Int),.int .i64 (N:Int),undef,undef,undef,undef,undef,undef,undef,undef,undef,undef,undef,undef,undef,undef,undef,undef,undef,undef,undef,undef,undef,undef,undef,undef,undef,undef,undef,undef,undef,undef,undef,undef,undef,undef,undef,undef,undef,undef,undef,undef,undef,undef,undef,undef,undef,undef,undef,undef,undef,undef,undef,undef,undef,undef,undef,undef,undef,undef,undef,undef,undef,undef,undef,undef,undef,undef,undef,undef,undef,undef,undef,undef,undef],defers:=[] } V):=by
  as_aux_lemma =>
   intro V a2 c2 hR hG
   refine hK _ _ ?_
   clear hK K
   obtain ⟨hraw,hnum⟩:=uh HPU
   have hSL:SB.toList=RB:=by rw[uh HSB,zct]
   by_cases hm:RB=[67,80,75,49]
   ·have hmk:=zp6 (b:=b) (by rw[hraw];exact hm)
    have hl1:l1=b.drop 4∧e1=0:=by
     have:=hmk.2
     rw[hraw] at this
     injection this with _ q
     injection q with q1 q2
     exact ⟨q1,q2⟩
    obtain ⟨rfl,rfl⟩:=hl1
    have HMK:=hide hmk.1
    have HNUM2:=hide hnum
    rw[hm] at hSL
    by_cases hN2:N≤256
    ·have hNz:¬ (256:Int)<(N:Int):=by omega
     have hM0:MapAt (V.alloc (.map #[] 0)) V.heap.size []:=MapAt.new V
     have gM:V.grownBy (V.alloc (.map #[] 0)) none:=zai (zab _ _) _
     have hmk:∀ W:World,(Instr.makeMap 70 none).run Tryz.prog W = .ok (.map (some W.heap.size)) (W.alloc (.map #[] 0)):=fun W=>run_makeMap _ W
     obtain ⟨W0,hW0⟩:∃ W,W=V.alloc (.map #[] 0):=⟨_,rfl⟩
     rw[← hW0] at hM0 gM
     obtain ⟨mB,hmB⟩:∃ z,z=V.heap.size:=⟨_,rfl⟩
     rw[← hmB] at hM0
     have HST:Hid (OpM w W0 rb mB (.slice none 0 0) 0 [] l2 e2):=⟨hR.kept gM (Or.inl rfl),World.ownsRow_nil _ _ _ _,⟨[],hM0,KPl.nil⟩,tn hG gM,hrb,by rw[hmB];exact hG.size⟩
     obtain ⟨HW0,HMB⟩:=zh2 hW0 hmB
     clear hR hG hM0 gM hraw hnum hm HPU HSB HRN hW0 hmB
     by_cases he:e2=0
     ·subst he
      have HOP:=hide (Opn.start (uh HMK) (uh HNUM2))
      go_wp2_with (rw[← uh HW0,← uh HMB])
      go_step3
      go_wp2_with fail
      have HST2:=HST
      clear HST HW0 HMB
      go_loopw [8,10,11,12,29] (fun v8 _x10 _x11 _x12 vi wr=>∃ (i:Nat) (s:List Ob) (li:List UInt8),vi = .int .i64 i∧i≤N∧Hid (Opn b N i s li∧OpM w wr rb mB v8 i s li 0)) (fun _ _ _ _ vi _=>N - (intOf vi).toNat)
      case atStart=>exact ⟨0,[],l2,rfl,Nat.zero_le _,uh HOP,uh HST2⟩
      case round =>
       clear HST2 HOP
       obtain ⟨i,s,li,rfl,hiN,HS⟩:=hrel
       by_cases hi:i<N
       ·have hiz:(i:Int)<(N:Int):=by omega
        have hiw:IntKind.i64.wrap ((i:Int)+1)=(i:Int)+1:=by rw[IntKind.wrap_i64];omega
        obtain ⟨hop,hom⟩:=uh HS
        obtain ⟨ra,rc,hA,hB2,hI2⟩:=hom.rd
        have cl:=zgl wr rb ra li.length rc hA.c0
        have hat:=hop.at
        rw[← uh HN] at hat
        obtain ⟨ln,hln⟩:∃ z,z=li.length:=⟨_,rfl⟩
        rw[← hln] at cl hat
        obtain ⟨at9,hat9⟩:∃ z,z=6+(s.flatMap obB).length:=⟨_,rfl⟩
        rw[← hat9] at hat
        have hw9:IntKind.i64.wrap ((n:Int) - (ln:Int))=(at9:Int):=by rw[IntKind.wrap_i64];omega
        obtain ⟨K9,lk,ek,hnk⟩:∃ x y z,numS li 0 1=(x,y,z):=⟨_,_,_,rfl⟩
        obtain ⟨D9,l9,e9,hsz⟩:∃ x y z,zak lk ek=(x,y,z):=⟨_,_,_,rfl⟩
        have hK9:K9<256:=by have:=zp8 li 0;rw[hnk] at this;exact this
        have hlk:lk.length≤200000:=by have:=zk2 li 0 1;rw[hnk] at this;simp only at this;omega
        have hD9:D9.length≤200000:=by have:=(zhy lk ek).2;rw[hsz] at this;simp only at this;omega
        have hrdO:rdO li 0=(((K9:Int),D9),l9,e9):=by unfold rdO;simp only[hnk,hsz]
        have cn1:=zc1 wr rb li 0 1 hom.rd
        rw[hnk] at cn1
        have cs1:∀ V,Rd V rb lk ek→Calls Tryz.prog 38 #[.pointer (some ⟨rb,0,none⟩)] V fun e w'=>∃ v,e = .returned v∧NewB V w' v D9∧Rd w' rb l9 e9∧V.grownBy w' (some rb):=fun V h=>by
         have:=zb0 V rb lk ek (by omega) h
         rw[hsz] at this
         exact this
        have hwK:IntKind.i64.wrap (K9:Int)=(K9:Int):=by rw[IntKind.wrap_i64];omega
        obtain ⟨dl,hdl⟩:∃ z,z=D9.length:=⟨_,rfl⟩
        obtain ⟨HCS1,HDL,HRDO⟩:=zh3 cs1 hdl hrdO
        have HAT:=hide (And.intro hat9 (And.intro hat hln))
        obtain ⟨HD9,HOM,HOP2⟩:=zh3 hD9 hom hop
        clear hop hom hA hB2 hI2 cs1 hdl hrdO hnk hsz hlk hD9 hat hat9 hln HS
        go_wp2_with (first
         | (go_at_call 54;refine cl.mono ?_;rintro e wL ⟨rfl,hwL⟩;subst wL;clear cl)
         | (go_at_call 37;refine cn1.mono ?_;rintro e w2 ⟨rfl,hr2,g2⟩;clear cn1;have cs2:=uh HCS1 w2 hr2;have HM2:=hide ((uh HOM).read hr2 g2);clear hr2 g2))
        refine cs2.mono ?_
        rintro e w3 ⟨v3,rfl,⟨a3,c3,rfl,hb3,ht3⟩,hr3,g3⟩
        rw[← uh HDL]
        clear cs2
        have hM3:=(uh HM2).read hr3 g3
        obtain ⟨OC,hOC⟩:∃ OC:List Value,OC=[.int .i64 (K9:Int),.slice a3 dl c3]:=⟨_,rfl⟩
        obtain ⟨W4,hW4,hBZ,hB4,g4⟩:=zfv w3 OC
        have hIO2:(Tryz.prog.info? 42).map (·.size)=some OC.toArray.size:=by rw[hOC];exact zbz
        have hIO:(Tryz.prog.info? 42).map (·.size)=some OC.length:=by rw[hOC];exact zbz
        have hOO:OC.toArray.all (·.oneCell')=true:=by rw[hOC];simp[Value.oneCell']
        have hZS:([Value.int .i64 0,.slice none 0 0]:List Value).toArray.size=OC.toArray.size:=by rw[hOC];rfl
        have hbo:Tryz.prog.built 42 [(0,.int .i64 (K9:Int)),(1,.slice a3 dl c3)]=some OC.toArray:=by rw[hOC];exact zk3 _ _ _ _
        have hb4:=hb3.kept g4 (fun _ e=>by cases e)
        have hM4:=hM3.stay g4
        have cp:=zg5 W4 (K9:Int) a3 c3 D9 hb4 (by have:=uh HD9;omega) ((uh HT).kept0 hM4.gr)
        rw[← uh HDL,show Value.agg #[.int .i64 (K9:Int),.slice a3 dl c3] = .agg OC.toArray by rw[hOC]] at cp
        obtain ⟨IB,hIB⟩:∃ I,I=obId ((K9:Int),D9):=⟨_,rfl⟩
        rw[show shaL (putL (K9:Int) D9)=IB by rw[hIB];rfl] at cp
        have hIBl:IB.length=32:=by rw[hIB];exact zbe _
        obtain ⟨KB,hKB⟩:∃ k,k=IB.map bv:=⟨_,rfl⟩
        rw[← hKB] at cp
        have hKl:KB.length=32:=by rw[hKB,List.length_map,hIBl]
        have hK1:∀ u∈KB,u.oneCell'=true:=by rw[hKB];exact zaw _
        have hKo:KB.toArray.all (·.oneCell')=true:=all_oneCell_toArray hK1
        have hiK:(Tryz.prog.info? 47).map (·.size)=some KB.length:=by rw[hKl];exact zax
        have hiK2:(Tryz.prog.info? 47).map (·.size)=some KB.toArray.size:=by simpa using hiK
        obtain ⟨Z,hZ,hzv⟩:=zc8
        have hZK:Z.toList.toArray.size=KB.toArray.size:=by simp[hZ,hKl]
        have hrO:=zal hB4
        obtain ⟨HBT4,HM4,HB4,HW4,HBZ,HIO⟩:=zh6 hb4 hM4 hB4 hW4 hBZ hIO
        obtain ⟨HIO2,HOO,HZS,HBO,HRO,HOC⟩:=zh6 hIO2 hOO hZS hbo hrO hOC
        obtain ⟨HIB,HIBL,HKB,HKL,HK1,HKO⟩:=zh6 hIB hIBl hKB hKl hK1 hKo
        obtain ⟨HIK,HIK2,HZK⟩:=zh3 hiK hiK2 hZK
        clear hb3 ht3 hr3 g3 hM3 hW4 hBZ hB4 g4 hIO2 hIO hOO hZS hbo hb4 hM4 hOC hIB hIBl hKB hKl hK1 hKo hiK hiK2 hZK hZ hrO
        go_upto_region 12 with (first
         | (refine za3 rfl 42 _ rfl OC.toArray ?hbs ?_)
         | (refine wpList_store_row rfl 42 _ _ rfl w3.heap.size OC.toArray rfl rfl _ _ (uh HBZ) (uh HIO2) (uh HZS) (uh HOO) ?_;rw[← uh HW4])
         | (refine wpList_load_mid rfl 42 _ rfl w3.heap.size 0 rfl OC _ (uh HRO) Tryz.underlying42 rfl (uh HIO) ?_;clear HRO)
         | (go_at_call 17;refine cp.mono ?_;rintro e w5 ⟨rfl,g5⟩;clear cp;have HM5:=hide ((uh HM4).stay g5);have HBT5:=hide ((uh HBT4).kept g5 (fun _ e=>by cases e));have HB5:=hide ((uh HB4).kept g5 (by simp));clear g5;obtain ⟨W6,hW6,hB6,g6⟩:=zbg w5 47 Z KB;have HW6:=hide hW6;have HBN:=hide (show Blk (w5.alloc (.cells Z 47)) w5.heap.size 47 Z.toList by simpa using Blk.new w5 47 Z.toList);have HB6:=hide hB6;have HG6:=hide g6;clear hW6 hB6 g6)
         | (refine wpList_store_row rfl 47 _ _ rfl w5.heap.size KB.toArray rfl rfl _ _ (uh HBN) (uh HIK2) (uh HZK) (uh HKO) ?_;rw[← uh HW6]))
        case hbs=>simpa using uh HBO
        have hM6:=(uh HM5).stay (uh HG6)
        obtain ⟨ra,rc,hA,_,_⟩:=hM6.rd
        have cw:=zdu W6 rb e9 hA.c1
        obtain ⟨ia,ic,hv8⟩:=zb3 hM6.own
        have hsi:=(uh HOP2).eq.2
        have hM6:=hide hM6
        clear hA
        subst hv8
        by_cases he9:e9=0
        ·subst he9
         have hbt6:=(uh HBT5).kept (uh HG6) (fun _ e=>by cases e)
         have ck:=zfq W6 (K9:Int) a3 c3 D9 hbt6
         rw[← uh HDL,show Value.agg #[.int .i64 (K9:Int),.slice a3 dl c3] = .agg OC.toArray by rw[uh HOC]] at ck
         obtain ⟨y,hy⟩:∃ y,y=zar (K9:Int) D9:=⟨_,rfl⟩
         rw[← hy] at ck
         have hrO:=zal ((uh HB5).kept (uh HG6) (by simp))
         have HRO:=hide hrO
         by_cases hy0:y=0
         ·have hok:OkO ((K9:Int),D9):=by show zar (K9:Int) D9=0;rw[← hy];exact hy0
          have HOK:=hide hok
          subst hy0
          clear hy hbt6 hrO hok
          go_upto_region 14 with (first
           | (go_at_call 55;refine cw.mono ?_;rintro e wL ⟨rfl,hwL⟩;subst wL;clear cw)
           | (refine wpList_load_mid rfl 42 _ rfl w3.heap.size 0 rfl OC _ (uh HRO) Tryz.underlying42 rfl (uh HIO) ?_;clear HRO)
           | (go_at_call 40;refine ck.mono ?_;rintro e w7 ⟨rfl,g7⟩;clear ck;have HM7:=hide ((uh hM6).stay g7);have HB7:=hide ((uh HB6).kept g7 (by simp));clear g7))
          have hKR:=zal (uh HB7)
          have HKR:=hide hKR
          have HLESS:Hid (∀ x:List UInt8,x.length=32→∀ V,Calls Tryz.prog 43 #[.agg (x.map bv).toArray,.agg KB.toArray] V fun e w'=>e = .returned (.bool (za5 x IB))∧V.grownBy w' none):=fun x hx V=>by
           have:=zml V x IB hx (uh HIBL)
           rw[uh HKB]
           exact this
          have h0:w7.grownBy w7.drew none:=zas (zab _ _)
          have HSI:=hide hsi
          clear hKR hsi
          go_cut [51] (fun x51 wx=>∃ bl:Bool,x51 = .bool bl∧Hid ((bl=true→∃ x,s.getLast? = some x∧za5 (obId x) IB=false)∧(bl=false→∀ x,s.getLast? = some x→za5 (obId x) IB=true))∧w7.grownBy wx none)
          case first =>
           by_cases hi0:i=0
           ·have hz0:¬ (0:Int)<(i:Int):=by omega
            have hz1:¬ 0<i:=by omega
            have hs0:s=[]:=List.eq_nil_of_length_eq_zero (by rw[uh HSI];exact hi0)
            have HS0:=hide hs0
            clear hs0 hi0
            refine wp_region_noPanic ?_
            refine wp_region_held_drew (S:=fun V=>w7.grownBy V none) (by kernel_rfl) h0 (fun _ => ?_)
            refine tq 0 52 (.move (.tmp 8)) ((.slice ia i ic)) h0 ?_
            refine tq 1 53 (.call { callee := .builtin .len,args := #[(.tmp 52)],argTypes := #[59] }) ((.int .i64 (i:Int))) h0 ?_
            refine tq 2 54 (.binOp .gtr 3 (.tmp 53) (.const (.int .i64 0)) 3) ((.bool false)) h0 ?_
            refine tq 3 55 (.move (.tmp 54)) ((.bool false)) h0 ?_
            (try simp only[pq])
            refine tz 4 56 (.move (.tmp 8)) undef h0 ?_ (y:=(Or.inr ⟨by rfl,rfl⟩))
            refine tz 5 57 (.move (.tmp 8)) undef h0 ?_ (y:=(Or.inr ⟨by rfl,rfl⟩))
            refine tz 6 58 (.call { callee := .builtin .len,args := #[(.tmp 57)],argTypes := #[59] }) undef h0 ?_ (y:=(Or.inr ⟨by rfl,rfl⟩))
            refine tz 7 59 (.binOp .sub 3 (.tmp 58) (.const (.int .i64 1)) 3) undef h0 ?_ (y:=(Or.inr ⟨by rfl,rfl⟩))
            (try simp only[pq])
            refine tz 8 60 (.indexAddr 59 (.tmp 56) (.tmp 59)) undef h0 ?_ (y:=(Or.inr ⟨by rfl,rfl⟩))
            refine tz 9 61 (.load 47 (.tmp 60)) undef h0 ?_ (y:=(Or.inr ⟨by rfl,rfl⟩))
            refine tz 10 62 (.load 47 (.tmp 12)) undef h0 ?_ (y:=(Or.inr ⟨by rfl,rfl⟩))
            refine tz 11 63 (.call { callee := .value (.func 43),args := #[(.tmp 61),(.tmp 62)],argTypes := #[47,47] }) undef h0 ?_ (y:=(Or.inr ⟨by rfl,rfl⟩))
            (try simp only[pq])
            refine tz 12 64 (.unOp .not 4 (.tmp 63)) undef h0 ?_ (y:=(Or.inr ⟨by rfl,rfl⟩))
            refine tq 13 65 (.pick (.tmp 55) (.tmp 64) (.const (.bool false))) ((.bool false)) h0 ?_
            refine tq 14 51 (.assign (.tmp 65)) ((.bool false)) h0 ?_
            (try simp only[pq])
            refine wpAnyH_done (by kernel_rfl) ?_ _
            refine NoPanic.normal ?_
            go_wp2_with fail
            go_meet
            case rel=>exact ⟨false,rfl,⟨fun h=>(by cases h),fun _ x hx=>by rw[uh HS0] at hx;cases hx⟩,h0⟩
           ·have hz0:(0:Int)<(i:Int):=by omega
            have hz1:0<i:=by omega
            obtain ⟨j,hj⟩:∃ j,j=i - 1:=⟨_,rfl⟩
            have hjw:IntKind.i64.wrap ((i:Int) - 1)=(j:Int):=by rw[IntKind.wrap_i64];omega
            have hji:(j:Int)<(i:Int):=by omega
            have hown:=(uh HM7).own
            rw[← uh HSI] at hown
            have hjs:j<s.length:=by rw[uh HSI];omega
            obtain ⟨x,hx⟩:∃ x,x=s[j]:=⟨_,rfl⟩
            have hgl:s.getLast? = some x:=by rw[List.getLast?_eq_getElem?,uh HSI,← hj,List.getElem?_eq_getElem hjs,hx]
            have hrow:∃ ib io,ia=some ⟨ib,io,none⟩∧w7.rangeAt ib (io+j*32) ((obId x).map bv):=by
             have hmm:((s.map obId).flatMap (·.map bv))=s.flatMap (fun o=>(obId o).map bv):=by rw[List.flatMap_map]
             rw[hmm] at hown
             obtain ⟨ao2,c2',e2,hR,-⟩:=Rws.own (fun o=>(obId o).map bv) hown (fun o _=>by rw[List.length_map,zbe])
             injection e2 with e21 _ e23
             obtain ⟨b2,o2,e3,hr2⟩:=hR.at j hjs
             rw[← hx] at hr2
             exact ⟨b2,o2,by rw[e21];exact e3,hr2⟩
            obtain ⟨ib,io,rfl,hrw⟩:=hrow
            obtain ⟨XB,hXB⟩:∃ X,X=(obId x).map bv:=⟨_,rfl⟩
            rw[← hXB] at hrw
            have hls:=uh HLESS (obId x) (zbe _)
            rw[← hXB] at hls
            have hiX:(Tryz.prog.info? 47).map (·.size)=some XB.length:=by rw[hXB,List.length_map,zbe];exact zax
            obtain ⟨HXR,HIX,HGL⟩:=zh3 hrw hiX hgl
            clear hrw hXB hiX hgl hx hjs hown hj
            cases hcmp:za5 (obId x) IB with
            | true =>
             rw[hcmp] at hls
             clear HLESS
             have HLESS:=hide hls
             clear hls
             refine wp_region_noPanic ?_
             refine wp_region_held_drew (S:=fun V=>w7.grownBy V none) (by kernel_rfl) h0 (fun _ => ?_)
             refine tq 0 52 (.move (.tmp 8)) ((.slice (some ⟨ib,io,none⟩) i ic)) h0 ?_
             refine tq 1 53 (.call { callee := .builtin .len,args := #[(.tmp 52)],argTypes := #[59] }) ((.int .i64 (i:Int))) h0 ?_
             refine tq 2 54 (.binOp .gtr 3 (.tmp 53) (.const (.int .i64 0)) 3) ((.bool true)) h0 ?_
             refine tq 3 55 (.move (.tmp 54)) ((.bool true)) h0 ?_
             (try simp only[pq])
             refine tq 4 56 (.move (.tmp 8)) ((.slice (some ⟨ib,io,none⟩) i ic)) h0 ?_
             refine tq 5 57 (.move (.tmp 8)) ((.slice (some ⟨ib,io,none⟩) i ic)) h0 ?_
             refine tq 6 58 (.call { callee := .builtin .len,args := #[(.tmp 57)],argTypes := #[59] }) ((.int .i64 (i:Int))) h0 ?_
             refine tq 7 59 (.binOp .sub 3 (.tmp 58) (.const (.int .i64 1)) 3) ((.int .i64 (j:Int))) h0 ?_
             (try simp only[pq])
             refine tq 8 60 (.indexAddr 59 (.tmp 56) (.tmp 59)) ((.pointer (some ⟨ib,io+j*32,none⟩))) h0 ?_
             refine tz 9 61 (.load 47 (.tmp 60)) (.agg XB.toArray) h0 ?_ (y:=(yieldsIf_load_mid (by rfl) _ _ rfl _ _ rfl XB _ (fun V hV=>zad (uh HXR) hV (by simp)) Tryz.underlying47 rfl (uh HIX)))
             refine tz 10 62 (.load 47 (.tmp 12)) (.agg KB.toArray) h0 ?_ (y:=(yieldsIf_load_mid (by rfl) _ _ rfl _ _ rfl KB _ (fun V hV=>zad (uh HKR) hV (by simp)) Tryz.underlying47 rfl (uh HIK)))
             (try simp only[pq])
             refine rdq 11 (some 63) (.call { callee := .value (.func 43),args := #[(.tmp 61),(.tmp 62)],argTypes := #[47,47] }) (fun K9 hK9 => ?_)
             go_simp
             go_at_call 43
             refine (uh HLESS _).mono ?_
             rintro e w9 ⟨rfl,g9⟩
             have h9:=tn h0 g9
             go_wp2_with fail
             refine hK9.out _ _ h9 (fun _ => ?_)
             clear hK9 K9
             refine tq 12 64 (.unOp .not 4 (.tmp 63)) ((.bool false)) h9 ?_
             refine tq 13 65 (.pick (.tmp 55) (.tmp 64) (.const (.bool false))) ((.bool false)) h9 ?_
             refine tq 14 51 (.assign (.tmp 65)) ((.bool false)) h9 ?_
             (try simp only[pq])
             refine wpAnyH_done (by kernel_rfl) ?_ _
             refine NoPanic.normal ?_
             go_wp2_with fail
             go_meet
             case rel=>exact ⟨false,rfl,⟨fun h=>(by cases h),fun _ z hz=>by rw[uh HGL] at hz;injection hz with hz;rw[← hz];exact hcmp⟩,h9⟩
            | false =>
             rw[hcmp] at hls
             clear HLESS
             have HLESS:=hide hls
             clear hls
             refine wp_region_noPanic ?_
             refine wp_region_held_drew (S:=fun V=>w7.grownBy V none) (by kernel_rfl) h0 (fun _ => ?_)
             refine tq 0 52 (.move (.tmp 8)) ((.slice (some ⟨ib,io,none⟩) i ic)) h0 ?_
             refine tq 1 53 (.call { callee := .builtin .len,args := #[(.tmp 52)],argTypes := #[59] }) ((.int .i64 (i:Int))) h0 ?_
             refine tq 2 54 (.binOp .gtr 3 (.tmp 53) (.const (.int .i64 0)) 3) ((.bool true)) h0 ?_
             refine tq 3 55 (.move (.tmp 54)) ((.bool true)) h0 ?_
             (try simp only[pq])
             refine tq 4 56 (.move (.tmp 8)) ((.slice (some ⟨ib,io,none⟩) i ic)) h0 ?_
             refine tq 5 57 (.move (.tmp 8)) ((.slice (some ⟨ib,io,none⟩) i ic)) h0 ?_
             refine tq 6 58 (.call { callee := .builtin .len,args := #[(.tmp 57)],argTypes := #[59] }) ((.int .i64 (i:Int))) h0 ?_
             refine tq 7 59 (.binOp .sub 3 (.tmp 58) (.const (.int .i64 1)) 3) ((.int .i64 (j:Int))) h0 ?_
             (try simp only[pq])
             refine tq 8 60 (.indexAddr 59 (.tmp 56) (.tmp 59)) ((.pointer (some ⟨ib,io+j*32,none⟩))) h0 ?_
             refine tz 9 61 (.load 47 (.tmp 60)) (.agg XB.toArray) h0 ?_ (y:=(yieldsIf_load_mid (by rfl) _ _ rfl _ _ rfl XB _ (fun V hV=>zad (uh HXR) hV (by simp)) Tryz.underlying47 rfl (uh HIX)))
             refine tz 10 62 (.load 47 (.tmp 12)) (.agg KB.toArray) h0 ?_ (y:=(yieldsIf_load_mid (by rfl) _ _ rfl _ _ rfl KB _ (fun V hV=>zad (uh HKR) hV (by simp)) Tryz.underlying47 rfl (uh HIK)))
             (try simp only[pq])
             refine rdq 11 (some 63) (.call { callee := .value (.func 43),args := #[(.tmp 61),(.tmp 62)],argTypes := #[47,47] }) (fun K9 hK9 => ?_)
             go_simp
             go_at_call 43
             refine (uh HLESS _).mono ?_
             rintro e w9 ⟨rfl,g9⟩
             have h9:=tn h0 g9
             go_wp2_with fail
             refine hK9.out _ _ h9 (fun _ => ?_)
             clear hK9 K9
             refine tq 12 64 (.unOp .not 4 (.tmp 63)) ((.bool true)) h9 ?_
             refine tq 13 65 (.pick (.tmp 55) (.tmp 64) (.const (.bool false))) ((.bool true)) h9 ?_
             refine tq 14 51 (.assign (.tmp 65)) ((.bool true)) h9 ?_
             (try simp only[pq])
             refine wpAnyH_done (by kernel_rfl) ?_ _
             refine NoPanic.normal ?_
             go_wp2_with fail
             go_meet
             case rel=>exact ⟨true,rfl,⟨fun _=>⟨x,uh HGL,hcmp⟩,fun h=>by cases h⟩,h9⟩
          case rest =>
           obtain ⟨bl,rfl,HBL,g10⟩:=hcut
           cases bl with
           | true =>
            have HFALL:Hid (∀ t,¬ PackOf b t):=by
             obtain ⟨x,hx1,hx2⟩:=(uh HBL).1 rfl
             exact (uh HOP2).falls hi (uh HRDO) (Or.inr (Or.inr ⟨x,hx1,by rw[← uh HIB];exact hx2⟩))
            have HG10:=hide (tn (uh HM7).gr g10)
            clear g10
            go_wp2_with fail
            go_ret3
            exact Or.inr ⟨rfl,uh HFALL,uh HG10⟩
           | false =>
            have hl9:=(uh HBL).2 rfl
            rw[uh HIB] at hl9
            obtain ⟨hopn,hlen⟩:=(uh HOP2).next (uh HRDO) (uh HOK) hl9
            have hfr:=Opn.fresh (uh HOP2).ris hl9
            have hM10:=(uh HM7).stay g10
            have hB10:=(uh HB7).kept g10 (by simp)
            have hK10:=zal hB10
            obtain ⟨W11,hW11,hB11,g11⟩:=zah wc 47 KB
            have hbs:(Instr.buildSlice 59 1 #[(0,.agg KB.toArray)]).run Tryz.prog wc = .ok (.slice (some ⟨wc.heap.size,0,none⟩) 1 1) W11:=by rw[hW11,uh HKB];exact zif _ (uh HIBL) wc
            have hM11:=hM10.stay g11
            have hB11b:=hB10.kept g11 (by simp)
            have hn9:i≤100000:=by omega
            obtain ⟨HBS,HM11,HB11,HB11b,HOPN,HFR⟩:=zh6 hbs hM11 hB11 hB11b hopn hfr
            obtain ⟨HK10,HLEN⟩:=zh2 hK10 hlen
            have hbase:w.heap.size≤W11.heap.size:=hM11.gr.size
            clear hl9 hopn hfr hM10 hB10 hK10 hW11 hbs hM11 hB11 hB11b g11 hlen HLESS h0 HM2 HM4 hM6
            go_upto_region 16 with (first
             | (refine wpList_load_mid rfl 47 _ rfl w5.heap.size 0 rfl KB _ (uh HK10) Tryz.underlying47 rfl (uh HIK) ?_;(try simp only[pq]))
             | (refine zav rfl 59 _ rfl (.agg KB.toArray) _ rfl (uh HBS) ?_;(try simp only[pq]))
             | (refine zb7 rfl _ _ rfl w.heap.size (.slice ia i ic) i _ rfl (uh HM11).own _ KB (uh HB11) (uh HKL) (uh HK1) rfl hn9 hbase ?_;intro v12 w12 ho12 g12;obtain ⟨a7,x7,rfl⟩:=zb3 ho12;have HO12:=hide ho12;have HG12:=hide g12;clear ho12 g12;(try simp only[pq])))
            obtain ⟨hR12,⟨K,hMK,hKP⟩,hG12b⟩:=OpM.name (uh HM11) (uh HG12)
            have ho12:w12.ownsRow w.heap.size 47 32 (.slice a7 (i+1) x7) (i+1) (((s++[((K9:Int),D9)]).map obId).flatMap (·.map bv)):=by
             have h:=uh HO12
             rw[List.map_append,List.flatMap_append]
             simp only[List.map_cons,List.map_nil,List.flatMap_cons,List.flatMap_nil,List.append_nil]
             rw[← uh HIB,← uh HKB]
             exact h
            have hB12:Blk w12 w5.heap.size 47 KB:=(uh HB11b).kept (uh HG12) (fun e=>by have h1:=((uh HM5).own.lt _ e.symm).2;omega)
            obtain ⟨WD,hWD⟩:∃ W,W=w12.drew:=⟨_,rfl⟩
            have gD:w12.grownBy WD none:=by rw[hWD];exact zas (zab _ _)
            have hRD:=hR12.kept gD (Or.inl rfl)
            obtain ⟨rb2,rc2,hA2,_,_⟩:=hRD
            have cl2:=zgl WD rb rb2 l9.length rc2 hA2.c0
            obtain ⟨ln9,hln9⟩:∃ z,z=l9.length:=⟨_,rfl⟩
            rw[← hln9] at cl2
            obtain ⟨hat1,hat2,hat3⟩:=uh HAT
            have hlen:=uh HLEN
            simp only at hlen
            obtain ⟨d5,hd5⟩:∃ z,z=5+D9.length:=⟨_,rfl⟩
            obtain ⟨q9,hq9⟩:∃ z,z=n - ln9:=⟨_,rfl⟩
            have hwq:IntKind.i64.wrap ((n:Int) - (ln9:Int))=(q9:Int):=by rw[IntKind.wrap_i64];omega
            have hwd:IntKind.i64.wrap ((q9:Int) - (at9:Int))=(d5:Int):=by rw[IntKind.wrap_i64];omega
            obtain ⟨PC,hPC⟩:∃ P,P=plC IB at9 d5:=⟨_,rfl⟩
            have hbp:=zmv IB (uh HIBL) at9 d5
            rw[← uh HKB,← hPC] at hbp
            have hMKD:=hMK.none gD
            obtain ⟨W13,hmu,hM13,g13,_⟩:=hMKD.store 70 49 Tryz.underlying70 IB (uh HIBL) (.agg PC.toArray)
            have hmu2:(Instr.mapUpdate 70 (.map (some mB)) (.agg KB.toArray) (.agg PC.toArray)).run Tryz.prog WD = .ok () W13:=by rw[uh HKB];exact hmu
            have hkp:=hKP.put (o:=((K9:Int),D9)) (uh HFR)
            rw[← uh HIB,← hat1,← hd5,← hPC] at hkp
            have HFIN:=hide (And.intro (uh HOPN) (OpM.place (hR12.kept gD (Or.inl rfl)) (zd3 ho12 gD) hMKD (tn hG12b gD) (uh HM11).nr (uh HM11).nm g13 hM13 hkp))
            have HNX:=hide (show some w5.heap.size≠some mB from fun e=>by injection e with e;exact hMK.blk hB12 e.symm)
            have hKR:=zal hB12
            clear HKR
            obtain ⟨HKR,HBP,HWD⟩:=zh3 hKR hbp hWD
            have h0:w12.grownBy w12.drew (some mB):=zao (some mB) (zas (zab _ _))
            have h1:w12.grownBy WD (some mB):=zao (some mB) gD
            have hgf:w12.grownBy W13 (some mB):=zac h1 g13 (fun x e=>Or.inr e)
            clear hR12 hMK hKP hG12b ho12 hB12 gD hA2 hln9 hat1 hat2 hat3 hlen hd5 hq9 hPC hbp hMKD hmu hM13 g13 hkp hKR hWD
            refine wp_region_noPanic ?_
            refine wp_region_held_drew (S:=fun V=>w12.grownBy V (some mB)) (by kernel_rfl) h0 (fun _ => ?_)
            rw[← uh HWD]
            refine tq 0 70 (.move (.tmp 9)) (.map (some mB)) h1 ?_
            refine tz 1 71 (.load 47 (.tmp 12)) (.agg KB.toArray) h1 ?_ (y:=(yieldsIf_load_mid (by rfl) _ _ rfl _ _ rfl KB _ (fun V hV=>zad (uh HKR) hV (uh HNX)) Tryz.underlying47 rfl (uh HIK)))
            refine tz 2 72 (.load 47 (.tmp 12)) (.agg KB.toArray) h1 ?_ (y:=(yieldsIf_load_mid (by rfl) _ _ rfl _ _ rfl KB _ (fun V hV=>zad (uh HKR) hV (uh HNX)) Tryz.underlying47 rfl (uh HIK)))
            refine tq 3 73 (.move (.tmp 10)) (.int .i64 (at9:Int)) h1 ?_
            (try simp only[pq])
            refine tq 4 74 (.move (.tmp 0)) (.slice ao n c) h1 ?_
            refine tq 6 76 (.move (.tmp 5)) (.pointer (some ⟨rb,0,none⟩)) h1 ?_
            refine tq 9 79 (.move (.tmp 10)) (.int .i64 (at9:Int)) h1 ?_
            refine tq 5 75 (.call { callee := .builtin .len,args := #[(.tmp 74)],argTypes := #[24] }) (.int .i64 (n:Int)) h1 ?_
            (try simp only[pq])
            refine rdq 7 (some 77) (.call { callee := .value (.func 54),args := #[(.tmp 76)],argTypes := #[84] }) (fun K9 hK9 => ?_)
            go_simp
            go_at_call 54
            refine cl2.mono ?_
            rintro e wL ⟨rfl,hwL⟩
            subst wL
            go_wp2_with fail
            refine hK9.out _ _ h1 (fun _ => ?_)
            clear hK9 K9
            refine tq 8 78 (.binOp .sub 3 (.tmp 75) (.tmp 77) 3) (.int .i64 (q9:Int)) h1 ?_
            refine tq 10 80 (.binOp .sub 3 (.tmp 78) (.tmp 79) 3) (.int .i64 (d5:Int)) h1 ?_
            refine tz 11 81 (.build 49 #[(0,(.tmp 72)),(1,(.tmp 73)),(2,(.tmp 80))]) (.agg PC.toArray) h1 ?_ (y:=(zbk (by rfl) _ _ rfl _ (Eq.trans (b:=Tryz.prog.built 49 [(0,.agg KB.toArray),(1,.int .i64 (at9:Int)),(2,.int .i64 (d5:Int))]) (by kernel_rfl) (uh HBP))))
            (try simp only[pq])
            refine rdq 12 none (.mapUpdate 70 (.tmp 70) (.tmp 71) (.tmp 81)) (fun K9 hK9 => ?_)
            go_simp
            refine hK9.out _ _ hgf (fun _ => ?_)
            clear hK9 K9
            (try simp only[pq])
            refine wpAnyH_done (by kernel_rfl) ?_ _
            refine NoPanic.normal ?_
            go_wp2_with fail
            go_roundw
            case rel=>exact ⟨i+1,s++[((K9:Int),D9)],l9,by go_num,by omega,uh HFIN⟩
            case measure=>simp[intOf];omega
         ·have hyz:(y == 0)=false:=by simpa using hy0
          have HFALL:=hide ((uh HOP2).falls hi (uh HRDO) (Or.inr (Or.inl (fun h=>hy0 (by rw[hy];exact h)))))
          clear hy hy0 hbt6 hrO
          go_wp2_with (first
           | (go_at_call 55;refine cw.mono ?_;rintro e wL ⟨rfl,hwL⟩;subst wL;clear cw)
           | (refine wpList_load_mid rfl 42 _ rfl w3.heap.size 0 rfl OC _ (uh HRO) Tryz.underlying42 rfl (uh HIO) ?_;clear HRO)
           | (go_at_call 40;refine ck.mono ?_;rintro e w7 ⟨rfl,g7⟩;clear ck;have HG7:=hide (tn (uh hM6).gr g7);clear g7))
          rw[Exit.noGoto_ret]
          go_ret3
          exact Or.inr ⟨rfl,uh HFALL,uh HG7⟩
        ·have he9z:(e9 == 0)=false:=by simpa using he9
         have HFALL:=hide ((uh HOP2).falls hi (uh HRDO) (Or.inl he9))
         clear he9
         go_wp2_with (go_at_call 55;refine cw.mono ?_;rintro e wL ⟨rfl,hwL⟩;subst wL;clear cw)
         rw[Exit.noGoto_ret]
         go_ret3
         exact Or.inr ⟨rfl,uh HFALL,(uh hM6).gr⟩
       ·have hiz:¬ (i:Int)<(N:Int):=by omega
        obtain ⟨hop,hom⟩:=uh HS
        obtain ⟨ia,ic,hv8⟩:=zb3 hom.own
        have cd:=zh9 wr rb li 0 hom.rd
        have hiN2:i=N:=by omega
        obtain ⟨y,hy⟩:∃ y,y=zd9 li 0:=⟨_,rfl⟩
        rw[← hy] at cd
        have HY:=hide (And.intro hy hiN2)
        have HX:=hide (And.intro hop hom)
        clear hop hom hy hiN2 HS
        subst hv8
        by_cases hy0:y=0
        ·subst hy0
         go_wp2_with (go_at_call 39;refine cd.mono ?_;rintro e wL ⟨rfl,hwL⟩;subst wL;clear cd)
         try rw[Exit.noGoto_ret]
         go_ret3
         obtain ⟨hop,hom⟩:=uh HX
         obtain ⟨hy,hiN2⟩:=uh HY
         have hli:li=[]:=by
          cases li with
          | nil=>rfl
          | cons x t=>simp[zd9] at hy
         subst hli
         have hsl:=hop.eq.2
         obtain ⟨K,hMK,hKP⟩:=hom.map
         have ho:=hom.own
         rw[hiN2] at hop
         refine Or.inl ⟨_,mB,s,K,rfl,hop.ends hN2,?_,hMK,hKP,hom.gr⟩
         rw[hsl]
         exact ho
        ·have hyz:(y == 0)=false:=by simpa using hy0
         go_wp2_with (go_at_call 39;refine cd.mono ?_;rintro e wL ⟨rfl,hwL⟩;subst wL;clear cd)
         try rw[Exit.noGoto_ret]
         go_ret3
         obtain ⟨hop,hom⟩:=uh HX
         obtain ⟨hy,hiN2⟩:=uh HY
         rw[hiN2] at hop
         exact Or.inr ⟨rfl,hop.left (fun e=>hy0 (by rw[hy,e];rfl)),hom.gr⟩
     ·obtain ⟨hN0,hl20⟩:=zol (uh HNUM2) he
      have hNz0:¬ (0:Int)<(N:Int):=by omega
      have hNz1:¬ 0<N:=by omega
      have HE:=hide he
      have HST2:=HST
      clear hN0 he
      go_wp2_with (rw[← uh HW0,← uh HMB])
      go_step3
      go_wp2_with fail
      clear HST HW0 HMB
      go_loopw [8,10,11,12,29] (fun v8 _x10 _x11 _x12 vi wr=>vi = .int .i64 0∧v8 = .slice none 0 0∧Hid (OpM w wr rb mB (.slice none 0 0) 0 [] l2 e2)) (fun _ _ _ _ _ _=>0)
      case atStart=>exact ⟨rfl,rfl,HST2⟩
      case round =>
       clear HST2
       obtain ⟨rfl,rfl,HS⟩:=hrel
       have cd:=zh9 wr rb l2 e2 (uh HS).rd
       obtain ⟨y,hy⟩:∃ y,y=zd9 l2 e2:=⟨_,rfl⟩
       rw[← hy] at cd
       have hy0:¬ y=0:=by rw[hy];unfold zd9;rw[if_neg (uh HE)];exact uh HE
       have hyz:(y == 0)=false:=by simpa using hy0
       clear hy hy0
       go_wp2_with (go_at_call 39;refine cd.mono ?_;rintro e wL ⟨rfl,hwL⟩;subst wL;clear cd)
       try rw[Exit.noGoto_ret]
       go_ret3
       exact Or.inr ⟨rfl,zox (uh HNUM2) (Or.inl (uh HE)),(uh HS).gr⟩
    ·have hNz:(256:Int)<(N:Int):=by omega
     clear hraw hnum hm
     go_wp2_with fail
     rw[Exit.noGoto_ret]
     go_ret3
     exact Or.inr ⟨rfl,zox (uh HNUM2) (Or.inr (by omega)),hG⟩
   ·have HNM:=hide (zp5 (b:=b) (by rw[hraw];exact hm))
    clear hraw hnum
    go_wp2_with fail
    rw[Exit.noGoto_ret]
    go_ret3
    exact Or.inr ⟨rfl,uh HNM,hG⟩
 clear hK
 obtain ⟨WD,hWD⟩:∃ V,V=w1.drew:=⟨_,rfl⟩
 have gD:w1.grownBy WD none:=by rw[hWD];exact zas (zab _ _)
 have hrD:=hr1.kept gD (Or.inl rfl)
 have HR1:=hide hrD
 have HG1:=hide (tn g1 gD)
 have craw:=uh HRAW WD rb hrD
 have hwN:IntKind.i64.wrap (N:Int)=(N:Int):=by rw[IntKind.wrap_i64];omega
 clear hr1 g1 gD hrD
 refine wp_region_noPanic ?_
 refine wp_region_held_drew (S:=fun V=>True) (by kernel_rfl) trivial (fun _ => ?_)
 rw[← hWD]
 clear hWD
 refine tq 0 15 (.move (.tmp 5)) (.pointer (some ⟨rb,0,none⟩)) trivial ?_
 refine tq 3 18 (.move (.tmp 5)) (.pointer (some ⟨rb,0,none⟩)) trivial ?_
 (try simp only[pq])
 refine rdq 1 (some 16) (.call { callee := .value (.func 53),args := #[(.tmp 15),.const (.int .i64 4)],argTypes := #[84,3] }) (fun K9 hK9 => ?_)
 go_simp
 go_at_call 53
 refine craw.mono ?_
 rintro e w2 ⟨v2,rfl,⟨a2,c2,rfl,hb2,ht2⟩,hr2,g2⟩
 rw[← uh HRN]
 go_wp2_with fail
 refine hK9.out _ _ trivial (fun _ => ?_)
 clear hK9 K9
 (try simp only[pq])
 refine wpAnyH_ready (rs:=[2,4]) (by kernel_rfl) (by simp) ?_
 refine AllReadyH.cons (o:=⟨some 17,.convert 24 9 (.tmp 16),_,_,_,_⟩) rfl (fun K9 hK9 => ?_) (AllReadyH.cons (o:=⟨some 19,.call { callee := .value (.func 37),args := #[(.tmp 18),.const (.int .i64 2)],argTypes := #[84,3] },_,_,_,_⟩) rfl (fun K9 hK9 => ?_) AllReadyH.nil)
 ·have z9:=za6 hb2
  rw[← uh HSB,← uh HRN] at z9
  go_simp
  clear z9
  refine hK9.out _ _ trivial (fun _ => ?_)
  clear hK9 K9
  (try simp only[pq])
  refine rdq 4 (some 19) (.call { callee := .value (.func 37),args := #[(.tmp 18),.const (.int .i64 2)],argTypes := #[84,3] }) (fun K9 hK9 => ?_)
  go_simp
  go_at_call 37
  refine (uh HNUM w2 rb hr2).mono ?_
  rintro e w3 ⟨rfl,hr3,g3⟩
  go_wp2_with fail
  refine hK9.out _ _ trivial (fun _ => ?_)
  clear hK9 K9
  refine tq 5 20 (.convert 64 3 (.tmp 19)) (.int .i64 (N:Int)) trivial ?_
  refine tq 6 6 (.assign (.tmp 17)) (.string SB) trivial ?_
  refine tq 7 7 (.assign (.tmp 20)) (.int .i64 (N:Int)) trivial ?_
  (try simp only[pq])
  refine wpAnyH_done (by kernel_rfl) ?_ _
  refine NoPanic.normal ?_
  go_wp2_with fail
  exact uh FIN w3 a2 c2 hr3 (zac (zac (uh HG1) g2 (fun x e=>Or.inl (by injection e with e;omega))) g3 (fun x e=>Or.inl (by injection e with e;omega)))
 ·go_simp
  go_at_call 37
  refine (uh HNUM w2 rb hr2).mono ?_
  rintro e w3 ⟨rfl,hr3,g3⟩
  go_wp2_with fail
  refine hK9.out _ _ trivial (fun _ => ?_)
  clear hK9 K9
  refine tq 5 20 (.convert 64 3 (.tmp 19)) (.int .i64 (N:Int)) trivial ?_
  (try simp only[pq])
  refine rdq 2 (some 17) (.convert 24 9 (.tmp 16)) (fun K9 hK9 => ?_)
  have z9:=za6 (hb2.kept g3 (fun x e ad e2 e3=>by injection e with e;have q1:=(ht2 ad e2).1;have q2:=(uh HR1).lt;omega))
  rw[← uh HSB,← uh HRN] at z9
  go_simp
  clear z9
  refine hK9.out _ _ trivial (fun _ => ?_)
  clear hK9 K9
  refine tq 6 6 (.assign (.tmp 17)) (.string SB) trivial ?_
  refine tq 7 7 (.assign (.tmp 20)) (.int .i64 (N:Int)) trivial ?_
  (try simp only[pq])
  refine wpAnyH_done (by kernel_rfl) ?_ _
  refine NoPanic.normal ?_
  go_wp2_with fail
  exact uh FIN w3 a2 c2 hr3 (zac (zac (uh HG1) g2 (fun x e=>Or.inl (by injection e with e;omega))) g3 (fun x e=>Or.inl (by injection e with e;omega)))
end Go.Proofs.YtegbbkgmiklhcaaGreatDoor
