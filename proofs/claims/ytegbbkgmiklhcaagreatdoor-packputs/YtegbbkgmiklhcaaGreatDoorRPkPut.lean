/- Lemmas. -/
import Derived.Test.YtegbbkgmiklhcaaGreatDoorOObj
import Derived.Test.YtegbbkgmiklhcaaGreatDoorROId
import Derived.Deep.DeepCutAuto
namespace Go.Proofs.YtegbbkgmiklhcaaGreatDoor
open Go.RowKit
set_option maxRecDepth 100000
def eOb (e:ObE):Ob:=(e.k,e.d)
theorem zp8:(Tryz.prog.info? 44).map (·.size)=some 2:=by kernel_rfl
set_option maxHeartbeats 2000000 in
theorem znv (w:World) (ao:Option Addr) (c n:Nat) (hn:256<n) (hm:n≤100000) :
  Calls Tryz.prog 9 #[.slice ao n c] w fun e w'=>e = .returned (.tuple #[.string (str []),.int .i64 3])∧w.grownBy w' none:=by
 have hz:(256:Int)<(n:Int):=by omega
 go_enter Tryz.func9,Tryz.ntmps9
 go_wp2
 go_ret2
 exact ⟨rfl,zaa _ _⟩
theorem zr8 (s:ByteArray) (V:World):(Instr.buildSlice 67 1 #[(0,.string s)]).run Tryz.prog V = .ok (.slice (some ⟨V.heap.size,0,none⟩) 1 1) (V.alloc (.cells #[.string s] 9)):=by kernel_rfl
theorem zp9 {α:Type} {l:List α} {i:Nat} {x:α} (h:l[i]? = some x):l.take (i+1)=l.take i++[x]:=by
 obtain ⟨h1,h2⟩:=List.getElem?_eq_some_iff.1 h
 rw[List.take_succ_eq_append_getElem h1,h2]
theorem znw {α:Type} {l:List α} {a:α} (h:l.Nodup) (ha:a∉l):(l++[a]).Nodup:=by
 rw[List.nodup_append]
 refine ⟨h,by simp,fun x hx y hy => ?_⟩
 rw[List.mem_singleton.1 hy]
 intro e
 exact ha (e ▸ hx)
theorem zjs {α:Type} {l:List α} {i j:Nat} (hi:i<j) (hj:j<l.length) (h:l[i]'(by omega)=l[j]):¬ l.Nodup:=fun hn =>
 List.pairwise_iff_getElem.1 hn i j (by omega) hj hi h
theorem zjt {w:World} {base i:Nat} {v:Value} {P:List Ob} (h:Stg w base v ((P.take i).map obId)) (hi:i≤P.length):∃ ao c,v = .slice ao i c∧∀ j,j<i→∃ b,ao=some ⟨b,0,none⟩∧∀ V,w.grownBy V none→V.cell? ⟨b,j,none⟩=some (.string (str (nmAt P j))):=by
 obtain ⟨ao,c,h1,h2⟩:=h.open
 have hl:((P.take i).map obId).length=i:=by simp;omega
 rw[hl] at h1
 refine ⟨ao,c,h1,fun j hj => ?_⟩
 obtain ⟨b,e,hc⟩:=h2.at j (by rw[hl];exact hj)
 refine ⟨b,e,fun V g => ?_⟩
 rw[g.cell hc (by simp)]
 congr 3
 have hjP:j<P.length:=by omega
 unfold nmAt
 rw[zc0 hjP]
 simp
theorem zr9 {P:List Ob} {i:Nat} (hi:i<P.length) (h:∀ a,a<i→nmAt P a≠nmAt P i):nmAt P i∉(P.take i).map obId:=by
 intro hm
 obtain ⟨o,ho,he⟩:=List.mem_map.1 hm
 obtain ⟨a,ha,rfl⟩:=List.mem_iff_getElem.1 ho
 have ha2:a<i:=by simp at ha;omega
 have haP:a<P.length:=by omega
 apply h a ha2
 rw[← he]
 unfold nmAt
 rw[zc0 haP]
 simp
theorem zuv {P:List Ob} {q i:Nat} (hi:i<P.length) (hq:q<i) (h:nmAt P q=nmAt P i):¬ (P.map obId).Nodup:=by
 have hqP:q<P.length:=by omega
 refine zjs (i:=q) (j:=i) hq (by simpa using hi) ?_
 unfold nmAt at h
 rw[zc0 hi,zc0 hqP] at h
 simpa using h
theorem zju {P:List Ob} {Q:List Nat} {j:Nat} {bs:Int} (h:Bst P Q j bs):bs = -1∨∃ b:Nat,bs=(b:Int)∧b<j:=by
 rcases h with ⟨h1,-⟩ | ⟨b,h1,h2,-⟩
 ·exact Or.inl h1
 ·exact Or.inr ⟨b,h1,h2⟩
theorem zk3 {P:List Ob} {Q:List Nat} (h:Sel P Q) {q:Nat} (hq:q<P.length):(znl Q = -1∧q∉Q)∨∃ p:Nat,znl Q=(p:Int)∧p<P.length∧(zaw (nmAt P p) (nmAt P q)=true→q∉Q)∧(zaw (nmAt P p) (nmAt P q)=false→q∈Q):=by
 rcases List.eq_nil_or_concat Q with rfl | ⟨R,p,rfl⟩
 ·exact Or.inl ⟨rfl,by simp⟩
 ·rw[List.concat_eq_append] at h ⊢
  refine Or.inr ⟨p,zhq _ _,h.lt p (by simp),(h.above hq).1,fun hf => ?_⟩
  apply Classical.byContradiction
  intro hn
  rw[(h.above hq).2 hn] at hf
  cases hf
theorem zsa {x y:List UInt8} (h:zaw x y=true):Op.bytesLess y x=false∧¬ y=x:=⟨zds _ _ h,fun e=>by subst e;rw[zc7] at h;cases h⟩
theorem zqa {x y:List UInt8} (h:zaw x y=false):Op.bytesLess y x=false→y=x:=fun h2=>(zdt _ _ h h2).symm
theorem zuw {x y:List UInt8} (h:x≠y):str x≠str y:=fun e=>h (by rw[← za3 x,← za3 y,e])
set_option maxHeartbeats 8000000 in
theorem znx (w:World) (ao:Option Addr) (c:Nat) (L:List ObE) (hO:Rws w 2 roC ao c L) (hm:L.length≤256) :
  Calls Tryz.prog 9 #[.slice ao L.length c] w fun e w'=>∃ b y,e = .returned (.tuple #[.string (str b),.int .i64 y])∧PutP (L.map eOb) b y∧w.grownBy w' none:=by
 obtain ⟨n,hn⟩:∃ n,n=L.length:=⟨_,rfl⟩
 rw[← hn] at hm ⊢
 have hz:¬ (256:Int)<(n:Int):=by omega
 have hiO:=zp8
 obtain ⟨P,hP⟩:∃ P,P=L.map eOb:=⟨_,rfl⟩
 rw[← hP]
 have hPl:P.length=n:=by rw[hP,hn];simp
 have hPg:∀ j (h:j<n),∃ k d b o,ao=some ⟨b,o,none⟩∧P[j]? = some (k,d)∧∀ V,w.grownBy V none→V.rangeAt b (o+j*2) [.int .i64 k,.string (str d)]:=fun j h=>by
  obtain ⟨b,o,h1,h2⟩:=hO.at j (by omega)
  refine ⟨L[j].k,L[j].d,b,o,h1,?_,fun V g=>zah h2 g (by simp)⟩
  subst hP
  simp[eOb,List.getElem?_eq_getElem (show j<L.length by omega)]
 obtain ⟨HPG,HPL,HN⟩:=zh3 hPg hPl hn
 clear hO hn hP hPl hPg
 go_enter Tryz.func9,Tryz.ntmps9
 go_wp2_with fail
 go_loopw [4,5] (fun vi v5 wr=>∃ i:Nat,vi = .int .i64 i∧i≤n∧Hid ((∀ o∈P.take i,OkO o)∧w.grownBy wr none)) (fun vi _ _=>n - (intOf vi).toNat)
 case atStart=>exact ⟨0,rfl,Nat.zero_le _,⟨fun o ho=>by simp at ho,zaa _ _⟩⟩
 case round =>
  obtain ⟨i,rfl,hin,HR⟩:=hrel
  by_cases hi:i<n
  ·have hiz:(i:Int)<(n:Int):=by omega
   obtain ⟨k,d,b,o,rfl,hPi,hrow⟩:=uh HPG i hi
   have hr:=hrow wr (uh HR).2
   have cp:=znk wr k d
   obtain ⟨sd,hsd⟩:∃ s,s=str d:=⟨_,rfl⟩
   rw[← hsd] at cp hr
   obtain ⟨y,hy⟩:∃ y,y=zao k d:=⟨_,rfl⟩
   rw[← hy] at cp
   obtain ⟨HY,HPI,HH⟩:=zh3 hy hPi hr
   have hwi:IntKind.i64.wrap ((i:Int)+1)=(i:Int)+1:=by rw[IntKind.wrap_i64];omega
   clear hy hPi hr hrow hsd
   by_cases hz0:y=0
   ·have hq:(y == 0)=true:=by simp[hz0]
    have HZ:=hide hz0
    clear hz0
    go_wp2_with (first
     | (refine wpList_load_mid rfl 44 _ rfl b (o+i*2) rfl [.int .i64 k,.string sd] _ (uh HH) Tryz.underlying44 rfl hiO ?_;clear HH)
     | (go_at_call 25;refine cp.mono ?_;rintro e w4 ⟨rfl,g4⟩;have HG4:=hide (tn (uh HR).2 g4);clear g4 cp))
    go_roundw
    case rel =>
     refine ⟨i+1,by go_num,by omega,⟨fun q hq => ?_,uh HG4⟩⟩
     rw[zp9 (uh HPI)] at hq
     rcases List.mem_append.1 hq with hq | hq
     ·exact (uh HR).1 q hq
     ·rw[List.mem_singleton.1 hq]
      show zao k d=0
      rw[← uh HY]
      exact uh HZ
    case measure=>simp[intOf];omega
   ·have hq:(y == 0)=false:=by simp[hz0]
    have HZ:=hide hz0
    go_wp2_with (first
     | (refine wpList_load_mid rfl 44 _ rfl b (o+i*2) rfl [.int .i64 k,.string sd] _ (uh HH) Tryz.underlying44 rfl hiO ?_;clear HH)
     | (go_at_call 25;refine cp.mono ?_;rintro e w4 ⟨rfl,g4⟩;have HG4:=hide (tn (uh HR).2 g4);clear g4 cp))
    go_ret2
    obtain ⟨hiP,hPi⟩:=List.getElem?_eq_some_iff.1 (uh HPI)
    refine ⟨[],y,rfl,⟨?_,fun _=>rfl,fun h=>absurd h (uh HZ)⟩,uh HG4⟩
    have he:errC P=y:=by
     rw[zl3 (i:=i) hiP (uh HR).1 (by rw[hPi];show zao k d≠0;rw[← uh HY];exact uh HZ),hPi,uh HY]
    rw[zet,if_neg (by rw[uh HPL];omega),if_pos (by rw[he];exact uh HZ),he]
  ·have hiz:¬ (i:Int)<(n:Int):=by omega
   have hall:∀ o∈P,OkO o:=fun q hq=>(uh HR).1 q (by rw[List.take_of_length_le (by rw[uh HPL];omega)];exact hq)
   have HALL:=hide hall
   have HG1:=hide (uh HR).2
   clear HR hall
   go_wp2_with fail
   go_loopw [6,7,8] (fun v6 vi v8 wr=>∃ i:Nat,vi = .int .i64 i∧i≤n∧Hid (Stg wr w.heap.size v6 ((P.take i).map obId)∧((P.take i).map obId).Nodup∧w.grownBy wr none)) (fun _ vi _ _=>n - (intOf vi).toNat)
   case atStart=>exact ⟨0,rfl,Nat.zero_le _,⟨Stg.nil _ _,List.nodup_nil,uh HG1⟩⟩
   case round =>
    obtain ⟨i,rfl,hin,HR⟩:=hrel
    by_cases hi:i<n
    ·have hiz:(i:Int)<(n:Int):=by omega
     obtain ⟨k,d,b,o,rfl,hPi,hrow⟩:=uh HPG i hi
     have hr:=hrow wr (uh HR).2.2
     obtain ⟨hiP,hPi2⟩:=List.getElem?_eq_some_iff.1 hPi
     have hok:OkO (k,d):=uh HALL _ (by rw[← hPi2];exact List.getElem_mem _)
     have hd:d.length≤16384:=by obtain ⟨_,_,_,_,h⟩:=zfw hok;exact h
     have cp:=zr7 wr k d (by omega)
     obtain ⟨I,hI⟩:∃ I,I=obId (k,d):=⟨_,rfl⟩
     rw[show shaL (putL k d)=I by rw[hI];rfl] at cp
     obtain ⟨sd,hsd⟩:∃ s,s=str d:=⟨_,rfl⟩
     obtain ⟨SI,hSI⟩:∃ s,s=str I:=⟨_,rfl⟩
     rw[← hsd,← hSI] at cp
     rw[← hsd] at hr
     have hnx:(P.take (i+1)).map obId=(P.take i).map obId++[I]:=by rw[zp9 hPi,List.map_append,hI];rfl
     have hl9:((P.take i).map obId).length=i:=by simp;rw[uh HPL];omega
     obtain ⟨HNX,HSI⟩:=zh2 hnx hSI
     have HIN:=hide (show I=nmAt P i by rw[hI];unfold nmAt;rw[zc0 hiP,hPi2])
     obtain ⟨HL9,HH⟩:=zh2 hl9 hr
     have hwi:IntKind.i64.wrap ((i:Int)+1)=(i:Int)+1:=by rw[IntKind.wrap_i64];omega
     clear hr hrow hsd hPi hPi2 hok hnx hI hSI hl9
     go_wp2_with (first
      | (refine wpList_load_mid rfl 44 _ rfl b (o+i*2) rfl [.int .i64 k,.string sd] _ (uh HH) Tryz.underlying44 rfl hiO ?_;clear HH))
     refine cp.mono ?_
     rintro e w4 ⟨rfl,g4⟩
     clear cp
     obtain ⟨W5,hW5,hB5,g5⟩:=zag w4 9 (stR I)
     have hbs:(Instr.buildSlice 67 1 #[(0,.string SI)]).run Tryz.prog w4 = .ok (.slice (some ⟨w4.heap.size,0,none⟩) 1 1) W5:=by rw[hW5,uh HSI];exact zr8 _ w4
     have G5:=tn g4 g5
     have HBS:=hide hbs
     have HE5:=hide (Rws.one (K:=1) (f:=stR) hB5)
     have HO5:=hide ((uh HR).1.kept G5)
     have HG5:=hide (tn (uh HR).2.2 G5)
     clear hbs hW5 hB5 g4 g5 G5
     go_wp2_with (first
      | (refine zax rfl 67 _ rfl (.string SI) _ rfl (uh HBS) ?_;(try simp only[pq]))
      | (refine zfg rfl _ _ rfl w.heap.size _ _ [I] rfl (uh HO5) _ 1 1 rfl rfl (uh HE5) (by rw[uh HL9];simp;omega) (uh HG5).size ?_;intro v7 w7 ho7 g7;have HO7:=hide ho7;have HG7:=hide (zae (uh HG5) g7 (fun y e=>Or.inl ((World.ownsRow.lt (uh HO5)) y e).1));clear ho7 g7;(try simp only[pq])))
     have hI9:I=nmAt P i:=uh HIN
     have ho7:Stg w7 w.heap.size v7 ((P.take (i+1)).map obId):=by rw[uh HNX];exact uh HO7
     obtain ⟨ia,ic,rfl,hcell⟩:=zjt ho7 hiP
     obtain ⟨HO8,HCELL⟩:=zh2 ho7 hcell
     clear ho7 hcell HO7 HO5 HE5 HBS HG5
     have HD:=hide (uh HR).2.1
     have hii:i<i+1:=Nat.lt_succ_self i
     obtain ⟨ib,rfl,hci⟩:=uh HCELL i hii
     obtain ⟨i1,hi1⟩:∃ z,z=i+1:=⟨_,rfl⟩
     rw[← hi1] at HCELL HO8 ⊢
     obtain ⟨HI1,HCI⟩:=zh2 hi1 hci
     clear hii hI9 hci hi1
     go_loopw [8] (fun v8 wr=>∃ q:Nat,v8 = .int .i64 q∧q≤i∧Hid ((∀ a,a<q→nmAt P a≠nmAt P i)∧w7.grownBy wr none)) (fun v8 _=>i - (intOf v8).toNat)
     case atStart=>exact ⟨0,rfl,Nat.zero_le _,⟨fun a h=>by omega,zaa _ _⟩⟩
     case round =>
      obtain ⟨q,rfl,hqi,HE⟩:=hrel
      by_cases hq:q<i
      ·have hqz:(q:Int)<(i:Int):=by omega
       have h0:w7.grownBy wr.drew none:=zan (uh HE).2
       have hi1:=uh HI1
       have hq1z:(q:Int)<(i1:Int):=by omega
       have hi1z:(i:Int)<(i1:Int):=by omega
       have hcq:∀ V,w7.grownBy V none→V.cell? ⟨ib,q,none⟩=some (.string (str (nmAt P q))):=by
        obtain ⟨b2,e2,h2⟩:=uh HCELL q (by omega)
        injection e2 with e2
        injection e2 with e2 _ _
        subst e2
        exact h2
       clear hi1
       by_cases hsame:nmAt P q=nmAt P i
       ·have HSA:=hide hsame
        have hcb:=uh HCI
        rw[← hsame] at hcb
        obtain ⟨TA,hTA⟩:∃ T,T=str (nmAt P q):=⟨_,rfl⟩
        rw[← hTA] at hcq hcb
        obtain ⟨HCQ,HCB⟩:=zh2 hcq hcb
        have HEG:=hide (uh HE).2
        clear hcq hcb hTA hsame HE
        go_upto_region 17 with fail
        refine wp_region_noPanic ?_
        refine wp_region_held_drew (S:=fun V=>w7.grownBy V none) (by kernel_rfl) h0 (fun _ => ?_)
        refine tq 0 50 (.move (.tmp 6)) ((.slice (some ⟨ib,0,none⟩) i1 ic)) h0 ?_
        refine tq 1 51 (.move (.tmp 8)) ((.int .i64 (q:Int))) h0 ?_
        refine tq 2 52 (.indexAddr 67 (.tmp 50) (.tmp 51)) ((.pointer (some ⟨ib,q,none⟩))) h0 ?_
        refine tz 3 53 (.load 9 (.tmp 52)) ((.string TA)) h0 ?_ (y:=(Or.inl ⟨by rfl,fun V hV=>by (have hv1:=uh HCQ V hV;go_simp)⟩))
        (try simp only[pq])
        refine tq 4 54 (.move (.tmp 6)) ((.slice (some ⟨ib,0,none⟩) i1 ic)) h0 ?_
        refine tq 5 55 (.move (.tmp 7)) ((.int .i64 (i:Int))) h0 ?_
        refine tq 6 56 (.indexAddr 67 (.tmp 54) (.tmp 55)) ((.pointer (some ⟨ib,i,none⟩))) h0 ?_
        refine tz 7 57 (.load 9 (.tmp 56)) ((.string TA)) h0 ?_ (y:=(Or.inl ⟨by rfl,fun V hV=>by (have hv1:=uh HCB V hV;go_simp)⟩))
        (try simp only[pq])
        refine tq 8 58 (.binOp .eql 9 (.tmp 53) (.tmp 57) 9) ((.bool true)) h0 ?_
        (try simp only[pq])
        refine wpAnyH_done (by kernel_rfl) ?_ _
        refine NoPanic.normal ?_
        go_wp2_with fail
        go_ret2
        refine ⟨[],14,rfl,⟨?_,fun _=>rfl,fun h=>absurd h (by decide)⟩,tn (uh HG7) h0⟩
        rw[zet,if_neg (by rw[uh HPL];omega),if_neg (by rw[zis (uh HALL)];decide),if_neg (zuv hiP hq (uh HSA))]
       ·have hne:=zuw hsame
        have HNE:=hide hsame
        have hcb:=uh HCI
        obtain ⟨TA,hTA⟩:∃ T,T=str (nmAt P q):=⟨_,rfl⟩
        obtain ⟨TB,hTB⟩:∃ T,T=str (nmAt P i):=⟨_,rfl⟩
        rw[← hTA] at hcq hne
        rw[← hTB] at hcb hne
        have hnl:¬ TA.toList=TB.toList:=by rw[hTA,hTB,za3,za3];exact hsame
        have hqw:IntKind.i64.wrap ((q:Int)+1)=(q:Int)+1:=by rw[IntKind.wrap_i64];omega
        obtain ⟨HCQ,HCB⟩:=zh2 hcq hcb
        clear hcq hcb hTA hTB hsame
        go_upto_region 17 with fail
        refine wp_region_noPanic ?_
        refine wp_region_held_drew (S:=fun V=>w7.grownBy V none) (by kernel_rfl) h0 (fun _ => ?_)
        refine tq 0 50 (.move (.tmp 6)) ((.slice (some ⟨ib,0,none⟩) i1 ic)) h0 ?_
        refine tq 1 51 (.move (.tmp 8)) ((.int .i64 (q:Int))) h0 ?_
        refine tq 2 52 (.indexAddr 67 (.tmp 50) (.tmp 51)) ((.pointer (some ⟨ib,q,none⟩))) h0 ?_
        refine tz 3 53 (.load 9 (.tmp 52)) ((.string TA)) h0 ?_ (y:=(Or.inl ⟨by rfl,fun V hV=>by (have hv1:=uh HCQ V hV;go_simp)⟩))
        (try simp only[pq])
        refine tq 4 54 (.move (.tmp 6)) ((.slice (some ⟨ib,0,none⟩) i1 ic)) h0 ?_
        refine tq 5 55 (.move (.tmp 7)) ((.int .i64 (i:Int))) h0 ?_
        refine tq 6 56 (.indexAddr 67 (.tmp 54) (.tmp 55)) ((.pointer (some ⟨ib,i,none⟩))) h0 ?_
        refine tz 7 57 (.load 9 (.tmp 56)) ((.string TB)) h0 ?_ (y:=(Or.inl ⟨by rfl,fun V hV=>by (have hv1:=uh HCB V hV;go_simp)⟩))
        (try simp only[pq])
        refine tq 8 58 (.binOp .eql 9 (.tmp 53) (.tmp 57) 9) ((.bool false)) h0 ?_
        (try simp only[pq])
        refine wpAnyH_done (by kernel_rfl) ?_ _
        refine NoPanic.normal ?_
        clear hne hnl
        go_wp2_with fail
        go_roundw
        case rel=>exact ⟨q+1,by go_num,by omega,⟨fun a ha=>by by_cases e:a=q;(rw[e];exact uh HNE);exact (uh HE).1 a (by omega),h0⟩⟩
        case measure=>simp[intOf];omega
      ·have hqz:¬ (q:Int)<(i:Int):=by omega
       have hqi2:q=i:=by omega
       have HQI:=hide hqi2
       clear hqi2
       go_wp2_with fail
       go_roundw
       case rel =>
        refine ⟨i+1,by go_num,by omega,⟨?_,?_,tn (uh HG7) (uh HE).2⟩⟩
        ·have h:=(uh HO8).kept (uh HE).2
         rw[uh HI1] at h ⊢
         exact h
        ·have hd2:=uh HD
         rw[uh HNX]
         refine znw hd2 ?_
         rw[uh HIN]
         exact zr9 hiP fun a ha=>(uh HE).1 a (by rw[uh HQI];exact ha)
       case measure=>simp[intOf];omega
    ·have hiz:¬ (i:Int)<(n:Int):=by omega
     have hin2:n=i:=by omega
     subst hin2
     obtain ⟨hS,hD,hG⟩:=uh HR
     obtain ⟨ia,ic,rfl,hcell⟩:=zjt hS (by rw[uh HPL];omega)
     rw[List.take_of_length_le (by rw[uh HPL];omega)] at hD
     have hnb2:nb 2=2:=by decide
     have cp:=zdx wr [67,80,75,49] n 2 (by omega) (by simp)
     rw[hnb2] at cp
     obtain ⟨SH,hSH⟩:∃ S,S=str (zdq n):=⟨_,rfl⟩
     have cph:Calls Tryz.prog 27 #[.string { data := #[67,80,75,49] },.int .u64 (n:Int),.int .i64 2] wr fun e w'=>e = .returned (.string SH)∧wr.grownBy w' none:=by rw[hSH];exact cp
     have hwu:IntKind.u64.wrap (n:Int)=(n:Int):=by rw[IntKind.wrap_u64];omega
     obtain ⟨HCELL,HD,HG2,HSH⟩:=zh4 hcell hD hG hSH
     clear cp hSH hS hD hG hcell hnb2 HR
     go_wp2_with fail
     refine cph.mono ?_
     rintro e w8 ⟨rfl,g8⟩
     clear cph
     have HG8:=hide g8
     clear g8
     go_wp2_with fail
     go_loopw [9,10,11,12,13] (fun v9 v10 v11 v12 v13 wr=>∃ (j:Nat) (Q:List Nat) (l9:Nat) (SO:ByteArray),v11 = .int .i64 j∧j≤n∧v10 = .int .i64 (znl Q)∧v9 = .string SO∧SO.size=l9∧l9≤6+j*16389∧Hid (SO=str (zdq n++(Q.map (obAt P)).flatMap obB)∧Q.length=j∧Sel P Q∧w8.grownBy wr none)) (fun _ _ v11 _ _ _=>n - (intOf v11).toNat)
     case atStart=>exact ⟨0,[],6,SH,rfl,Nat.zero_le _,rfl,rfl,by rw[uh HSH,zaj,zfh],by omega,⟨by rw[uh HSH];simp,rfl,Sel.nil _,zaa _ _⟩⟩
     case round =>
      obtain ⟨j,Q,l9,SO,rfl,hjn,rfl,rfl,hl9,hl92,HR⟩:=hrel
      by_cases hj:j<n
      ·have hjz:(j:Int)<(n:Int):=by omega
       obtain ⟨ib,rfl,hc0⟩:=uh HCELL 0 (by omega)
       have hc2:∀ q,q<n→∀ V,w8.grownBy V none→V.cell? ⟨ib,q,none⟩=some (.string (str (nmAt P q))):=fun q hq V hV=>by
        obtain ⟨b2,e2,h2⟩:=uh HCELL q hq
        injection e2 with e2
        injection e2 with e2 _ _
        subst e2
        exact h2 V (tn (uh HG8) hV)
       have HC2:=hide hc2
       have HSel:=hide (uh HR).2.2.1
       have hjw:IntKind.i64.wrap ((j:Int)+1)=(j:Int)+1:=by rw[IntKind.wrap_i64];omega
       clear hc0 hc2
       go_wp2_with fail
       go_loopw [12,13] (fun v12 v13 wr=>∃ (q:Nat) (bs:Int),v13 = .int .i64 q∧q≤n∧v12 = .int .i64 bs∧Hid (Bst P Q q bs∧w8.grownBy wr none)) (fun _ v13 _=>n - (intOf v13).toNat)
       case atStart=>exact ⟨0,-1,rfl,Nat.zero_le _,rfl,⟨Bst.start _ _,(uh HR).2.2.2⟩⟩
       case round =>
        obtain ⟨q,bs,rfl,hqn,rfl,HE⟩:=hrel
        by_cases hq:q<n
        ·have hqz:(q:Int)<(n:Int):=by omega
         have hqw:IntKind.i64.wrap ((q:Int)+1)=(q:Int)+1:=by rw[IntKind.wrap_i64];omega
         have h0:w8.grownBy wr.drew none:=zan (uh HE).2
         have hcq:=uh HC2 q hq
         obtain ⟨TQ,hTQ⟩:∃ T,T=str (nmAt P q):=⟨_,rfl⟩
         rw[← hTQ] at hcq
         have hLQ:TQ.toList=nmAt P q:=by rw[hTQ,za3]
         have HCQ:=hide hcq
         clear hcq hTQ
         rcases zk3 (uh HSel) (q:=q) (by rw[uh HPL];exact hq) with ⟨hla,hQ⟩ | ⟨p,hla,hpn,hQ⟩
         ·rw[hla]
          have HQN:=hide hQ
          clear hla hQ
          rcases zju (uh HE).1 with hb9 | ⟨b9,hb9,hb9n⟩
          ·subst hb9
           have HNB:=hide ((uh HE).1.first (uh HQN))
           go_upto_region 28 with fail
           refine wp_region_noPanic ?_
           refine wp_region_held_drew (S:=fun V=>w8.grownBy V none) (by kernel_rfl) h0 (fun _ => ?_)
           refine tq 0 75 (.move (.tmp 10)) ((.int .i64 (-1))) h0 ?_
           refine tq 1 76 (.binOp .lss 3 (.tmp 75) (.const (.int .i64 0)) 3) ((.bool true)) h0 ?_
           refine tq 2 77 (.move (.tmp 76)) ((.bool true)) h0 ?_
           refine tz 3 78 (.move (.tmp 6)) undef h0 ?_ (y:=(Or.inr ⟨by rfl,rfl⟩))
           (try simp only[pq])
           refine tz 4 79 (.move (.tmp 13)) undef h0 ?_ (y:=(Or.inr ⟨by rfl,rfl⟩))
           refine tz 5 80 (.indexAddr 67 (.tmp 78) (.tmp 79)) undef h0 ?_ (y:=(Or.inr ⟨by rfl,rfl⟩))
           refine tz 6 81 (.load 9 (.tmp 80)) undef h0 ?_ (y:=(Or.inr ⟨by rfl,rfl⟩))
           refine tz 7 82 (.move (.tmp 6)) undef h0 ?_ (y:=(Or.inr ⟨by rfl,rfl⟩))
           (try simp only[pq])
           refine tz 8 83 (.move (.tmp 10)) undef h0 ?_ (y:=(Or.inr ⟨by rfl,rfl⟩))
           refine tz 9 84 (.indexAddr 67 (.tmp 82) (.tmp 83)) undef h0 ?_ (y:=(Or.inr ⟨by rfl,rfl⟩))
           refine tz 10 85 (.load 9 (.tmp 84)) undef h0 ?_ (y:=(Or.inr ⟨by rfl,rfl⟩))
           refine tz 11 86 (.binOp .gtr 9 (.tmp 81) (.tmp 85) 9) undef h0 ?_ (y:=(Or.inr ⟨by rfl,rfl⟩))
           (try simp only[pq])
           refine tq 12 87 (.pick (.tmp 77) (.const (.bool true)) (.tmp 86)) ((.bool true)) h0 ?_
           refine tq 13 88 (.move (.tmp 87)) ((.bool true)) h0 ?_
           refine tq 14 89 (.move (.tmp 12)) ((.int .i64 (-1))) h0 ?_
           refine tq 15 90 (.binOp .lss 3 (.tmp 89) (.const (.int .i64 0)) 3) ((.bool true)) h0 ?_
           (try simp only[pq])
           refine tq 16 91 (.move (.tmp 90)) ((.bool true)) h0 ?_
           refine tz 17 92 (.move (.tmp 6)) undef h0 ?_ (y:=(Or.inr ⟨by rfl,rfl⟩))
           refine tz 18 93 (.move (.tmp 13)) undef h0 ?_ (y:=(Or.inr ⟨by rfl,rfl⟩))
           refine tz 19 94 (.indexAddr 67 (.tmp 92) (.tmp 93)) undef h0 ?_ (y:=(Or.inr ⟨by rfl,rfl⟩))
           (try simp only[pq])
           refine tz 20 95 (.load 9 (.tmp 94)) undef h0 ?_ (y:=(Or.inr ⟨by rfl,rfl⟩))
           refine tz 21 96 (.move (.tmp 6)) undef h0 ?_ (y:=(Or.inr ⟨by rfl,rfl⟩))
           refine tz 22 97 (.move (.tmp 12)) undef h0 ?_ (y:=(Or.inr ⟨by rfl,rfl⟩))
           refine tz 23 98 (.indexAddr 67 (.tmp 96) (.tmp 97)) undef h0 ?_ (y:=(Or.inr ⟨by rfl,rfl⟩))
           (try simp only[pq])
           refine tz 24 99 (.load 9 (.tmp 98)) undef h0 ?_ (y:=(Or.inr ⟨by rfl,rfl⟩))
           refine tz 25 100 (.binOp .lss 9 (.tmp 95) (.tmp 99) 9) undef h0 ?_ (y:=(Or.inr ⟨by rfl,rfl⟩))
           refine tq 26 101 (.pick (.tmp 91) (.const (.bool true)) (.tmp 100)) ((.bool true)) h0 ?_
           refine tq 27 102 (.pick (.tmp 88) (.tmp 101) (.const (.bool false))) ((.bool true)) h0 ?_
           (try simp only[pq])
           refine wpAnyH_done (by kernel_rfl) ?_ _
           refine NoPanic.normal ?_
           go_wp2_with fail
           go_roundw
           case rel=>exact ⟨q+1,_,by go_num,by omega,rfl,⟨uh HNB,h0⟩⟩
           case measure=>simp[intOf];omega
          ·subst hb9
           have hb9z:¬ (b9:Int)<0:=by omega
           have hb9d:decide ((b9:Int)<0)=false:=by simp
           have hb9m:(b9:Int)<(n:Int):=by omega
           have hcb:=uh HC2 b9 (by omega)
           obtain ⟨TB,hTB⟩:∃ T,T=str (nmAt P b9):=⟨_,rfl⟩
           rw[← hTB] at hcb
           have hLB:TB.toList=nmAt P b9:=by rw[hTB,za3]
           have HCB:=hide hcb
           clear hcb hTB
           cases hcmp:zaw (nmAt P q) (nmAt P b9) with
           | true =>
            have HNB:=hide ((uh HE).1.better (uh HQN) hcmp)
            have hl2:Op.bytesLess (nmAt P q) (nmAt P b9)=true:=hcmp
            clear hcmp
            go_upto_region 28 with fail
            refine wp_region_noPanic ?_
            refine wp_region_held_drew (S:=fun V=>w8.grownBy V none) (by kernel_rfl) h0 (fun _ => ?_)
            refine tq 0 75 (.move (.tmp 10)) ((.int .i64 (-1))) h0 ?_
            refine tq 1 76 (.binOp .lss 3 (.tmp 75) (.const (.int .i64 0)) 3) ((.bool true)) h0 ?_
            refine tq 2 77 (.move (.tmp 76)) ((.bool true)) h0 ?_
            refine tz 3 78 (.move (.tmp 6)) undef h0 ?_ (y:=(Or.inr ⟨by rfl,rfl⟩))
            (try simp only[pq])
            refine tz 4 79 (.move (.tmp 13)) undef h0 ?_ (y:=(Or.inr ⟨by rfl,rfl⟩))
            refine tz 5 80 (.indexAddr 67 (.tmp 78) (.tmp 79)) undef h0 ?_ (y:=(Or.inr ⟨by rfl,rfl⟩))
            refine tz 6 81 (.load 9 (.tmp 80)) undef h0 ?_ (y:=(Or.inr ⟨by rfl,rfl⟩))
            refine tz 7 82 (.move (.tmp 6)) undef h0 ?_ (y:=(Or.inr ⟨by rfl,rfl⟩))
            (try simp only[pq])
            refine tz 8 83 (.move (.tmp 10)) undef h0 ?_ (y:=(Or.inr ⟨by rfl,rfl⟩))
            refine tz 9 84 (.indexAddr 67 (.tmp 82) (.tmp 83)) undef h0 ?_ (y:=(Or.inr ⟨by rfl,rfl⟩))
            refine tz 10 85 (.load 9 (.tmp 84)) undef h0 ?_ (y:=(Or.inr ⟨by rfl,rfl⟩))
            refine tz 11 86 (.binOp .gtr 9 (.tmp 81) (.tmp 85) 9) undef h0 ?_ (y:=(Or.inr ⟨by rfl,rfl⟩))
            (try simp only[pq])
            refine tq 12 87 (.pick (.tmp 77) (.const (.bool true)) (.tmp 86)) ((.bool true)) h0 ?_
            refine tq 13 88 (.move (.tmp 87)) ((.bool true)) h0 ?_
            refine tq 14 89 (.move (.tmp 12)) ((.int .i64 (b9:Int))) h0 ?_
            refine tq 15 90 (.binOp .lss 3 (.tmp 89) (.const (.int .i64 0)) 3) ((.bool false)) h0 ?_
            (try simp only[pq])
            refine tq 16 91 (.move (.tmp 90)) ((.bool false)) h0 ?_
            refine tq 17 92 (.move (.tmp 6)) ((.slice (some ⟨ib,0,none⟩) n ic)) h0 ?_
            refine tq 18 93 (.move (.tmp 13)) ((.int .i64 (q:Int))) h0 ?_
            refine tq 19 94 (.indexAddr 67 (.tmp 92) (.tmp 93)) ((.pointer (some ⟨ib,q,none⟩))) h0 ?_
            (try simp only[pq])
            refine tz 20 95 (.load 9 (.tmp 94)) ((.string TQ)) h0 ?_ (y:=(Or.inl ⟨by rfl,fun V hV=>by (have hv1:=uh HCQ V hV;go_simp)⟩))
            refine tq 21 96 (.move (.tmp 6)) ((.slice (some ⟨ib,0,none⟩) n ic)) h0 ?_
            refine tq 22 97 (.move (.tmp 12)) ((.int .i64 (b9:Int))) h0 ?_
            refine tq 23 98 (.indexAddr 67 (.tmp 96) (.tmp 97)) ((.pointer (some ⟨ib,b9,none⟩))) h0 ?_
            (try simp only[pq])
            refine tz 24 99 (.load 9 (.tmp 98)) ((.string TB)) h0 ?_ (y:=(Or.inl ⟨by rfl,fun V hV=>by (have hv1:=uh HCB V hV;go_simp)⟩))
            refine tq 25 100 (.binOp .lss 9 (.tmp 95) (.tmp 99) 9) ((.bool true)) h0 ?_
            refine tq 26 101 (.pick (.tmp 91) (.const (.bool true)) (.tmp 100)) ((.bool true)) h0 ?_
            refine tq 27 102 (.pick (.tmp 88) (.tmp 101) (.const (.bool false))) ((.bool true)) h0 ?_
            (try simp only[pq])
            refine wpAnyH_done (by kernel_rfl) ?_ _
            refine NoPanic.normal ?_
            go_wp2_with fail
            go_roundw
            case rel=>exact ⟨q+1,_,by go_num,by omega,rfl,⟨uh HNB,h0⟩⟩
            case measure=>simp[intOf];omega
           | false =>
            have HNB:=hide ((uh HE).1.worse hcmp)
            have hl2:Op.bytesLess (nmAt P q) (nmAt P b9)=false:=hcmp
            clear hcmp
            go_upto_region 28 with fail
            refine wp_region_noPanic ?_
            refine wp_region_held_drew (S:=fun V=>w8.grownBy V none) (by kernel_rfl) h0 (fun _ => ?_)
            refine tq 0 75 (.move (.tmp 10)) ((.int .i64 (-1))) h0 ?_
            refine tq 1 76 (.binOp .lss 3 (.tmp 75) (.const (.int .i64 0)) 3) ((.bool true)) h0 ?_
            refine tq 2 77 (.move (.tmp 76)) ((.bool true)) h0 ?_
            refine tz 3 78 (.move (.tmp 6)) undef h0 ?_ (y:=(Or.inr ⟨by rfl,rfl⟩))
            (try simp only[pq])
            refine tz 4 79 (.move (.tmp 13)) undef h0 ?_ (y:=(Or.inr ⟨by rfl,rfl⟩))
            refine tz 5 80 (.indexAddr 67 (.tmp 78) (.tmp 79)) undef h0 ?_ (y:=(Or.inr ⟨by rfl,rfl⟩))
            refine tz 6 81 (.load 9 (.tmp 80)) undef h0 ?_ (y:=(Or.inr ⟨by rfl,rfl⟩))
            refine tz 7 82 (.move (.tmp 6)) undef h0 ?_ (y:=(Or.inr ⟨by rfl,rfl⟩))
            (try simp only[pq])
            refine tz 8 83 (.move (.tmp 10)) undef h0 ?_ (y:=(Or.inr ⟨by rfl,rfl⟩))
            refine tz 9 84 (.indexAddr 67 (.tmp 82) (.tmp 83)) undef h0 ?_ (y:=(Or.inr ⟨by rfl,rfl⟩))
            refine tz 10 85 (.load 9 (.tmp 84)) undef h0 ?_ (y:=(Or.inr ⟨by rfl,rfl⟩))
            refine tz 11 86 (.binOp .gtr 9 (.tmp 81) (.tmp 85) 9) undef h0 ?_ (y:=(Or.inr ⟨by rfl,rfl⟩))
            (try simp only[pq])
            refine tq 12 87 (.pick (.tmp 77) (.const (.bool true)) (.tmp 86)) ((.bool true)) h0 ?_
            refine tq 13 88 (.move (.tmp 87)) ((.bool true)) h0 ?_
            refine tq 14 89 (.move (.tmp 12)) ((.int .i64 (b9:Int))) h0 ?_
            refine tq 15 90 (.binOp .lss 3 (.tmp 89) (.const (.int .i64 0)) 3) ((.bool false)) h0 ?_
            (try simp only[pq])
            refine tq 16 91 (.move (.tmp 90)) ((.bool false)) h0 ?_
            refine tq 17 92 (.move (.tmp 6)) ((.slice (some ⟨ib,0,none⟩) n ic)) h0 ?_
            refine tq 18 93 (.move (.tmp 13)) ((.int .i64 (q:Int))) h0 ?_
            refine tq 19 94 (.indexAddr 67 (.tmp 92) (.tmp 93)) ((.pointer (some ⟨ib,q,none⟩))) h0 ?_
            (try simp only[pq])
            refine tz 20 95 (.load 9 (.tmp 94)) ((.string TQ)) h0 ?_ (y:=(Or.inl ⟨by rfl,fun V hV=>by (have hv1:=uh HCQ V hV;go_simp)⟩))
            refine tq 21 96 (.move (.tmp 6)) ((.slice (some ⟨ib,0,none⟩) n ic)) h0 ?_
            refine tq 22 97 (.move (.tmp 12)) ((.int .i64 (b9:Int))) h0 ?_
            refine tq 23 98 (.indexAddr 67 (.tmp 96) (.tmp 97)) ((.pointer (some ⟨ib,b9,none⟩))) h0 ?_
            (try simp only[pq])
            refine tz 24 99 (.load 9 (.tmp 98)) ((.string TB)) h0 ?_ (y:=(Or.inl ⟨by rfl,fun V hV=>by (have hv1:=uh HCB V hV;go_simp)⟩))
            refine tq 25 100 (.binOp .lss 9 (.tmp 95) (.tmp 99) 9) ((.bool false)) h0 ?_
            refine tq 26 101 (.pick (.tmp 91) (.const (.bool true)) (.tmp 100)) ((.bool false)) h0 ?_
            refine tq 27 102 (.pick (.tmp 88) (.tmp 101) (.const (.bool false))) ((.bool false)) h0 ?_
            (try simp only[pq])
            refine wpAnyH_done (by kernel_rfl) ?_ _
            refine NoPanic.normal ?_
            go_wp2_with fail
            go_roundw
            case rel=>exact ⟨q+1,_,by go_num,by omega,rfl,⟨uh HNB,h0⟩⟩
            case measure=>simp[intOf];omega
         ·rw[hla]
          have hpz:¬ (p:Int)<0:=by omega
          have hpd:decide ((p:Int)<0)=false:=by simp
          have hpm:(p:Int)<(n:Int):=by have:=uh HPL;omega
          have hcl:=uh HC2 p (by have:=uh HPL;omega)
          obtain ⟨TL,hTL⟩:∃ T,T=str (nmAt P p):=⟨_,rfl⟩
          rw[← hTL] at hcl
          have hLL:TL.toList=nmAt P p:=by rw[hTL,za3]
          have HCL:=hide hcl
          clear hcl hTL hla hpn
          cases hgt:zaw (nmAt P p) (nmAt P q) with
          | true =>
           have HQN:=hide (hQ.1 hgt)
           have hg5:=zsa hgt
           clear hQ hgt
           rcases zju (uh HE).1 with hb9 | ⟨b9,hb9,hb9n⟩
           ·subst hb9
            have HNB:=hide ((uh HE).1.first (uh HQN))
            go_upto_region 28 with fail
            refine wp_region_noPanic ?_
            refine wp_region_held_drew (S:=fun V=>w8.grownBy V none) (by kernel_rfl) h0 (fun _ => ?_)
            refine tq 0 75 (.move (.tmp 10)) ((.int .i64 (p:Int))) h0 ?_
            refine tq 1 76 (.binOp .lss 3 (.tmp 75) (.const (.int .i64 0)) 3) ((.bool false)) h0 ?_
            refine tq 2 77 (.move (.tmp 76)) ((.bool false)) h0 ?_
            refine tq 3 78 (.move (.tmp 6)) ((.slice (some ⟨ib,0,none⟩) n ic)) h0 ?_
            (try simp only[pq])
            refine tq 4 79 (.move (.tmp 13)) ((.int .i64 (q:Int))) h0 ?_
            refine tq 5 80 (.indexAddr 67 (.tmp 78) (.tmp 79)) ((.pointer (some ⟨ib,q,none⟩))) h0 ?_
            refine tz 6 81 (.load 9 (.tmp 80)) ((.string TQ)) h0 ?_ (y:=(Or.inl ⟨by rfl,fun V hV=>by (have hv1:=uh HCQ V hV;go_simp)⟩))
            refine tq 7 82 (.move (.tmp 6)) ((.slice (some ⟨ib,0,none⟩) n ic)) h0 ?_
            (try simp only[pq])
            refine tq 8 83 (.move (.tmp 10)) ((.int .i64 (p:Int))) h0 ?_
            refine tq 9 84 (.indexAddr 67 (.tmp 82) (.tmp 83)) ((.pointer (some ⟨ib,p,none⟩))) h0 ?_
            refine tz 10 85 (.load 9 (.tmp 84)) ((.string TL)) h0 ?_ (y:=(Or.inl ⟨by rfl,fun V hV=>by (have hv1:=uh HCL V hV;go_simp)⟩))
            refine tz 11 86 (.binOp .gtr 9 (.tmp 81) (.tmp 85) 9) ((.bool true)) h0 ?_ (y:=(Or.inl ⟨by rfl,fun V hV=>by (go_simp;try exact hg5)⟩))
            (try simp only[pq])
            refine tq 12 87 (.pick (.tmp 77) (.const (.bool true)) (.tmp 86)) ((.bool true)) h0 ?_
            refine tq 13 88 (.move (.tmp 87)) ((.bool true)) h0 ?_
            refine tq 14 89 (.move (.tmp 12)) ((.int .i64 (-1))) h0 ?_
            refine tq 15 90 (.binOp .lss 3 (.tmp 89) (.const (.int .i64 0)) 3) ((.bool true)) h0 ?_
            (try simp only[pq])
            refine tq 16 91 (.move (.tmp 90)) ((.bool true)) h0 ?_
            refine tz 17 92 (.move (.tmp 6)) undef h0 ?_ (y:=(Or.inr ⟨by rfl,rfl⟩))
            refine tz 18 93 (.move (.tmp 13)) undef h0 ?_ (y:=(Or.inr ⟨by rfl,rfl⟩))
            refine tz 19 94 (.indexAddr 67 (.tmp 92) (.tmp 93)) undef h0 ?_ (y:=(Or.inr ⟨by rfl,rfl⟩))
            (try simp only[pq])
            refine tz 20 95 (.load 9 (.tmp 94)) undef h0 ?_ (y:=(Or.inr ⟨by rfl,rfl⟩))
            refine tz 21 96 (.move (.tmp 6)) undef h0 ?_ (y:=(Or.inr ⟨by rfl,rfl⟩))
            refine tz 22 97 (.move (.tmp 12)) undef h0 ?_ (y:=(Or.inr ⟨by rfl,rfl⟩))
            refine tz 23 98 (.indexAddr 67 (.tmp 96) (.tmp 97)) undef h0 ?_ (y:=(Or.inr ⟨by rfl,rfl⟩))
            (try simp only[pq])
            refine tz 24 99 (.load 9 (.tmp 98)) undef h0 ?_ (y:=(Or.inr ⟨by rfl,rfl⟩))
            refine tz 25 100 (.binOp .lss 9 (.tmp 95) (.tmp 99) 9) undef h0 ?_ (y:=(Or.inr ⟨by rfl,rfl⟩))
            refine tq 26 101 (.pick (.tmp 91) (.const (.bool true)) (.tmp 100)) ((.bool true)) h0 ?_
            refine tq 27 102 (.pick (.tmp 88) (.tmp 101) (.const (.bool false))) ((.bool true)) h0 ?_
            (try simp only[pq])
            refine wpAnyH_done (by kernel_rfl) ?_ _
            refine NoPanic.normal ?_
            go_wp2_with fail
            go_roundw
            case rel=>exact ⟨q+1,_,by go_num,by omega,rfl,⟨uh HNB,h0⟩⟩
            case measure=>simp[intOf];omega
           ·subst hb9
            have hb9z:¬ (b9:Int)<0:=by omega
            have hb9d:decide ((b9:Int)<0)=false:=by simp
            have hb9m:(b9:Int)<(n:Int):=by omega
            have hcb:=uh HC2 b9 (by omega)
            obtain ⟨TB,hTB⟩:∃ T,T=str (nmAt P b9):=⟨_,rfl⟩
            rw[← hTB] at hcb
            have hLB:TB.toList=nmAt P b9:=by rw[hTB,za3]
            have HCB:=hide hcb
            clear hcb hTB
            cases hcmp:zaw (nmAt P q) (nmAt P b9) with
            | true =>
             have HNB:=hide ((uh HE).1.better (uh HQN) hcmp)
             have hl2:Op.bytesLess (nmAt P q) (nmAt P b9)=true:=hcmp
             clear hcmp
             go_upto_region 28 with fail
             refine wp_region_noPanic ?_
             refine wp_region_held_drew (S:=fun V=>w8.grownBy V none) (by kernel_rfl) h0 (fun _ => ?_)
             refine tq 0 75 (.move (.tmp 10)) ((.int .i64 (p:Int))) h0 ?_
             refine tq 1 76 (.binOp .lss 3 (.tmp 75) (.const (.int .i64 0)) 3) ((.bool false)) h0 ?_
             refine tq 2 77 (.move (.tmp 76)) ((.bool false)) h0 ?_
             refine tq 3 78 (.move (.tmp 6)) ((.slice (some ⟨ib,0,none⟩) n ic)) h0 ?_
             (try simp only[pq])
             refine tq 4 79 (.move (.tmp 13)) ((.int .i64 (q:Int))) h0 ?_
             refine tq 5 80 (.indexAddr 67 (.tmp 78) (.tmp 79)) ((.pointer (some ⟨ib,q,none⟩))) h0 ?_
             refine tz 6 81 (.load 9 (.tmp 80)) ((.string TQ)) h0 ?_ (y:=(Or.inl ⟨by rfl,fun V hV=>by (have hv1:=uh HCQ V hV;go_simp)⟩))
             refine tq 7 82 (.move (.tmp 6)) ((.slice (some ⟨ib,0,none⟩) n ic)) h0 ?_
             (try simp only[pq])
             refine tq 8 83 (.move (.tmp 10)) ((.int .i64 (p:Int))) h0 ?_
             refine tq 9 84 (.indexAddr 67 (.tmp 82) (.tmp 83)) ((.pointer (some ⟨ib,p,none⟩))) h0 ?_
             refine tz 10 85 (.load 9 (.tmp 84)) ((.string TL)) h0 ?_ (y:=(Or.inl ⟨by rfl,fun V hV=>by (have hv1:=uh HCL V hV;go_simp)⟩))
             refine tz 11 86 (.binOp .gtr 9 (.tmp 81) (.tmp 85) 9) ((.bool true)) h0 ?_ (y:=(Or.inl ⟨by rfl,fun V hV=>by (go_simp;try exact hg5)⟩))
             (try simp only[pq])
             refine tq 12 87 (.pick (.tmp 77) (.const (.bool true)) (.tmp 86)) ((.bool true)) h0 ?_
             refine tq 13 88 (.move (.tmp 87)) ((.bool true)) h0 ?_
             refine tq 14 89 (.move (.tmp 12)) ((.int .i64 (b9:Int))) h0 ?_
             refine tq 15 90 (.binOp .lss 3 (.tmp 89) (.const (.int .i64 0)) 3) ((.bool false)) h0 ?_
             (try simp only[pq])
             refine tq 16 91 (.move (.tmp 90)) ((.bool false)) h0 ?_
             refine tq 17 92 (.move (.tmp 6)) ((.slice (some ⟨ib,0,none⟩) n ic)) h0 ?_
             refine tq 18 93 (.move (.tmp 13)) ((.int .i64 (q:Int))) h0 ?_
             refine tq 19 94 (.indexAddr 67 (.tmp 92) (.tmp 93)) ((.pointer (some ⟨ib,q,none⟩))) h0 ?_
             (try simp only[pq])
             refine tz 20 95 (.load 9 (.tmp 94)) ((.string TQ)) h0 ?_ (y:=(Or.inl ⟨by rfl,fun V hV=>by (have hv1:=uh HCQ V hV;go_simp)⟩))
             refine tq 21 96 (.move (.tmp 6)) ((.slice (some ⟨ib,0,none⟩) n ic)) h0 ?_
             refine tq 22 97 (.move (.tmp 12)) ((.int .i64 (b9:Int))) h0 ?_
             refine tq 23 98 (.indexAddr 67 (.tmp 96) (.tmp 97)) ((.pointer (some ⟨ib,b9,none⟩))) h0 ?_
             (try simp only[pq])
             refine tz 24 99 (.load 9 (.tmp 98)) ((.string TB)) h0 ?_ (y:=(Or.inl ⟨by rfl,fun V hV=>by (have hv1:=uh HCB V hV;go_simp)⟩))
             refine tq 25 100 (.binOp .lss 9 (.tmp 95) (.tmp 99) 9) ((.bool true)) h0 ?_
             refine tq 26 101 (.pick (.tmp 91) (.const (.bool true)) (.tmp 100)) ((.bool true)) h0 ?_
             refine tq 27 102 (.pick (.tmp 88) (.tmp 101) (.const (.bool false))) ((.bool true)) h0 ?_
             (try simp only[pq])
             refine wpAnyH_done (by kernel_rfl) ?_ _
             refine NoPanic.normal ?_
             go_wp2_with fail
             go_roundw
             case rel=>exact ⟨q+1,_,by go_num,by omega,rfl,⟨uh HNB,h0⟩⟩
             case measure=>simp[intOf];omega
            | false =>
             have HNB:=hide ((uh HE).1.worse hcmp)
             have hl2:Op.bytesLess (nmAt P q) (nmAt P b9)=false:=hcmp
             clear hcmp
             go_upto_region 28 with fail
             refine wp_region_noPanic ?_
             refine wp_region_held_drew (S:=fun V=>w8.grownBy V none) (by kernel_rfl) h0 (fun _ => ?_)
             refine tq 0 75 (.move (.tmp 10)) ((.int .i64 (p:Int))) h0 ?_
             refine tq 1 76 (.binOp .lss 3 (.tmp 75) (.const (.int .i64 0)) 3) ((.bool false)) h0 ?_
             refine tq 2 77 (.move (.tmp 76)) ((.bool false)) h0 ?_
             refine tq 3 78 (.move (.tmp 6)) ((.slice (some ⟨ib,0,none⟩) n ic)) h0 ?_
             (try simp only[pq])
             refine tq 4 79 (.move (.tmp 13)) ((.int .i64 (q:Int))) h0 ?_
             refine tq 5 80 (.indexAddr 67 (.tmp 78) (.tmp 79)) ((.pointer (some ⟨ib,q,none⟩))) h0 ?_
             refine tz 6 81 (.load 9 (.tmp 80)) ((.string TQ)) h0 ?_ (y:=(Or.inl ⟨by rfl,fun V hV=>by (have hv1:=uh HCQ V hV;go_simp)⟩))
             refine tq 7 82 (.move (.tmp 6)) ((.slice (some ⟨ib,0,none⟩) n ic)) h0 ?_
             (try simp only[pq])
             refine tq 8 83 (.move (.tmp 10)) ((.int .i64 (p:Int))) h0 ?_
             refine tq 9 84 (.indexAddr 67 (.tmp 82) (.tmp 83)) ((.pointer (some ⟨ib,p,none⟩))) h0 ?_
             refine tz 10 85 (.load 9 (.tmp 84)) ((.string TL)) h0 ?_ (y:=(Or.inl ⟨by rfl,fun V hV=>by (have hv1:=uh HCL V hV;go_simp)⟩))
             refine tz 11 86 (.binOp .gtr 9 (.tmp 81) (.tmp 85) 9) ((.bool true)) h0 ?_ (y:=(Or.inl ⟨by rfl,fun V hV=>by (go_simp;try exact hg5)⟩))
             (try simp only[pq])
             refine tq 12 87 (.pick (.tmp 77) (.const (.bool true)) (.tmp 86)) ((.bool true)) h0 ?_
             refine tq 13 88 (.move (.tmp 87)) ((.bool true)) h0 ?_
             refine tq 14 89 (.move (.tmp 12)) ((.int .i64 (b9:Int))) h0 ?_
             refine tq 15 90 (.binOp .lss 3 (.tmp 89) (.const (.int .i64 0)) 3) ((.bool false)) h0 ?_
             (try simp only[pq])
             refine tq 16 91 (.move (.tmp 90)) ((.bool false)) h0 ?_
             refine tq 17 92 (.move (.tmp 6)) ((.slice (some ⟨ib,0,none⟩) n ic)) h0 ?_
             refine tq 18 93 (.move (.tmp 13)) ((.int .i64 (q:Int))) h0 ?_
             refine tq 19 94 (.indexAddr 67 (.tmp 92) (.tmp 93)) ((.pointer (some ⟨ib,q,none⟩))) h0 ?_
             (try simp only[pq])
             refine tz 20 95 (.load 9 (.tmp 94)) ((.string TQ)) h0 ?_ (y:=(Or.inl ⟨by rfl,fun V hV=>by (have hv1:=uh HCQ V hV;go_simp)⟩))
             refine tq 21 96 (.move (.tmp 6)) ((.slice (some ⟨ib,0,none⟩) n ic)) h0 ?_
             refine tq 22 97 (.move (.tmp 12)) ((.int .i64 (b9:Int))) h0 ?_
             refine tq 23 98 (.indexAddr 67 (.tmp 96) (.tmp 97)) ((.pointer (some ⟨ib,b9,none⟩))) h0 ?_
             (try simp only[pq])
             refine tz 24 99 (.load 9 (.tmp 98)) ((.string TB)) h0 ?_ (y:=(Or.inl ⟨by rfl,fun V hV=>by (have hv1:=uh HCB V hV;go_simp)⟩))
             refine tq 25 100 (.binOp .lss 9 (.tmp 95) (.tmp 99) 9) ((.bool false)) h0 ?_
             refine tq 26 101 (.pick (.tmp 91) (.const (.bool true)) (.tmp 100)) ((.bool false)) h0 ?_
             refine tq 27 102 (.pick (.tmp 88) (.tmp 101) (.const (.bool false))) ((.bool false)) h0 ?_
             (try simp only[pq])
             refine wpAnyH_done (by kernel_rfl) ?_ _
             refine NoPanic.normal ?_
             go_wp2_with fail
             go_roundw
             case rel=>exact ⟨q+1,_,by go_num,by omega,rfl,⟨uh HNB,h0⟩⟩
             case measure=>simp[intOf];omega
          | false =>
           have HQI:=hide (hQ.2 hgt)
           have hg5:=zqa hgt
           clear hQ hgt
           have HNB:=hide ((uh HE).1.skip (uh HQI))
           go_upto_region 28 with fail
           refine wp_region_noPanic ?_
           refine wp_region_held_drew (S:=fun V=>w8.grownBy V none) (by kernel_rfl) h0 (fun _ => ?_)
           refine tq 0 75 (.move (.tmp 10)) ((.int .i64 (p:Int))) h0 ?_
           refine tq 1 76 (.binOp .lss 3 (.tmp 75) (.const (.int .i64 0)) 3) ((.bool false)) h0 ?_
           refine tq 2 77 (.move (.tmp 76)) ((.bool false)) h0 ?_
           refine tq 3 78 (.move (.tmp 6)) ((.slice (some ⟨ib,0,none⟩) n ic)) h0 ?_
           (try simp only[pq])
           refine tq 4 79 (.move (.tmp 13)) ((.int .i64 (q:Int))) h0 ?_
           refine tq 5 80 (.indexAddr 67 (.tmp 78) (.tmp 79)) ((.pointer (some ⟨ib,q,none⟩))) h0 ?_
           refine tz 6 81 (.load 9 (.tmp 80)) ((.string TQ)) h0 ?_ (y:=(Or.inl ⟨by rfl,fun V hV=>by (have hv1:=uh HCQ V hV;go_simp)⟩))
           refine tq 7 82 (.move (.tmp 6)) ((.slice (some ⟨ib,0,none⟩) n ic)) h0 ?_
           (try simp only[pq])
           refine tq 8 83 (.move (.tmp 10)) ((.int .i64 (p:Int))) h0 ?_
           refine tq 9 84 (.indexAddr 67 (.tmp 82) (.tmp 83)) ((.pointer (some ⟨ib,p,none⟩))) h0 ?_
           refine tz 10 85 (.load 9 (.tmp 84)) ((.string TL)) h0 ?_ (y:=(Or.inl ⟨by rfl,fun V hV=>by (have hv1:=uh HCL V hV;go_simp)⟩))
           refine tz 11 86 (.binOp .gtr 9 (.tmp 81) (.tmp 85) 9) ((.bool false)) h0 ?_ (y:=(Or.inl ⟨by rfl,fun V hV=>by (go_simp;try exact hg5)⟩))
           (try simp only[pq])
           refine tq 12 87 (.pick (.tmp 77) (.const (.bool true)) (.tmp 86)) ((.bool false)) h0 ?_
           refine tq 13 88 (.move (.tmp 87)) ((.bool false)) h0 ?_
           refine tz 14 89 (.move (.tmp 12)) undef h0 ?_ (y:=(Or.inr ⟨by rfl,rfl⟩))
           refine tz 15 90 (.binOp .lss 3 (.tmp 89) (.const (.int .i64 0)) 3) undef h0 ?_ (y:=(Or.inr ⟨by rfl,rfl⟩))
           (try simp only[pq])
           refine tz 16 91 (.move (.tmp 90)) undef h0 ?_ (y:=(Or.inr ⟨by rfl,rfl⟩))
           refine tz 17 92 (.move (.tmp 6)) undef h0 ?_ (y:=(Or.inr ⟨by rfl,rfl⟩))
           refine tz 18 93 (.move (.tmp 13)) undef h0 ?_ (y:=(Or.inr ⟨by rfl,rfl⟩))
           refine tz 19 94 (.indexAddr 67 (.tmp 92) (.tmp 93)) undef h0 ?_ (y:=(Or.inr ⟨by rfl,rfl⟩))
           (try simp only[pq])
           refine tz 20 95 (.load 9 (.tmp 94)) undef h0 ?_ (y:=(Or.inr ⟨by rfl,rfl⟩))
           refine tz 21 96 (.move (.tmp 6)) undef h0 ?_ (y:=(Or.inr ⟨by rfl,rfl⟩))
           refine tz 22 97 (.move (.tmp 12)) undef h0 ?_ (y:=(Or.inr ⟨by rfl,rfl⟩))
           refine tz 23 98 (.indexAddr 67 (.tmp 96) (.tmp 97)) undef h0 ?_ (y:=(Or.inr ⟨by rfl,rfl⟩))
           (try simp only[pq])
           refine tz 24 99 (.load 9 (.tmp 98)) undef h0 ?_ (y:=(Or.inr ⟨by rfl,rfl⟩))
           refine tz 25 100 (.binOp .lss 9 (.tmp 95) (.tmp 99) 9) undef h0 ?_ (y:=(Or.inr ⟨by rfl,rfl⟩))
           refine tz 26 101 (.pick (.tmp 91) (.const (.bool true)) (.tmp 100)) undef h0 ?_ (y:=(Or.inr ⟨by rfl,rfl⟩))
           refine tq 27 102 (.pick (.tmp 88) (.tmp 101) (.const (.bool false))) ((.bool false)) h0 ?_
           (try simp only[pq])
           refine wpAnyH_done (by kernel_rfl) ?_ _
           refine NoPanic.normal ?_
           go_wp2_with fail
           go_roundw
           case rel=>exact ⟨q+1,_,by go_num,by omega,rfl,⟨uh HNB,h0⟩⟩
           case measure=>simp[intOf];omega
        ·have hqz:¬ (q:Int)<(n:Int):=by omega
         have hqn2:q=P.length:=by rw[uh HPL];omega
         obtain ⟨b9,hb9,hb9n,hSel2⟩:=(show Bst P Q P.length bs by rw[← hqn2];exact (uh HE).1).sel (uh HD) (uh HSel) (by rw[(uh HR).2.1,uh HPL];exact hj)
         subst hb9
         rw[uh HPL] at hb9n
         obtain ⟨k9,d9,ob,oo,hao,hP9,hrow9⟩:=uh HPG b9 hb9n
         subst hao
         have hr9:=hrow9 wr (tn (tn (uh HG2) (uh HG8)) (uh HE).2)
         obtain ⟨hbP,hP9b⟩:=List.getElem?_eq_some_iff.1 hP9
         have hok9:OkO (k9,d9):=uh HALL _ (by rw[← hP9b];exact List.getElem_mem _)
         have hd9:d9.length≤16384:=by obtain ⟨_,_,_,_,h⟩:=zfw hok9;exact h
         have cp:=zpn wr k9 d9 (by omega)
         obtain ⟨OB,hOB⟩:∃ O,O=obB (k9,d9):=⟨_,rfl⟩
         rw[show putL k9 d9=OB by rw[hOB];rfl] at cp
         have hOBl:OB.length=5+d9.length:=by rw[hOB];exact zjo _
         obtain ⟨SD,hSD⟩:∃ S,S=str d9:=⟨_,rfl⟩
         obtain ⟨SB,hSB⟩:∃ S,S=str OB:=⟨_,rfl⟩
         rw[← hSD,← hSB] at cp
         rw[← hSD] at hr9
         obtain ⟨sb,hsb⟩:∃ z,SB.size=z:=⟨_,rfl⟩
         have hsb2:sb≤16389:=by rw[← hsb,hSB,zaj];omega
         have hsum:¬ 9223372036854775807<l9+sb:=by omega
         have hnew:SO++SB=str (zdq n++((Q++[b9]).map (obAt P)).flatMap obB):=by
          rw[(uh HR).1,hSB,zcf,hOB,List.map_append,List.flatMap_append,← List.append_assoc]
          congr 2
          rw[List.map_cons,List.map_nil,List.flatMap_cons,List.flatMap_nil,List.append_nil,zc0 hbP,hP9b]
         have hnl:(SO++SB).size=l9+sb:=by rw[ByteArray.size_append,hl9,hsb]
         obtain ⟨HNEW,HNL,HS2,HH⟩:=zh4 hnew hnl hSel2 hr9
         have hlast:(b9:Int)=znl (Q++[b9]):=(zhq _ _).symm
         have HLA:=hide hlast
         have HQL:=hide (show (Q++[b9]).length=j+1 by rw[List.length_append,(uh HR).2.1];rfl)
         clear hnew hnl hSel2 hr9 hlast hSB hSD hOBl hOB hok9 hd9 hP9 hP9b hrow9 hqn2 hbP
         go_wp2_with (first
          | (refine wpList_load_mid rfl 44 _ rfl ob (oo+b9*2) rfl [.int .i64 k9,.string SD] _ (uh HH) Tryz.underlying44 rfl hiO ?_;clear HH)
          | (go_at_call 28;refine cp.mono ?_;rintro e w4 ⟨rfl,g4⟩;have HG4:=hide (tn (uh HE).2 g4);clear g4 cp))
         go_roundw
         case rel=>exact ⟨j+1,Q++[b9],l9+sb,SO++SB,by go_num,by omega,by rw[uh HLA],rfl,uh HNL,by omega,⟨uh HNEW,uh HQL,uh HS2,uh HG4⟩⟩
         case measure=>simp[intOf];omega
      ·have hjz:¬ (j:Int)<(n:Int):=by omega
       have hjn2:n=j:=by omega
       have HJ:=hide hjn2
       clear hjn2
       go_wp2_with fail
       go_ret2
       obtain ⟨h1,h2,h3,h4⟩:=uh HR
       have hQl:Q.length=P.length:=by rw[h2,uh HPL,uh HJ]
       obtain ⟨p1,p2⟩:=h3.all hQl
       have hPk:PackOf (zdz (Q.map (obAt P))) (Q.map (obAt P)):=⟨by rw[List.length_map,hQl,uh HPL];exact hm,fun o ho=>uh HALL o (p1.mem_iff.1 ho),p2,rfl⟩
       have hb:zdq n++(Q.map (obAt P)).flatMap obB=zdz (Q.map (obAt P)):=by unfold zdz;rw[List.length_map,hQl,uh HPL]
       refine ⟨zdz (Q.map (obAt P)),0,by rw[h1,hb];rfl,(PutP.of hPk).perm p1,tn (tn (uh HG2) (uh HG8)) h4⟩
theorem zny (w:World) (base:Nat) (v:Value) (L:List ObE) (hO:Rob w base v L) (hm:L.length≤100000) :
  Calls Tryz.prog 9 #[v] w fun e w'=>∃ b y,e = .returned (.tuple #[.string (str b),.int .i64 y])∧PutP (L.map eOb) b y∧w.grownBy w' none:=by
 obtain ⟨ao,c,rfl,hR,-⟩:=hO.rws
 by_cases h:256<L.length
 ·refine (znv w ao c L.length h hm).mono ?_
  rintro e w' ⟨rfl,g⟩
  exact ⟨[],3,rfl,⟨by rw[zet,if_pos (by simpa using h)],fun _=>rfl,fun h=>absurd h (by decide)⟩,g⟩
 ·exact znx w ao c L hR (by omega)
end Go.Proofs.YtegbbkgmiklhcaaGreatDoor
