/- Lemmas. -/
import Derived.Test.YthhnfloohbdaiaaGreatDoorROId
import Derived.Test.YthhnfloohbdaiaaGreatDoorLOwn
import Derived.Deep.DeepCutAuto
import Derived.Test.YthhnfloohbdaiaaGreatDoorGMade
namespace Go.Proofs.YthhnfloohbdaiaaGreatDoor
open Go.RowKit
set_option maxRecDepth 100000
theorem zoj:∀ {S:List ObE} {e y:ObE} {k:Nat},S[k]? = some y→y.id=e.id→(∀ x∈S.take k,za8 x.id e.id=true)→putS S e=S.set k e
 | [],_,_,_,h,_,_=>by simp at h
 | x::l,e,y,0,h,he,_=>by
  simp at h
  subst h
  unfold putS
  rw[he,zf3]
  simp
 | x::l,e,y,k+1,h,he,h1=>by
  unfold putS
  rw[if_pos (h1 x (by simp)),zoj (S:=l) (k:=k) (by simpa using h) he (fun z hz=>h1 z (by simp[hz]))]
  rfl
theorem zl0:∀ {S:List ObE} {e:ObE} {k:Nat},(∀ x∈S.take k,za8 x.id e.id=true)→(∀ y,S[k]? = some y→za8 y.id e.id=false∧y.id≠e.id)→putS S e=S.take k++e::S.drop k
 | [],_,_,_,_=>by simp[putS]
 | x::l,e,0,_,h2=>by
  obtain ⟨a,b⟩:=h2 x rfl
  unfold putS
  rw[a]
  simp[b]
 | x::l,e,k+1,h1,h2=>by
  unfold putS
  rw[if_pos (h1 x (by simp)),zl0 (S:=l) (k:=k) (fun z hz=>h1 z (by simp[hz])) (fun y hy=>h2 y (by simpa using hy))]
  rfl
def roC (e:ObE):List Value:=[.int .i64 e.k,.string (str e.d)]
theorem zyg (e:ObE):∀ u∈roC e,u.oneCell'=true:=by
 intro u hu
 simp only[roC,List.mem_cons,List.not_mem_nil,or_false] at hu
 rcases hu with rfl | rfl <;> rfl
theorem ztj:(Tryz.prog.info? 47).map (fun i=>(i.zero,i.size,i.bytes))=some (some (.agg #[.int .i64 0,.string ⟨#[]⟩]),2,24):=by kernel_rfl
def Rob (w:World) (base:Nat) (v:Value) (L:List ObE):Prop:=w.ownsRow base 47 2 v L.length (L.flatMap roC)
theorem Rob.nil (w:World) (base:Nat):Rob w base (.slice none 0 0) []:=World.ownsRow_nil _ _ _ _
theorem Rob.kept {w a:World} {base:Nat} {v:Value} {L:List ObE} (h:Rob w base v L) (g:w.grownBy a none):Rob a base v L :=
 World.ownsRow.kept h g (by cases v.ownBlock <;> simp)
theorem Rob.rws {w:World} {base:Nat} {v:Value} {L:List ObE} (h:Rob w base v L):∃ ao c,v = .slice ao L.length c∧Rws w 2 roC ao c L∧∀ ad,ao=some ad→base≤ad.block :=
 Rws.own roC h (fun _ _=>rfl)
structure RSet (w:World) (base:Nat) (v1 v2:Value) (S:List ObE):Prop where
 ids:Stg w base v1 (idsS S)
 obs:Rob w base v2 S
theorem zok {w a:World} {base n K:Nat} {t:TypeId} {v:Value} {xs:List Value} (h:w.ownsRow base t K v n xs) (g:w.grownBy a none):a.ownsRow base t K v n xs :=
 h.kept g (by
  by_cases e:v.ownBlock=none
  ·exact Or.inl e
  ·exact Or.inr e)
theorem RSet.kept {w a:World} {base:Nat} {v1 v2:Value} {S:List ObE} (h:RSet w base v1 v2 S) (g:w.grownBy a none):RSet a base v1 v2 S:=⟨h.ids.kept g,h.obs.kept g⟩
theorem RSet.nil (w:World) (base:Nat):RSet w base (.slice none 0 0) (.slice none 0 0) []:=⟨Stg.nil _ _,Rob.nil _ _⟩
theorem RSet.low {w:World} {b1 b2:Nat} {v1 v2:Value} {S:List ObE} (h:RSet w b1 v1 v2 S) (hb:b2≤b1):RSet w b2 v1 v2 S:=⟨za7 h.ids hb,za7 h.obs hb⟩
theorem zax {w:World} {ops:Array Oper} {o:Oper} {a:Act} {K:Act→World→Prop} {Q:Exit→Act→World→Prop} {E:Prop} (hw:Region.wanted o (yielded ops a.tmps)=true) (s x:Operand)
  (ho:o.op = .call { callee := .builtin .append,args := #[s,x],argTypes := #[26,26] })
  (base:Nat) (v:Value) (L M:List ObE) (hs:a.eval s=v) (hown:Rob w base v L) (xo:Option Addr) (m c:Nat) (hx:a.eval x = .slice xo m c) (hm:m=M.length) (hM:Rws w 2 roC xo c M) (hn:L.length+M.length≤1000000) (hbase:base≤w.heap.size)
  (h:∀ v' w',Rob w' base v' (L++M)→w.grownBy w' v.ownBlock→K (a.put o.dst v') w'):if Region.wanted o (yielded ops a.tmps)=true then Oper.wp Tryz.prog o a w K Q else E:=by
 rw[if_pos hw]
 obtain ⟨i0,hi,hz0,hz1,hz2⟩:=info_parts ztj
 exact zf8 s x 26 47 ho i0 _ 2 24 Tryz.underlying26 hi hz0 hz1 hz2 rfl (by decide) roC zyg base v L M (fun _ _=>rfl) hs hown xo m c hx hm hM (by omega) (by omega) hbase h
theorem zzb (k:Int) (s:ByteArray) (V:World):(Instr.buildSlice 26 1 #[(0,.agg #[.int .i64 k,.string s])]).run Tryz.prog V = .ok (.slice (some ⟨V.heap.size,0,none⟩) 1 1) (V.alloc (.cells #[.int .i64 k,.string s] 47)):=by kernel_rfl
theorem Rws.one {α:Type} {w:World} {K:Nat} {f:α→List Value} {b:Nat} {t:TypeId} {x:α} (h:Blk w b t (f x)):Rws w K f (some ⟨b,0,none⟩) 1 [x]:=by
 refine ⟨(fun e=>by cases e),Nat.le_refl _,by unfold maxLen;omega,(fun ad e=>by cases e;rfl),fun ad e i hi => ?_⟩
 cases e
 have hi0:i=0:=by simpa using hi
 subst hi0
 simpa using zal h
theorem zgl (w:World):(zeroValue 28).run Tryz.prog w = .ok (.agg #[.slice none 0 0,.slice none 0 0]) w:=by kernel_rfl
theorem znd:Tryz.prog.built 28 []=some #[.slice none 0 0,.slice none 0 0]:=by kernel_rfl
theorem zg4 (a b:Option Addr) (n m c d:Nat):Tryz.prog.built 28 [(0,.slice a n c),(1,.slice b m d)]=some #[.slice a n c,.slice b m d]:=by kernel_rfl
theorem zas:(Tryz.prog.info? 28).map (·.size)=some 2:=by kernel_rfl
theorem zdj:(Tryz.prog.info? 47).map (·.size)=some 2:=by kernel_rfl
theorem ztk (V:World):(Instr.buildSlice 26 0 #[]).run Tryz.prog V = .ok (.slice (some ⟨V.heap.size,0,none⟩) 0 0) (V.alloc (.cells #[] 47)):=by kernel_rfl
theorem zyh (k:Int) (s:ByteArray):(#[Value.int .i64 k,Value.string s]:Array Value).all (·.oneCell')=true:=by simp[Value.oneCell']
theorem zch (a b:Option Addr) (n m c d:Nat):(#[Value.slice a n c,Value.slice b m d]:Array Value).all (·.oneCell')=true:=by simp[Value.oneCell']
set_option maxHeartbeats 2000000 in
theorem ztl (w:World) (a1 a2:Option Addr) (n1 n2 c1 c2:Nat) (k:Int) (d:List UInt8) (hd:d.length≤100000) (hc:zau k d≠0) :
  Calls Tryz.prog 36 #[.agg #[.slice a1 n1 c1,.slice a2 n2 c2],.agg #[.int .i64 k,.string (str d)]] w fun e w'=>e = .returned (.tuple #[.agg #[.slice a1 n1 c1,.slice a2 n2 c2],.string (str []),.int .i64 (zau k d)])∧w.grownBy w' none:=by
 obtain ⟨y,hy⟩:∃ y,y=zau k d:=⟨_,rfl⟩
 obtain ⟨TD,hTD⟩:∃ T,T=str d:=⟨_,rfl⟩
 obtain ⟨W1,hW1,hB1,g1⟩:=zag w 28 [.slice a1 n1 c1,.slice a2 n2 c2]
 obtain ⟨W2,hW2,hB2,g2⟩:=zag W1 47 [.int .i64 k,.string TD]
 obtain ⟨W3,hW3,hB3,g3⟩:=zag W2 28 [.slice none 0 0,.slice none 0 0]
 have s1:W1.heap.size=w.heap.size+1:=by rw[hW1,World.size_alloc]
 have s2:W2.heap.size=w.heap.size+2:=by rw[hW2,World.size_alloc,s1]
 rw[s1] at hB2
 rw[s2] at hB3
 have cc:∀ V,W3.grownBy V none→Calls Tryz.prog 68 #[.agg #[.int .i64 k,.string TD]] V fun e w'=>e = .returned (.int .i64 y)∧V.grownBy w' none:=fun V _=>by rw[hy,hTD];exact zjm V k d hd
 have hzv:=zgl
 have cc3:=cc W3 (zab _ _)
 have hr1:=zaf (zal hB2) g3 (by simp)
 have HR0:=hide (zaf (zaf (zal hB1) g2 (by simp)) g3 (by simp))
 have hyn:¬ y=0:=by rw[hy];exact hc
 have HB3:=hide hB3
 have HG3:=hide (tn (tn g1 g2) g3)
 have hfold:(((w.alloc (.cells #[.slice a1 n1 c1,.slice a2 n2 c2] 28)).alloc (.cells #[.int .i64 k,.string TD] 47)).alloc (.cells #[.slice none 0 0,.slice none 0 0] 28))=W3:=by rw[hW3,hW2,hW1]
 have HF:=hide hfold
 rw[← hy,← hTD]
 clear hW1 hW2 hW3 hB1 hB2 hB3 g1 g2 g3 s1 s2 hy hTD cc hfold hd hc
 go_enter Tryz.func36,Tryz.ntmps36
 go_wp2_with (first
  | (rw[uh HF])
  | (refine wpList_load_mid rfl 47 _ rfl (w.heap.size+1) 0 rfl [.int .i64 k,.string TD] _ hr1 Tryz.underlying47 rfl zdj ?_;clear hr1)
  | (go_at_call 68;refine cc3.mono ?_;rintro e w4 ⟨rfl,g4⟩;clear cc3;have hr0:=zaf (uh HR0) g4 (by simp);have hB4:=(uh HB3).kept g4 (by simp))
  | (refine wpList_load_mid rfl 28 _ rfl w.heap.size 0 rfl [.slice a1 n1 c1,.slice a2 n2 c2] _ hr0 Tryz.underlying28 rfl zas ?_;clear hr0)
  | (refine wpList_store_row rfl 28 _ _ rfl (w.heap.size+2) _ rfl rfl _ _ hB4 zas rfl (zch _ _ _ _ _ _) ?_))
 refine bodyPost_ret (zd3 rfl _ _ _ _ _ _ _ rfl (hB4.row [.slice a1 n1 c1,.slice a2 n2 c2]) Tryz.underlying28 rfl zas) rfl ?_
 exact ⟨rfl,zam (tn (uh HG3) g4) _ (Or.inl (by omega))⟩
set_option maxHeartbeats 8000000 in
theorem zwf (w:World) (base:Nat) (v1 v2:Value) (S:List ObE) (h:RSet w base v1 v2 S) (hf:S.length≤1000) (hb:base≤w.heap.size) (k:Int) (d:List UInt8) (hd:d.length≤100000) (hc:zau k d=0) :
  Calls Tryz.prog 36 #[.agg #[v1,v2],.agg #[.int .i64 k,.string (str d)]] w fun e w'=>∃ u1 u2,e = .returned (.tuple #[.agg #[u1,u2],.string (str (shaL (putL k d))),.int .i64 0])∧RSet w' base u1 u2 (putS S ⟨shaL (putL k d),k,d⟩)∧w.grownBy w' none:=by
 obtain ⟨a1,c1,rfl,hI,hIb⟩:=h.ids.rws
 obtain ⟨a2,c2,rfl,hO,hOb⟩:=h.obs.rws
 obtain ⟨n,hn⟩:∃ n,n=S.length:=⟨_,rfl⟩
 have hni:n=(idsS S).length:=by rw[hn];simp[idsS]
 obtain ⟨TD,hTD⟩:∃ T,T=str d:=⟨_,rfl⟩
 obtain ⟨ID,hID⟩:∃ I,I=shaL (putL k d):=⟨_,rfl⟩
 obtain ⟨TI,hTI⟩:∃ T,T=str ID:=⟨_,rfl⟩
 have hLI:TI.toList=ID:=by rw[hTI,za5]
 rw[← hni,← hn,← hID,← hTI,← hTD]
 obtain ⟨W1,hW1,hB1,g1⟩:=zag w 28 [.slice a1 n c1,.slice a2 n c2]
 obtain ⟨W2,hW2,hB2,g2⟩:=zag W1 47 [.int .i64 k,.string TD]
 obtain ⟨W3,hW3,hB3,g3⟩:=zag W2 28 [.slice none 0 0,.slice none 0 0]
 have s1:W1.heap.size=w.heap.size+1:=by rw[hW1,World.size_alloc]
 have s2:W2.heap.size=w.heap.size+2:=by rw[hW2,World.size_alloc,s1]
 have s3:W3.heap.size=w.heap.size+3:=by rw[hW3,World.size_alloc,s2]
 rw[s1] at hB2
 rw[s2] at hB3
 have cc:Calls Tryz.prog 68 #[.agg #[.int .i64 k,.string TD]] W3 fun e w'=>e = .returned (.int .i64 0)∧W3.grownBy w' none:=by rw[hTD,← hc];exact zjm W3 k d hd
 have ci:∀ V,Calls Tryz.prog 69 #[.agg #[.int .i64 k,.string TD]] V fun e w'=>e = .returned (.string TI)∧V.grownBy w' none:=fun V=>by rw[hTI,hID,hTD];exact zvf V k d hd
 have hzv:=zgl
 have hr1:=zaf (zal hB2) g3 (by simp)
 have HR3:=hide hr1
 have HBX:=hide ((hB1.kept g2 (by simp)).kept g3 (by simp))
 have HBY:=hide hB3
 have HG3:=hide (tn (tn g1 g2) g3)
 have hfold:(((w.alloc (.cells #[.slice a1 n c1,.slice a2 n c2] 28)).alloc (.cells #[.int .i64 k,.string TD] 47)).alloc (.cells #[.slice none 0 0,.slice none 0 0] 28))=W3:=by rw[hW3,hW2,hW1]
 obtain ⟨HF,HI,HO,HN,HNI,HCI⟩:=zh6 hfold hI hO hn hni ci
 obtain ⟨HS3,HTI,HTD,HBA,HRS⟩:=zh5 s3 hTI hTD hb h
 have hn9:n≤1000:=by omega
 clear hW1 hW2 hW3 hB1 hB2 hB3 g1 g2 g3 s1 s2 s3 hTD hfold hd hc hI hO hn hni ci hTI hID hIb hOb hf hb h
 go_enter Tryz.func36,Tryz.ntmps36
 go_wp2_with (first
  | (rw[uh HF])
  | (refine wpList_load_mid rfl 47 _ rfl (w.heap.size+1) 0 rfl [.int .i64 k,.string TD] _ hr1 Tryz.underlying47 rfl zdj ?_;clear hr1)
  | (go_at_call 68;refine cc.mono ?_;rintro e w4 ⟨rfl,g4⟩;clear cc;have hr4:=zaf (uh HR3) g4 (by simp);have ci4:=uh HCI w4)
  | (refine wpList_load_mid rfl 47 _ rfl (w.heap.size+1) 0 rfl [.int .i64 k,.string TD] _ hr4 Tryz.underlying47 rfl zdj ?_;clear hr4)
  | (go_at_call 69;refine ci4.mono ?_;rintro e w5 ⟨rfl,g5⟩;clear ci4))
 have G5:=tn g4 g5
 have HR1:=hide (zaf (uh HR3) G5 (by simp))
 have HB0:=hide ((uh HBX).kept G5 (by simp))
 have HB3:=hide ((uh HBY).kept G5 (by simp))
 have HG5:=hide (tn (uh HG3) G5)
 have HS5:Hid (w.heap.size+3≤w5.heap.size):=by rw[← uh HS3];exact G5.size
 clear G5 g4 g5 HR3 HBX HBY HG3 HCI HF HS3
 go_loopw [9] (fun i wr=>∃ j:Nat,i = .int .i64 j∧j≤n∧Hid (∀ x∈S.take j,za8 x.id ID=true)∧w5.grownBy wr none) (fun i _=>n - (intOf i).toNat)
 case atStart=>exact ⟨0,rfl,Nat.zero_le _,(by simp:∀ x∈S.take 0,za8 x.id ID=true),zab _ _⟩
 case round =>
  obtain ⟨j,rfl,hj,HE,hg⟩:=hrel
  have hcc:wr.cell? ⟨w.heap.size,0,none⟩=some (.slice a1 n c1):=by rw[((uh HB0).kept hg (by simp)).cell];rfl
  by_cases hgo:∃ F,S[j]? = some F∧za8 F.id ID=true
  ·obtain ⟨F,hgj,hll⟩:=hgo
   have hlS:j<S.length:=(List.getElem?_eq_some_iff.1 hgj).1
   have hlt:j<n:=by rw[uh HN];exact hlS
   have hF:S[j]=F:=(List.getElem?_eq_some_iff.1 hgj).2
   obtain ⟨b,o,hao,hcj⟩:=((uh HI).kept (tn (uh HG5) hg)).txt j (by rw[← uh HNI];exact hlt)
   rw[show (idsS S)[j]'(by rw[← uh HNI];exact hlt)=S[j].id by simp[idsS],hF] at hcj
   have hta:=List.take_succ_eq_append_getElem hlS
   rw[hF] at hta
   obtain ⟨TF,hTF⟩:∃ T,T=str F.id:=⟨_,rfl⟩
   rw[← hTF] at hcj
   have hLF:TF.toList=F.id:=by rw[hTF,za5]
   have hjw:IntKind.i64.wrap ((j:Int)+1)=(j:Int)+1:=by rw[IntKind.wrap_i64];omega
   have hl2:Op.bytesLess F.id ID=true:=hll
   have hnew:∀ x∈S.take (j+1),za8 x.id ID=true:=by
    rw[hta]
    intro x hx
    rcases List.mem_append.1 hx with hx | hx
    ·exact uh HE x hx
    ·rw[List.mem_singleton.1 hx];exact hll
   have HNW:=hide hnew
   clear hnew hll hta hgj hF hTF hlS
   subst hao
   go_wp2
   go_roundw
   case rel=>exact ⟨j+1,by go_num,by omega,HNW,hg⟩
   case measure=>simp[intOf];omega
  ·have hstop:∀ F,S[j]? = some F→za8 F.id ID=false:=fun F hF=>by
    cases hl:za8 F.id ID with
    | false=>rfl
    | true=>exact absurd ⟨F,hF,hl⟩ hgo
   have HSTOP:=hide hstop
   clear hstop hgo
   go_upto_region 6 with fail
   go_cut [33] (fun x33 wx=>x33 = .bool false∧wx=wr)
   case first =>
    by_cases hlt:j<n
    ·have hlS:j<S.length:=by rw[← uh HN];exact hlt
     obtain ⟨b,o,hao,hcj⟩:=((uh HI).kept (tn (uh HG5) hg)).txt j (by rw[← uh HNI];exact hlt)
     rw[show (idsS S)[j]'(by rw[← uh HNI];exact hlt)=S[j].id by simp[idsS]] at hcj
     have hl2:Op.bytesLess S[j].id ID=false:=uh HSTOP _ (List.getElem?_eq_getElem hlS)
     obtain ⟨F,hF⟩:∃ F,F=S[j].id:=⟨_,rfl⟩
     rw[← hF] at hcj hl2
     obtain ⟨TF,hTF⟩:∃ T,T=str F:=⟨_,rfl⟩
     rw[← hTF] at hcj
     have hLF:TF.toList=F:=by rw[hTF,za5]
     clear hF hTF hlS
     subst hao
     go_wp2
     go_meet
     case rel=>exact ⟨rfl,rfl⟩
    ·go_wp2
     go_meet
     case rel=>exact ⟨rfl,rfl⟩
   case rest =>
    obtain ⟨rfl,hwc⟩:=hcut
    rw[hwc]
    clear hwc
    by_cases hfd:∃ F,S[j]? = some F∧F.id=ID
    ·obtain ⟨F,hgj,hid⟩:=hfd
     have hlS:j<S.length:=(List.getElem?_eq_some_iff.1 hgj).1
     have hlt:j<n:=by rw[uh HN];exact hlS
     have hF:S[j]=F:=(List.getElem?_eq_some_iff.1 hgj).2
     obtain ⟨b,o,hao,hcj⟩:=((uh HI).kept (tn (uh HG5) hg)).txt j (by rw[← uh HNI];exact hlt)
     rw[show (idsS S)[j]'(by rw[← uh HNI];exact hlt)=S[j].id by simp[idsS],hF,hid,← uh HTI] at hcj
     have hph:putS S ⟨ID,k,d⟩=S.set j ⟨ID,k,d⟩:=zoj hgj hid (uh HE)
     have hiS:idsS (S.set j ⟨ID,k,d⟩)=idsS S:=by
      unfold idsS
      rw[List.map_set]
      refine List.ext_getElem (by simp) fun m h1 h2 => ?_
      rw[List.getElem_set]
      split
      ·rename_i e;subst e;simp[hF,hid]
      ·rfl
     have HIS:=hide hiS
     clear hiS
     obtain ⟨HPH,HLS⟩:=zh2 hph hlS
     clear hph hgj hF hid hlS
     go_upto_region 8 with fail
     go_cut [49] (fun x49 wx=>x49 = .bool true∧wx=wr)
     case first =>
      subst hao
      go_wp2
      go_meet
      case rel=>exact ⟨rfl,rfl⟩
     case rest =>
      obtain ⟨rfl,hwc⟩:=hcut
      rw[hwc]
      clear hwc hao hcj
      have hcd:wr.cell? ⟨w.heap.size,1,none⟩=some (.slice a2 n c2):=by rw[((uh HB0).kept hg (by simp)).cell];rfl
      have h0:wr.grownBy wr.drew none:=zak (zab _ _)
      go_upto_region 9 with fail
      go_cut [10] (fun x10 wx=>∃ p10 a5 d5,x10 = .pointer (some ⟨p10,0,none⟩)∧Blk wx p10 28 [.slice a1 n c1,.slice a5 n d5]∧Rob wx wr.heap.size (.slice a5 n d5) S∧wr.heap.size≤p10∧wr.grownBy wx none)
      case first =>
       refine wp_region_noPanic ?_
       refine wp_region_held_drew (S:=fun V=>wr.grownBy V none) (by kernel_rfl) h0 (fun _ => ?_)
       obtain ⟨WD,hWD⟩:∃ V,V=wr.drew:=⟨_,rfl⟩
       rw[← hWD]
       rw[← hWD] at h0
       clear hWD
       refine tq 0 50 (.fieldAddr 28 (.tmp 2) 0) (.pointer (some ⟨w.heap.size,0,none⟩)) h0 ?_
       refine tq 3 53 (.fieldAddr 28 (.tmp 2) 1) (.pointer (some ⟨w.heap.size,1,none⟩)) h0 ?_
       refine tz 1 51 (.load 25 (.tmp 50)) (.slice a1 n c1) h0 ?_ (y:=(Or.inl ⟨by rfl,fun V hV=>by (have hv1:=hV.cell hcc (by simp);go_simp)⟩))
       refine tz 4 54 (.load 26 (.tmp 53)) (.slice a2 n c2) h0 ?_ (y:=(Or.inl ⟨by rfl,fun V hV=>by (have hv1:=hV.cell hcd (by simp);go_simp)⟩))
       (try simp only[pq])
       refine wpAnyH_ready (rs:=[2,7]) (by kernel_rfl) (by simp) ?_
       refine AllReadyH.cons (o:=⟨some 52,.buildSlice 26 0 #[],_,_,_,_⟩) rfl (fun K9 hK9 => ?_) (AllReadyH.cons (o:=⟨some 10,.alloc 28,_,_,_,_⟩) rfl (fun K9 hK9 => ?_) AllReadyH.nil)
       ·obtain ⟨wb,hwb,ob,gb⟩:=zod WD 47 2 wr.heap.size (h0).size
        have z9:=ztk WD
        go_simp
        clear z9
        rw[← hwb]
        have k1:=tn h0 gb
        refine hK9.out _ _ k1 (fun _ => ?_)
        clear hK9 K9 hwb
        (try simp only[pq])
        refine wpAnyH_ready (rs:=[5,7]) (by kernel_rfl) (by simp) ?_
        refine AllReadyH.cons (o:=⟨some 55,.call { callee := .builtin .append,args := #[(.tmp 52),(.tmp 54)],argTypes := #[26,26] },_,_,_,_⟩) rfl (fun K9 hK9 => ?_) (AllReadyH.cons (o:=⟨some 10,.alloc 28,_,_,_,_⟩) rfl (fun K9 hK9 => ?_) AllReadyH.nil)
        ·refine zax (by rfl) _ _ rfl wr.heap.size (.slice (some ⟨WD.heap.size,0,none⟩) 0 0) [] S rfl ob a2 n c2 rfl (uh HN) ((uh HO).kept (tn (tn (uh HG5) hg) k1)) (by rw[← uh HN];simp;omega) (k1).size ?_
         intro v5 w5b o5 g5b
         obtain ⟨a5,d5,hv5⟩:=zbd o5
         rw[List.nil_append,← uh HN] at hv5
         subst hv5
         have k5:=zae k1 g5b (fun x e=>Or.inl ((World.ownsRow.lt ob) x e).1)
         have ho5:Rob w5b wr.heap.size (.slice a5 n d5) S:=o5
         refine hK9.out _ _ k5 (fun _ => ?_)
         clear hK9 K9
         refine tz 6 56 (.build 28 #[(0,(.tmp 51)),(1,(.tmp 55))]) (.agg #[.slice a1 n c1,.slice a5 n d5]) k5 ?_ (y:=(zbe (by rfl) _ _ rfl _ (Eq.trans (b:=Tryz.prog.built 28 [(0,.slice a1 n c1),(1,.slice a5 n d5)]) (by kernel_rfl) (zg4 a1 a5 n n c1 d5))))
         (try simp only[pq])
         refine rd 7 (some 10) (.alloc 28) (fun K9 hK9 => ?_)
         obtain ⟨wa,hwa,hB10,ga⟩:=zag w5b 28 [.slice none 0 0,.slice none 0 0]
         go_simp
         rw[← hwa]
         have hp10:wr.heap.size≤w5b.heap.size:=(k5).size
         have k2:=tn k5 ga
         replace ho5:=zok ho5 ga
         refine hK9.out _ _ k2 (fun _ => ?_)
         clear hK9 K9 hwa
         (try simp only[pq])
         refine rd 8 none (.store 28 (.tmp 10) (.tmp 56)) (fun K9 hK9 => ?_)
         rw[if_pos (by rfl)]
         refine wp_store_row _ _ _ rfl (w5b.heap.size) _ rfl rfl _ _ hB10 zas rfl (zch _ _ _ _ _ _) ?_
         have k9:=zam k2 #[.slice a1 n c1,.slice a5 n d5] (Or.inl hp10)
         have gr9:wa.grownBy (wa.setRow (w5b.heap.size) #[.slice a1 n c1,.slice a5 n d5]) (some (w5b.heap.size)):=zam (zab _ _) _ (Or.inr rfl)
         have ho9:=World.ownsRow.kept ho5 gr9 (Or.inr fun e=>zaj ho5 hB10 (by decide) e.symm)
         have hB9:=hB10.row [.slice a1 n c1,.slice a5 n d5]
         refine hK9.out _ _ k9 (fun _ => ?_)
         clear hK9 K9
         (try simp only[Act.put])
         refine wpAnyH_done (by kernel_rfl) ?_ _
         refine NoPanic.normal ?_
         go_wp2_with fail
         go_meet
         case rel=>exact ⟨_,_,_,rfl,hB9,ho9,hp10,k9⟩
        ·obtain ⟨wa,hwa,hB10,ga⟩:=zag wb 28 [.slice none 0 0,.slice none 0 0]
         go_simp
         rw[← hwa]
         have hp10:wr.heap.size≤wb.heap.size:=(k1).size
         have k2:=tn k1 ga
         replace ob:=zok ob ga
         refine hK9.out _ _ k2 (fun _ => ?_)
         clear hK9 K9 hwa
         (try simp only[pq])
         refine rd 5 (some 55) (.call { callee := .builtin .append,args := #[(.tmp 52),(.tmp 54)],argTypes := #[26,26] }) (fun K9 hK9 => ?_)
         refine zax (by rfl) _ _ rfl wr.heap.size (.slice (some ⟨WD.heap.size,0,none⟩) 0 0) [] S rfl ob a2 n c2 rfl (uh HN) ((uh HO).kept (tn (tn (uh HG5) hg) k2)) (by rw[← uh HN];simp;omega) (k2).size ?_
         intro v5 w5b o5 g5b
         obtain ⟨a5,d5,hv5⟩:=zbd o5
         rw[List.nil_append,← uh HN] at hv5
         subst hv5
         have k5:=zae k2 g5b (fun x e=>Or.inl ((World.ownsRow.lt ob) x e).1)
         replace hB10:=hB10.kept g5b (zaj ob hB10 (by decide))
         have ho5:Rob w5b wr.heap.size (.slice a5 n d5) S:=o5
         refine hK9.out _ _ k5 (fun _ => ?_)
         clear hK9 K9
         refine tz 6 56 (.build 28 #[(0,(.tmp 51)),(1,(.tmp 55))]) (.agg #[.slice a1 n c1,.slice a5 n d5]) k5 ?_ (y:=(zbe (by rfl) _ _ rfl _ (Eq.trans (b:=Tryz.prog.built 28 [(0,.slice a1 n c1),(1,.slice a5 n d5)]) (by kernel_rfl) (zg4 a1 a5 n n c1 d5))))
         (try simp only[pq])
         refine rd 8 none (.store 28 (.tmp 10) (.tmp 56)) (fun K9 hK9 => ?_)
         rw[if_pos (by rfl)]
         refine wp_store_row _ _ _ rfl (wb.heap.size) _ rfl rfl _ _ hB10 zas rfl (zch _ _ _ _ _ _) ?_
         have k9:=zam k5 #[.slice a1 n c1,.slice a5 n d5] (Or.inl hp10)
         have gr9:w5b.grownBy (w5b.setRow (wb.heap.size) #[.slice a1 n c1,.slice a5 n d5]) (some (wb.heap.size)):=zam (zab _ _) _ (Or.inr rfl)
         have ho9:=World.ownsRow.kept ho5 gr9 (Or.inr fun e=>zaj ho5 hB10 (by decide) e.symm)
         have hB9:=hB10.row [.slice a1 n c1,.slice a5 n d5]
         refine hK9.out _ _ k9 (fun _ => ?_)
         clear hK9 K9
         (try simp only[Act.put])
         refine wpAnyH_done (by kernel_rfl) ?_ _
         refine NoPanic.normal ?_
         go_wp2_with fail
         go_meet
         case rel=>exact ⟨_,_,_,rfl,hB9,ho9,hp10,k9⟩
       ·obtain ⟨wa,hwa,hB10,ga⟩:=zag WD 28 [.slice none 0 0,.slice none 0 0]
        go_simp
        rw[← hwa]
        have hp10:wr.heap.size≤WD.heap.size:=(h0).size
        have k1:=tn h0 ga
        refine hK9.out _ _ k1 (fun _ => ?_)
        clear hK9 K9 hwa
        (try simp only[pq])
        refine rd 2 (some 52) (.buildSlice 26 0 #[]) (fun K9 hK9 => ?_)
        obtain ⟨wb,hwb,ob,gb⟩:=zod wa 47 2 wr.heap.size (k1).size
        have z9:=ztk wa
        go_simp
        clear z9
        rw[← hwb]
        have k2:=tn k1 gb
        replace hB10:=hB10.kept gb (by simp)
        refine hK9.out _ _ k2 (fun _ => ?_)
        clear hK9 K9 hwb
        (try simp only[pq])
        refine rd 5 (some 55) (.call { callee := .builtin .append,args := #[(.tmp 52),(.tmp 54)],argTypes := #[26,26] }) (fun K9 hK9 => ?_)
        refine zax (by rfl) _ _ rfl wr.heap.size (.slice (some ⟨wa.heap.size,0,none⟩) 0 0) [] S rfl ob a2 n c2 rfl (uh HN) ((uh HO).kept (tn (tn (uh HG5) hg) k2)) (by rw[← uh HN];simp;omega) (k2).size ?_
        intro v5 w5b o5 g5b
        obtain ⟨a5,d5,hv5⟩:=zbd o5
        rw[List.nil_append,← uh HN] at hv5
        subst hv5
        have k5:=zae k2 g5b (fun x e=>Or.inl ((World.ownsRow.lt ob) x e).1)
        replace hB10:=hB10.kept g5b (zaj ob hB10 (by decide))
        have ho5:Rob w5b wr.heap.size (.slice a5 n d5) S:=o5
        refine hK9.out _ _ k5 (fun _ => ?_)
        clear hK9 K9
        refine tz 6 56 (.build 28 #[(0,(.tmp 51)),(1,(.tmp 55))]) (.agg #[.slice a1 n c1,.slice a5 n d5]) k5 ?_ (y:=(zbe (by rfl) _ _ rfl _ (Eq.trans (b:=Tryz.prog.built 28 [(0,.slice a1 n c1),(1,.slice a5 n d5)]) (by kernel_rfl) (zg4 a1 a5 n n c1 d5))))
        (try simp only[pq])
        refine rd 8 none (.store 28 (.tmp 10) (.tmp 56)) (fun K9 hK9 => ?_)
        rw[if_pos (by rfl)]
        refine wp_store_row _ _ _ rfl (WD.heap.size) _ rfl rfl _ _ hB10 zas rfl (zch _ _ _ _ _ _) ?_
        have k9:=zam k5 #[.slice a1 n c1,.slice a5 n d5] (Or.inl hp10)
        have gr9:w5b.grownBy (w5b.setRow (WD.heap.size) #[.slice a1 n c1,.slice a5 n d5]) (some (WD.heap.size)):=zam (zab _ _) _ (Or.inr rfl)
        have ho9:=World.ownsRow.kept ho5 gr9 (Or.inr fun e=>zaj ho5 hB10 (by decide) e.symm)
        have hB9:=hB10.row [.slice a1 n c1,.slice a5 n d5]
        refine hK9.out _ _ k9 (fun _ => ?_)
        clear hK9 K9
        (try simp only[Act.put])
        refine wpAnyH_done (by kernel_rfl) ?_ _
        refine NoPanic.normal ?_
        go_wp2_with fail
        go_meet
        case rel=>exact ⟨_,_,_,rfl,hB9,ho9,hp10,k9⟩
      case rest =>
       obtain ⟨p10,a5,d5,rfl,hB10,hO10,hp10,hg10⟩:=hcut
       obtain ⟨W9,hW9⟩:∃ W,W=wc:=⟨_,rfl⟩
       rw[← hW9]
       rw[← hW9] at hB10 hO10 hg10
       clear hW9 hcc hcd h0
       obtain ⟨g,cap,e5,hgb,hgl⟩:=World.ownsRow.form hO10 (by rw[← uh HN];omega)
       rw[← uh HN] at e5
       obtain ⟨rfl,-,rfl⟩:a5=some ⟨g,0,none⟩∧n=n∧d5=cap:=by injection e5 with x y z;exact ⟨x,rfl,z⟩
       clear e5
       have hth:=zft roC 2 (by rw[uh HN] at hO10;exact hO10) (fun _ _=>rfl) j (uh HLS)
       obtain ⟨hset,gset⟩:=ziw roC 2 (by rw[uh HN] at hO10;exact hO10) (fun _ _=>rfl) j (uh HLS) ⟨ID,k,d⟩ rfl
       have G9:=tn hg hg10
       have hr9:=zaf (uh HR1) G9 (by simp)
       have hB3:=((uh HB3).kept G9 (by simp)).kept gset (fun e=>by injection e with e;have:=uh HS5;have:=hg.size;omega)
       have hc10:W9.cell? ⟨p10,1,none⟩=some (.slice (some ⟨g,0,none⟩) n d5):=by rw[hB10.cell];rfl
       have hB11:=hB10.kept gset (zaj hO10 hB10 (by decide))
       have hr11:=zal hB11
       have hsw:(roC ⟨ID,k,d⟩)=[.int .i64 k,.string TD]:=by rw[uh HTD];rfl
       rw[hsw] at hset gset hB3 hB11 hr11
       obtain ⟨W10,hW10⟩:∃ W,W=W9.setCells g (j*2) [.int .i64 k,.string TD]:=⟨_,rfl⟩
       rw[← hW10] at hset gset hB3 hB11 hr11
       have hI10:=((uh HRS).ids.kept (tn (uh HG5) G9))
       have hgw:w.grownBy W10 none:=zae (tn (uh HG5) G9) gset (fun x e=>by cases e;exact Or.inl (by have:=uh HS5;have:=hg.size;omega))
       have hI11:=(uh HRS).ids.kept hgw
       rw[← uh HNI] at hI11
       have g12:W10.grownBy (W10.setRow (w.heap.size+2) #[.slice a1 n c1,.slice (some ⟨g,0,none⟩) n d5]) (some (w.heap.size+2)):=zam (zab _ _) _ (Or.inr rfl)
       have hfin:RSet (W10.setRow (w.heap.size+2) #[.slice a1 n c1,.slice (some ⟨g,0,none⟩) n d5]) base (.slice a1 n c1) (.slice (some ⟨g,0,none⟩) n d5) (putS S ⟨ID,k,d⟩):=by
        rw[uh HPH]
        refine ⟨?_,?_⟩
        ·rw[show idsS (S.set j ⟨ID,k,d⟩)=idsS S from uh HIS]
         exact World.ownsRow.kept hI11 g12 (Or.inr fun e=>zaj hI11 hB3 (by decide) e.symm)
        ·unfold Rob
         rw[List.length_set,← uh HN]
         rw[← uh HN] at hset
         exact za7 (World.ownsRow.kept hset g12 (Or.inr fun e=>zaj hset hB3 (by decide) e.symm)) (Nat.le_trans (uh HBA) (Nat.le_trans (uh HG5).size hg.size))
       obtain ⟨HFIN,HGW,HB3x,HW10⟩:=zh4 hfin hgw hB3 hW10
       have hth2:W9.there g (j*2) (#[Value.int .i64 k,Value.string TD]:Array Value).size:=hth
       have HTH:=hide hth2
       clear hth hth2 hfin hgw hset gset hI10 hI11 g12 hB11 hB10 hO10 hW10 hsw hgb hgl hg10 G9
       go_wp2_with (first | (refine wpList_load_mid rfl 47 _ rfl (w.heap.size+1) 0 rfl [.int .i64 k,.string TD] _ hr9 Tryz.underlying47 rfl zdj ?_;clear hr9) | (refine wpList_store_mid rfl 47 _ _ rfl g (j*2) #[.int .i64 k,.string TD] rfl rfl (uh HTH) zdj (zyh _ _) ?_;rw[show (#[Value.int .i64 k,Value.string TD]:Array Value).toList=[.int .i64 k,.string TD] from rfl,← uh HW10]) | (refine wpList_load_mid rfl 28 _ rfl p10 0 rfl [.slice a1 n c1,.slice (some ⟨g,0,none⟩) n d5] _ hr11 Tryz.underlying28 rfl zas ?_;clear hr11) | (refine wpList_store_row rfl 28 _ _ rfl (w.heap.size+2) _ rfl rfl _ _ hB3 zas rfl (zch _ _ _ _ _ _) ?_;clear hB3))
       refine bodyPost_ret (zd3 rfl _ _ _ _ _ _ _ rfl ((uh HB3x).row [.slice a1 n c1,.slice (some ⟨g,0,none⟩) n d5]) Tryz.underlying28 rfl zas) rfl ?_
       exact ⟨_,_,rfl,uh HFIN,zam (uh HGW) _ (Or.inl (by omega))⟩
    ·have hmiss:∀ y,S[j]? = some y→za8 y.id ID=false∧y.id≠ID:=fun y hy=>⟨uh HSTOP y hy,fun e=>hfd ⟨y,hy,e⟩⟩
     clear hfd
     go_upto_region 8 with fail
     go_cut [49] (fun x49 wx=>x49 = .bool false∧wx=wr)
     case first =>
      by_cases hlt:j<n
      ·have hlS:j<S.length:=by rw[← uh HN];exact hlt
       obtain ⟨b,o,hao,hcj⟩:=((uh HI).kept (tn (uh HG5) hg)).txt j (by rw[← uh HNI];exact hlt)
       rw[show (idsS S)[j]'(by rw[← uh HNI];exact hlt)=S[j].id by simp[idsS]] at hcj
       have hid:=(hmiss _ (List.getElem?_eq_getElem hlS)).2
       obtain ⟨F,hF⟩:∃ F,F=S[j].id:=⟨_,rfl⟩
       rw[← hF] at hcj hid
       obtain ⟨TF,hTF⟩:∃ T,T=str F:=⟨_,rfl⟩
       rw[← hTF] at hcj
       have hLF:TF.toList=F:=by rw[hTF,za5]
       have h1:¬ TF.toList=TI.toList:=by rw[hLF,hLI];exact hid
       have h2:(F == ID)=false:=by simpa using hid
       clear hF hTF hlS hmiss
       subst hao
       go_wp2
       go_meet
       case rel=>exact ⟨rfl,rfl⟩
      ·clear hmiss
       go_wp2
       go_meet
       case rel=>exact ⟨rfl,rfl⟩
     case rest =>
      obtain ⟨rfl,hwc⟩:=hcut
      rw[hwc]
      clear hwc
      have hpm:putS S ⟨ID,k,d⟩=S.take j++⟨ID,k,d⟩::S.drop j:=zl0 (uh HE) hmiss
      have hI6:=(uh HI).take j
      have hD6:=(uh HI).drop j (by rw[← uh HNI];exact hj)
      have hO6:=(uh HO).take j
      have hQ6:=(uh HO).drop j (by rw[← uh HN];exact hj)
      have hst:∀ W,(Instr.slice 25 (.slice a1 n c1) none (some (.int .i64 (j:Int))) none).run Tryz.prog W = .ok (.slice a1 j c1) W:=fun W=>zlc W _ _ 1 Tryz.underlying25 (zf9 (by kernel_rfl)) a1 n c1 j (by have:=(uh HI).fits;have:=uh HNI;omega) (uh HI).spot
      have hsf:∀ W,(Instr.slice 25 (.slice a1 n c1) (some (.int .i64 (j:Int))) none none).run Tryz.prog W = .ok (.slice (cutK a1 c1 j 1) (n - j) (c1 - j)) W:=fun W=>zid W _ _ 1 Tryz.underlying25 (zf9 (by kernel_rfl)) a1 n c1 j hj
      have hot:∀ W,(Instr.slice 26 (.slice a2 n c2) none (some (.int .i64 (j:Int))) none).run Tryz.prog W = .ok (.slice a2 j c2) W:=fun W=>zlc W _ _ 2 Tryz.underlying26 (zf9 zdj) a2 n c2 j (by have:=(uh HO).fits;have:=uh HN;omega) (uh HO).spot
      have hof:∀ W,(Instr.slice 26 (.slice a2 n c2) (some (.int .i64 (j:Int))) none none).run Tryz.prog W = .ok (.slice (cutK a2 c2 j 2) (n - j) (c2 - j)) W:=fun W=>zid W _ _ 2 Tryz.underlying26 (zf9 zdj) a2 n c2 j hj
      have hl1:j=((idsS S).take j).length:=by rw[List.length_take,← uh HNI];omega
      have hl2:n - j=((idsS S).drop j).length:=by rw[List.length_drop,← uh HNI]
      have hl3:j=(S.take j).length:=by rw[List.length_take,← uh HN];omega
      have hl4:n - j=(S.drop j).length:=by rw[List.length_drop,← uh HN]
      have hn1:∀ x:List UInt8,(([]++(idsS S).take j)++[x]++(idsS S).drop j).length=n+1:=fun x=>by simp only[List.length_append,List.length_cons,List.length_nil,← hl1,← hl2];omega
      have hn2:∀ x:ObE,(([]++S.take j)++[x]++S.drop j).length=n+1:=fun x=>by simp only[List.length_append,List.length_cons,List.length_nil,← hl3,← hl4];omega
      have hids:idsS (S.take j++⟨ID,k,d⟩::S.drop j)=([]++(idsS S).take j)++[ID]++(idsS S).drop j:=by simp[idsS,List.map_take,List.map_drop]
      have hobs:S.take j++⟨ID,k,d⟩::S.drop j=([]++S.take j)++[⟨ID,k,d⟩]++S.drop j:=by simp
      obtain ⟨W6,hW6,hB6,g6⟩:=zbl wr 28 #[.slice none 0 0,.slice none 0 0] [.slice none 0 0,.slice none 0 0]
      obtain ⟨q,hq⟩:∃ q,q=wr.heap.size:=⟨_,rfl⟩
      have G6:=tn hg g6
      have hc0:W6.cell? ⟨w.heap.size,0,none⟩=some (.slice a1 n c1):=by rw[((uh HB0).kept G6 (by simp)).cell];rfl
      have hc1:W6.cell? ⟨w.heap.size,1,none⟩=some (.slice a2 n c2):=by rw[((uh HB0).kept G6 (by simp)).cell];rfl
      have HRB:=hide (zaf (uh HR1) G6 (by simp))
      have HB2:=hide ((uh HB3).kept G6 (by simp))
      have hw5:w.heap.size+3≤wr.heap.size:=by have:=(uh HS5);have:=hg.size;omega
      have HNQ:Hid (some w.heap.size≠some wr.heap.size):=fun e=>by injection e with e;omega
      have HNR:Hid (some (w.heap.size+1)≠some wr.heap.size):=fun e=>by injection e with e;omega
      have HN2:Hid (some (w.heap.size+2)≠some wr.heap.size):=fun e=>by injection e with e;omega
      have HI6:=hide (hI6.kept (tn (uh HG5) G6))
      have HD6:=hide (hD6.kept (tn (uh HG5) G6))
      have HO6:=hide (hO6.kept (tn (uh HG5) G6))
      have HQ6:=hide (hQ6.kept (tn (uh HG5) G6))
      obtain ⟨HWQ,HPM,HL1,HL2,HL3,HL4⟩:=zh6 hw5 hpm hl1 hl2 hl3 hl4
      obtain ⟨HN1,HNN2,HID,HOB,HST,HSF⟩:=zh6 hn1 hn2 hids hobs hst hsf
      obtain ⟨HOT,HOF,HB6⟩:=zh3 hot hof hB6
      have HG6:=hide (tn (uh HG5) G6)
      have HW6:=hide hW6
      have HBST:Hid (∀ W:World,(Instr.buildSlice 25 1 #[(0,.string TI)]).run Tryz.prog W = .ok (.slice (some ⟨W.heap.size,0,none⟩) 1 1) (W.alloc (.cells (stR ID).toArray 9))):=fun W=>by rw[uh HTI];exact zjq _ W
      have HBSO:Hid (∀ W:World,(Instr.buildSlice 26 1 #[(0,.agg #[.int .i64 k,.string TD])]).run Tryz.prog W = .ok (.slice (some ⟨W.heap.size,0,none⟩) 1 1) (W.alloc (.cells (roC ⟨ID,k,d⟩).toArray 47))):=fun W=>by rw[uh HTD];exact zzb _ _ W
      have h0:W6.grownBy W6.drew (some q):=zak (zab _ _)
      have hb0:=znd
      rw[← hq] at HNQ HNR HN2 HB6
      have HQS:=hide hq
      clear hpm hI6 hD6 hO6 hQ6 hst hsf hot hof hl1 hl2 hl3 hl4 hn1 hn2 hids hobs hW6 hB6 g6 G6 hw5 hmiss hq
      go_upto_region 13 with (first
       | (refine za4 rfl 28 _ rfl #[.slice none 0 0,.slice none 0 0] ?hb ?_;(case hb=>exact hb0))
       | (refine wpList_store_row rfl 28 _ _ rfl wr.heap.size _ rfl rfl _ _ (Blk.new wr 28 [.slice none 0 0,.slice none 0 0]) zas rfl (zch _ _ _ _ _ _) ?_;rw[← uh HW6]))
      (try simp only[Act.put])
      rw[← uh HQS]
      go_cut [] (fun wx=>∃ b13 d13,Blk wx q 28 [.slice b13 (n+1) d13,.slice none 0 0]∧Stg wx W6.heap.size (.slice b13 (n+1) d13) (([]++(idsS S).take j)++[ID]++(idsS S).drop j)∧W6.grownBy wx (some q))
      case first =>
       have HBQ:=hide ((uh HB6).kept (zak (zab W6 none)) (by simp))
       have HGD:=hide (zak (zab W6 none))
       refine wp_region_noPanic ?_
       refine wp_region_held_drew (S:=fun V=>W6.grownBy V (some q)) (by kernel_rfl) h0 (fun _ => ?_)
       obtain ⟨WD,hWD⟩:∃ V,V=W6.drew:=⟨_,rfl⟩
       rw[← hWD]
       rw[← hWD] at h0 HBQ HGD
       clear hWD
       refine tq 0 65 (.fieldAddr 28 (.tmp 11) 0) (.pointer (some ⟨q,0,none⟩)) h0 ?_
       refine tq 2 67 (.fieldAddr 28 (.tmp 2) 0) (.pointer (some ⟨w.heap.size,0,none⟩)) h0 ?_
       refine tq 4 69 (.move (.tmp 9)) (.int .i64 (j:Int)) h0 ?_
       refine tq 7 72 (.move (.tmp 8)) (.string TI) h0 ?_
       (try simp only[pq])
       refine tq 10 75 (.fieldAddr 28 (.tmp 2) 0) (.pointer (some ⟨w.heap.size,0,none⟩)) h0 ?_
       refine tq 12 77 (.move (.tmp 9)) (.int .i64 (j:Int)) h0 ?_
       refine tz 3 68 (.load 25 (.tmp 67)) (.slice a1 n c1) h0 ?_ (y:=(Or.inl ⟨by rfl,fun V hV=>by (have hv1:=hV.cell hc0 (uh HNQ);go_simp)⟩))
       refine tz 11 76 (.load 25 (.tmp 75)) (.slice a1 n c1) h0 ?_ (y:=(Or.inl ⟨by rfl,fun V hV=>by (have hv1:=hV.cell hc0 (uh HNQ);go_simp)⟩))
       (try simp only[pq])
       refine tz 5 70 (.slice 25 (.tmp 68) none (some (.tmp 69)) none) (.slice a1 j c1) h0 ?_ (y:=(Or.inl ⟨by rfl,fun V hV=>by (have z9:=uh HST V;go_simp)⟩))
       refine tz 13 78 (.slice 25 (.tmp 76) (some (.tmp 77)) none none) (.slice (cutK a1 c1 j 1) (n - j) (c1 - j)) h0 ?_ (y:=(Or.inl ⟨by rfl,fun V hV=>by (have z9:=uh HSF V;go_simp)⟩))
       (try simp only[pq])
       refine wpAnyH_ready (rs:=[1,8]) (by kernel_rfl) (by simp) ?_
       refine AllReadyH.cons (o:=⟨some 66,.load 25 (.tmp 65),_,_,_,_⟩) rfl (fun K9 hK9 => ?_) (AllReadyH.cons (o:=⟨some 73,.buildSlice 25 1 #[(0,(.tmp 72))],_,_,_,_⟩) rfl (fun K9 hK9 => ?_) AllReadyH.nil)
       ·have z9:=((uh HBQ)).cell 0
        simp only[List.getElem?_cons_zero] at z9
        go_simp
        clear z9
        refine hK9.out _ _ h0 (fun _ => ?_)
        clear hK9 K9
        (try simp only[pq])
        refine wpAnyH_ready (rs:=[6,8]) (by kernel_rfl) (by simp) ?_
        refine AllReadyH.cons (o:=⟨some 71,.call { callee := .builtin .append,args := #[(.tmp 66),(.tmp 70)],argTypes := #[25,25] },_,_,_,_⟩) rfl (fun K9 hK9 => ?_) (AllReadyH.cons (o:=⟨some 73,.buildSlice 25 1 #[(0,(.tmp 72))],_,_,_,_⟩) rfl (fun K9 hK9 => ?_) AllReadyH.nil)
        ·refine zbb (by rfl) _ _ rfl W6.heap.size (.slice none 0 0) [] _ rfl (Stg.nil _ _) a1 j c1 rfl (uh HL1) ((uh HI6).kept (uh HGD)) (by rw[← uh HL1];simp;omega) ((uh HGD)).size ?_
         intro x1 w1 o1 g1z
         have g1:WD.grownBy w1 none:=g1z
         clear g1z
         have G13_1:=tn (uh HGD) g1
         have h13_1:=zaw (some q) G13_1
         have B13_1:=((uh HBQ)).kept g1 (by simp)
         refine hK9.out _ _ h13_1 (fun _ => ?_)
         clear hK9 K9
         (try simp only[pq])
         refine rd 8 (some 73) (.buildSlice 25 1 #[(0,(.tmp 72))]) (fun K9 hK9 => ?_)
         obtain ⟨w2,hw2,e2,g2⟩:=zag w1 9 (stR ID)
         refine zar (by rfl) 25 _ rfl (.string TI) _ rfl (uh HBST w1) ?_
         rw[← hw2]
         have E2:Rws w2 1 stR (some ⟨w1.heap.size,0,none⟩) 1 [ID]:=Rws.one e2
         have G13_2:=tn G13_1 g2
         have h13_2:=zaw (some q) G13_2
         have B13_2:=(B13_1).kept g2 (by simp)
         have O2:=o1.kept g2
         refine hK9.out _ _ h13_2 (fun _ => ?_)
         clear hK9 K9 hw2 e2
         (try simp only[pq])
         refine rd 9 (some 74) (.call { callee := .builtin .append,args := #[(.tmp 71),(.tmp 73)],argTypes := #[25,25] }) (fun K9 hK9 => ?_)
         refine zbb (by rfl) _ _ rfl W6.heap.size x1 _ _ rfl O2 (some ⟨w1.heap.size,0,none⟩) 1 1 rfl rfl E2 (by simp only[List.length_append,List.length_nil,List.length_cons,← uh HL1];omega) (G13_2).size ?_
         intro x3 w3 o3 g3
         have G13_3:=zae G13_2 g3 (fun x e=>Or.inl ((World.ownsRow.lt O2) x e).1)
         have h13_3:=zaw (some q) G13_3
         have B13_3:=(B13_2).kept g3 (zaj O2 B13_2 (by decide))
         refine hK9.out _ _ h13_3 (fun _ => ?_)
         clear hK9 K9
         (try simp only[pq])
         refine rd 14 (some 79) (.call { callee := .builtin .append,args := #[(.tmp 74),(.tmp 78)],argTypes := #[25,25] }) (fun K9 hK9 => ?_)
         refine zbb (by rfl) _ _ rfl W6.heap.size x3 _ _ rfl o3 _ (n - j) _ rfl (uh HL2) ((uh HD6).kept G13_3) (by simp only[List.length_append,List.length_nil,List.length_cons,← uh HL1,← uh HL2];omega) (G13_3).size ?_
         intro x4 w4 o4 g4
         have G13_4:=zae G13_3 g4 (fun x e=>Or.inl ((World.ownsRow.lt o3) x e).1)
         have h13_4:=zaw (some q) G13_4
         have B13_4:=(B13_3).kept g4 (zaj o3 B13_3 (by decide))
         obtain ⟨b13,d13,hx13⟩:=zbd o4
         rw[uh HN1] at hx13
         subst hx13
         have q13:=(B13_4).cell 0
         simp only[List.getElem?_cons_zero] at q13
         have f13:=(B13_4).fz 0
         refine hK9.out _ _ h13_4 (fun _ => ?_)
         clear hK9 K9
         refine tq 15 80 (.fieldAddr 28 (.tmp 11) 0) (.pointer (some ⟨q,0,none⟩)) h13_4 ?_
         (try simp only[pq])
         refine rd 16 none (.store 25 (.tmp 80) (.tmp 79)) (fun K9 hK9 => ?_)
         go_simp
         have gs:=zcp w4 q 0 (.slice b13 (n+1) d13)
         have h9:=zae h13_4 gs (fun _ e=>Or.inr e)
         have B9:=(B13_4).set 0 (.slice b13 (n+1) d13)
         have O9:=World.ownsRow.kept o4 gs (Or.inr fun e=>zaj o4 B13_4 (by decide) e.symm)
         refine hK9.out _ _ h9 (fun _ => ?_)
         clear hK9 K9
         (try simp only[pq])
         refine wpAnyH_done (by kernel_rfl) ?_ _
         refine NoPanic.normal ?_
         go_wp2_with fail
         go_meet
         case rel=>exact ⟨_,_,(by simpa only[List.set_cons_zero] using B9),O9,h9⟩
        ·obtain ⟨w2,hw2,e2,g2⟩:=zag WD 9 (stR ID)
         refine zar (by rfl) 25 _ rfl (.string TI) _ rfl (uh HBST WD) ?_
         rw[← hw2]
         have E2:Rws w2 1 stR (some ⟨WD.heap.size,0,none⟩) 1 [ID]:=Rws.one e2
         have G13_1:=tn (uh HGD) g2
         have h13_1:=zaw (some q) G13_1
         have B13_1:=((uh HBQ)).kept g2 (by simp)
         refine hK9.out _ _ h13_1 (fun _ => ?_)
         clear hK9 K9 hw2 e2
         (try simp only[pq])
         refine rd 6 (some 71) (.call { callee := .builtin .append,args := #[(.tmp 66),(.tmp 70)],argTypes := #[25,25] }) (fun K9 hK9 => ?_)
         refine zbb (by rfl) _ _ rfl W6.heap.size (.slice none 0 0) [] _ rfl (Stg.nil _ _) a1 j c1 rfl (uh HL1) ((uh HI6).kept G13_1) (by rw[← uh HL1];simp;omega) (G13_1).size ?_
         intro x1 w1 o1 g1z
         have g1:w2.grownBy w1 none:=g1z
         clear g1z
         have G13_2:=tn G13_1 g1
         have h13_2:=zaw (some q) G13_2
         have B13_2:=(B13_1).kept g1 (by simp)
         have E1:=(E2).kept g1
         refine hK9.out _ _ h13_2 (fun _ => ?_)
         clear hK9 K9
         (try simp only[pq])
         refine rd 9 (some 74) (.call { callee := .builtin .append,args := #[(.tmp 71),(.tmp 73)],argTypes := #[25,25] }) (fun K9 hK9 => ?_)
         refine zbb (by rfl) _ _ rfl W6.heap.size x1 _ _ rfl o1 (some ⟨WD.heap.size,0,none⟩) 1 1 rfl rfl E1 (by simp only[List.length_append,List.length_nil,List.length_cons,← uh HL1];omega) (G13_2).size ?_
         intro x3 w3 o3 g3
         have G13_3:=zae G13_2 g3 (fun x e=>Or.inl ((World.ownsRow.lt o1) x e).1)
         have h13_3:=zaw (some q) G13_3
         have B13_3:=(B13_2).kept g3 (zaj o1 B13_2 (by decide))
         refine hK9.out _ _ h13_3 (fun _ => ?_)
         clear hK9 K9
         (try simp only[pq])
         refine rd 14 (some 79) (.call { callee := .builtin .append,args := #[(.tmp 74),(.tmp 78)],argTypes := #[25,25] }) (fun K9 hK9 => ?_)
         refine zbb (by rfl) _ _ rfl W6.heap.size x3 _ _ rfl o3 _ (n - j) _ rfl (uh HL2) ((uh HD6).kept G13_3) (by simp only[List.length_append,List.length_nil,List.length_cons,← uh HL1,← uh HL2];omega) (G13_3).size ?_
         intro x4 w4 o4 g4
         have G13_4:=zae G13_3 g4 (fun x e=>Or.inl ((World.ownsRow.lt o3) x e).1)
         have h13_4:=zaw (some q) G13_4
         have B13_4:=(B13_3).kept g4 (zaj o3 B13_3 (by decide))
         obtain ⟨b13,d13,hx13⟩:=zbd o4
         rw[uh HN1] at hx13
         subst hx13
         have q13:=(B13_4).cell 0
         simp only[List.getElem?_cons_zero] at q13
         have f13:=(B13_4).fz 0
         refine hK9.out _ _ h13_4 (fun _ => ?_)
         clear hK9 K9
         refine tq 15 80 (.fieldAddr 28 (.tmp 11) 0) (.pointer (some ⟨q,0,none⟩)) h13_4 ?_
         (try simp only[pq])
         refine rd 16 none (.store 25 (.tmp 80) (.tmp 79)) (fun K9 hK9 => ?_)
         go_simp
         have gs:=zcp w4 q 0 (.slice b13 (n+1) d13)
         have h9:=zae h13_4 gs (fun _ e=>Or.inr e)
         have B9:=(B13_4).set 0 (.slice b13 (n+1) d13)
         have O9:=World.ownsRow.kept o4 gs (Or.inr fun e=>zaj o4 B13_4 (by decide) e.symm)
         refine hK9.out _ _ h9 (fun _ => ?_)
         clear hK9 K9
         (try simp only[pq])
         refine wpAnyH_done (by kernel_rfl) ?_ _
         refine NoPanic.normal ?_
         go_wp2_with fail
         go_meet
         case rel=>exact ⟨_,_,(by simpa only[List.set_cons_zero] using B9),O9,h9⟩
       ·obtain ⟨w2,hw2,e2,g2⟩:=zag WD 9 (stR ID)
        refine zar (by rfl) 25 _ rfl (.string TI) _ rfl (uh HBST WD) ?_
        rw[← hw2]
        have E2:Rws w2 1 stR (some ⟨WD.heap.size,0,none⟩) 1 [ID]:=Rws.one e2
        have G13_1:=tn (uh HGD) g2
        have h13_1:=zaw (some q) G13_1
        have B13_1:=((uh HBQ)).kept g2 (by simp)
        refine hK9.out _ _ h13_1 (fun _ => ?_)
        clear hK9 K9 hw2 e2
        (try simp only[pq])
        refine rd 1 (some 66) (.load 25 (.tmp 65)) (fun K9 hK9 => ?_)
        have z9:=(B13_1).cell 0
        simp only[List.getElem?_cons_zero] at z9
        go_simp
        clear z9
        refine hK9.out _ _ h13_1 (fun _ => ?_)
        clear hK9 K9
        (try simp only[pq])
        refine rd 6 (some 71) (.call { callee := .builtin .append,args := #[(.tmp 66),(.tmp 70)],argTypes := #[25,25] }) (fun K9 hK9 => ?_)
        refine zbb (by rfl) _ _ rfl W6.heap.size (.slice none 0 0) [] _ rfl (Stg.nil _ _) a1 j c1 rfl (uh HL1) ((uh HI6).kept G13_1) (by rw[← uh HL1];simp;omega) (G13_1).size ?_
        intro x1 w1 o1 g1z
        have g1:w2.grownBy w1 none:=g1z
        clear g1z
        have G13_2:=tn G13_1 g1
        have h13_2:=zaw (some q) G13_2
        have B13_2:=(B13_1).kept g1 (by simp)
        have E1:=(E2).kept g1
        refine hK9.out _ _ h13_2 (fun _ => ?_)
        clear hK9 K9
        (try simp only[pq])
        refine rd 9 (some 74) (.call { callee := .builtin .append,args := #[(.tmp 71),(.tmp 73)],argTypes := #[25,25] }) (fun K9 hK9 => ?_)
        refine zbb (by rfl) _ _ rfl W6.heap.size x1 _ _ rfl o1 (some ⟨WD.heap.size,0,none⟩) 1 1 rfl rfl E1 (by simp only[List.length_append,List.length_nil,List.length_cons,← uh HL1];omega) (G13_2).size ?_
        intro x3 w3 o3 g3
        have G13_3:=zae G13_2 g3 (fun x e=>Or.inl ((World.ownsRow.lt o1) x e).1)
        have h13_3:=zaw (some q) G13_3
        have B13_3:=(B13_2).kept g3 (zaj o1 B13_2 (by decide))
        refine hK9.out _ _ h13_3 (fun _ => ?_)
        clear hK9 K9
        (try simp only[pq])
        refine rd 14 (some 79) (.call { callee := .builtin .append,args := #[(.tmp 74),(.tmp 78)],argTypes := #[25,25] }) (fun K9 hK9 => ?_)
        refine zbb (by rfl) _ _ rfl W6.heap.size x3 _ _ rfl o3 _ (n - j) _ rfl (uh HL2) ((uh HD6).kept G13_3) (by simp only[List.length_append,List.length_nil,List.length_cons,← uh HL1,← uh HL2];omega) (G13_3).size ?_
        intro x4 w4 o4 g4
        have G13_4:=zae G13_3 g4 (fun x e=>Or.inl ((World.ownsRow.lt o3) x e).1)
        have h13_4:=zaw (some q) G13_4
        have B13_4:=(B13_3).kept g4 (zaj o3 B13_3 (by decide))
        obtain ⟨b13,d13,hx13⟩:=zbd o4
        rw[uh HN1] at hx13
        subst hx13
        have q13:=(B13_4).cell 0
        simp only[List.getElem?_cons_zero] at q13
        have f13:=(B13_4).fz 0
        refine hK9.out _ _ h13_4 (fun _ => ?_)
        clear hK9 K9
        refine tq 15 80 (.fieldAddr 28 (.tmp 11) 0) (.pointer (some ⟨q,0,none⟩)) h13_4 ?_
        (try simp only[pq])
        refine rd 16 none (.store 25 (.tmp 80) (.tmp 79)) (fun K9 hK9 => ?_)
        go_simp
        have gs:=zcp w4 q 0 (.slice b13 (n+1) d13)
        have h9:=zae h13_4 gs (fun _ e=>Or.inr e)
        have B9:=(B13_4).set 0 (.slice b13 (n+1) d13)
        have O9:=World.ownsRow.kept o4 gs (Or.inr fun e=>zaj o4 B13_4 (by decide) e.symm)
        refine hK9.out _ _ h9 (fun _ => ?_)
        clear hK9 K9
        (try simp only[pq])
        refine wpAnyH_done (by kernel_rfl) ?_ _
        refine NoPanic.normal ?_
        go_wp2_with fail
        go_meet
        case rel=>exact ⟨_,_,(by simpa only[List.set_cons_zero] using B9),O9,h9⟩
      case rest =>
       obtain ⟨b13,d13,hB7,hO7,hg7⟩:=hcut
       obtain ⟨W7,hW7⟩:∃ W,W=wc:=⟨_,rfl⟩
       rw[← hW7]
       rw[← hW7] at hB7 hO7 hg7
       clear hW7
       have hc1b:=hg7.cell hc1 (uh HNQ)
       clear hc0 hc1
       have hc1:=hc1b
       clear hc1b
       replace HRB:=hide (zaf (uh HRB) hg7 (uh HNR))
       replace HB2:=hide ((uh HB2).kept hg7 (uh HN2))
       have HQG:Hid (w.heap.size≤q):=by rw[uh HQS];have:=uh HWQ;show _≤_;omega
       have HG7:=hide (zae (uh HG6) hg7 (fun x e=>by cases e;exact Or.inl (uh HQG)))
       have HO7:=hide (((uh HO).take j).kept (uh HG7))
       have HQ7:=hide (((uh HO).drop j (by rw[← uh HN];exact hj)).kept (uh HG7))
       have B7:=hB7
       have HO7b:=hide hO7
       clear hO7 hB7 hg7 h0
       go_upto_region 14 with fail
       go_cut [] (fun wx=>∃ b14 d14,Blk wx q 28 [.slice b13 (n+1) d13,.slice b14 (n+1) d14]∧Rob wx W7.heap.size (.slice b14 (n+1) d14) (([]++S.take j)++[⟨ID,k,d⟩]++S.drop j)∧W7.grownBy wx (some q))
       case first =>
        have HBR:=hide (B7.kept (zak (zab W7 none)) (by simp))
        have HGE:=hide (zak (zab W7 none))
        have h70:W7.grownBy W7.drew (some q):=zak (zab _ _)
        refine wp_region_noPanic ?_
        refine wp_region_held_drew (S:=fun V=>W7.grownBy V (some q)) (by kernel_rfl) h70 (fun _ => ?_)
        obtain ⟨WE,hWE⟩:∃ V,V=W7.drew:=⟨_,rfl⟩
        rw[← hWE]
        rw[← hWE] at h70 HBR HGE
        clear hWE
        refine tq 0 81 (.fieldAddr 28 (.tmp 11) 1) (.pointer (some ⟨q,1,none⟩)) h70 ?_
        refine tq 2 83 (.fieldAddr 28 (.tmp 2) 1) (.pointer (some ⟨w.heap.size,1,none⟩)) h70 ?_
        refine tq 4 85 (.move (.tmp 9)) (.int .i64 (j:Int)) h70 ?_
        refine tz 7 88 (.load 47 (.tmp 3)) (.agg [Value.int IntKind.i64 k,Value.string TD].toArray) h70 ?_ (y:=(yieldsIf_load_mid (by rfl) _ _ rfl _ _ rfl [Value.int IntKind.i64 k,Value.string TD] _ (fun V hV=>zaf (uh HRB) hV (uh HNR)) Tryz.underlying47 rfl zdj))
        (try simp only[pq])
        refine tq 10 91 (.fieldAddr 28 (.tmp 2) 1) (.pointer (some ⟨w.heap.size,1,none⟩)) h70 ?_
        refine tq 12 93 (.move (.tmp 9)) (.int .i64 (j:Int)) h70 ?_
        refine tz 3 84 (.load 26 (.tmp 83)) (.slice a2 n c2) h70 ?_ (y:=(Or.inl ⟨by rfl,fun V hV=>by (have hv1:=hV.cell hc1 (uh HNQ);go_simp)⟩))
        refine tz 11 92 (.load 26 (.tmp 91)) (.slice a2 n c2) h70 ?_ (y:=(Or.inl ⟨by rfl,fun V hV=>by (have hv1:=hV.cell hc1 (uh HNQ);go_simp)⟩))
        (try simp only[pq])
        refine tz 5 86 (.slice 26 (.tmp 84) none (some (.tmp 85)) none) (.slice a2 j c2) h70 ?_ (y:=(Or.inl ⟨by rfl,fun V hV=>by (have z9:=uh HOT V;go_simp)⟩))
        refine tz 13 94 (.slice 26 (.tmp 92) (some (.tmp 93)) none none) (.slice (cutK a2 c2 j 2) (n - j) (c2 - j)) h70 ?_ (y:=(Or.inl ⟨by rfl,fun V hV=>by (have z9:=uh HOF V;go_simp)⟩))
        (try simp only[pq])
        refine wpAnyH_ready (rs:=[1,8]) (by kernel_rfl) (by simp) ?_
        refine AllReadyH.cons (o:=⟨some 82,.load 26 (.tmp 81),_,_,_,_⟩) rfl (fun K9 hK9 => ?_) (AllReadyH.cons (o:=⟨some 89,.buildSlice 26 1 #[(0,(.tmp 88))],_,_,_,_⟩) rfl (fun K9 hK9 => ?_) AllReadyH.nil)
        ·have z9:=((uh HBR)).cell 1
         simp only[List.getElem?_cons_zero,List.getElem?_cons_succ] at z9
         go_simp
         clear z9
         refine hK9.out _ _ h70 (fun _ => ?_)
         clear hK9 K9
         (try simp only[pq])
         refine wpAnyH_ready (rs:=[6,8]) (by kernel_rfl) (by simp) ?_
         refine AllReadyH.cons (o:=⟨some 87,.call { callee := .builtin .append,args := #[(.tmp 82),(.tmp 86)],argTypes := #[26,26] },_,_,_,_⟩) rfl (fun K9 hK9 => ?_) (AllReadyH.cons (o:=⟨some 89,.buildSlice 26 1 #[(0,(.tmp 88))],_,_,_,_⟩) rfl (fun K9 hK9 => ?_) AllReadyH.nil)
         ·refine zax (by rfl) _ _ rfl W7.heap.size (.slice none 0 0) [] _ rfl (Rob.nil _ _) a2 j c2 rfl (uh HL3) ((uh HO7).kept (uh HGE)) (by rw[← uh HL3];simp;omega) ((uh HGE)).size ?_
          intro x1 w1 o1 g1z
          have g1:WE.grownBy w1 none:=g1z
          clear g1z
          have G14_1:=tn (uh HGE) g1
          have h14_1:=zaw (some q) G14_1
          have B14_1:=((uh HBR)).kept g1 (by simp)
          refine hK9.out _ _ h14_1 (fun _ => ?_)
          clear hK9 K9
          (try simp only[pq])
          refine rd 8 (some 89) (.buildSlice 26 1 #[(0,(.tmp 88))]) (fun K9 hK9 => ?_)
          obtain ⟨w2,hw2,e2,g2⟩:=zag w1 47 (roC ⟨ID,k,d⟩)
          refine zar (by rfl) 26 _ rfl (.agg #[.int .i64 k,.string TD]) _ rfl (uh HBSO w1) ?_
          rw[← hw2]
          have E2:Rws w2 2 roC (some ⟨w1.heap.size,0,none⟩) 1 [(⟨ID,k,d⟩:ObE)]:=Rws.one e2
          have G14_2:=tn G14_1 g2
          have h14_2:=zaw (some q) G14_2
          have B14_2:=(B14_1).kept g2 (by simp)
          have O2:=o1.kept g2
          refine hK9.out _ _ h14_2 (fun _ => ?_)
          clear hK9 K9 hw2 e2
          (try simp only[pq])
          refine rd 9 (some 90) (.call { callee := .builtin .append,args := #[(.tmp 87),(.tmp 89)],argTypes := #[26,26] }) (fun K9 hK9 => ?_)
          refine zax (by rfl) _ _ rfl W7.heap.size x1 _ _ rfl O2 (some ⟨w1.heap.size,0,none⟩) 1 1 rfl rfl E2 (by simp only[List.length_append,List.length_nil,List.length_cons,← uh HL3];omega) (G14_2).size ?_
          intro x3 w3 o3 g3
          have G14_3:=zae G14_2 g3 (fun x e=>Or.inl ((World.ownsRow.lt O2) x e).1)
          have h14_3:=zaw (some q) G14_3
          have B14_3:=(B14_2).kept g3 (zaj O2 B14_2 (by decide))
          refine hK9.out _ _ h14_3 (fun _ => ?_)
          clear hK9 K9
          (try simp only[pq])
          refine rd 14 (some 95) (.call { callee := .builtin .append,args := #[(.tmp 90),(.tmp 94)],argTypes := #[26,26] }) (fun K9 hK9 => ?_)
          refine zax (by rfl) _ _ rfl W7.heap.size x3 _ _ rfl o3 _ (n - j) _ rfl (uh HL4) ((uh HQ7).kept G14_3) (by simp only[List.length_append,List.length_nil,List.length_cons,← uh HL3,← uh HL4];omega) (G14_3).size ?_
          intro x4 w4 o4 g4
          have G14_4:=zae G14_3 g4 (fun x e=>Or.inl ((World.ownsRow.lt o3) x e).1)
          have h14_4:=zaw (some q) G14_4
          have B14_4:=(B14_3).kept g4 (zaj o3 B14_3 (by decide))
          obtain ⟨b14,d14,hx14⟩:=zbd o4
          rw[uh HNN2] at hx14
          subst hx14
          have q14:=(B14_4).cell 1
          simp only[List.getElem?_cons_zero,List.getElem?_cons_succ] at q14
          have f14:=(B14_4).fz 1
          refine hK9.out _ _ h14_4 (fun _ => ?_)
          clear hK9 K9
          refine tq 15 96 (.fieldAddr 28 (.tmp 11) 1) (.pointer (some ⟨q,1,none⟩)) h14_4 ?_
          (try simp only[pq])
          refine rd 16 none (.store 26 (.tmp 96) (.tmp 95)) (fun K9 hK9 => ?_)
          go_simp
          have gs:=zcp w4 q 1 (.slice b14 (n+1) d14)
          have h9:=zae h14_4 gs (fun _ e=>Or.inr e)
          have B9:=(B14_4).set 1 (.slice b14 (n+1) d14)
          have O9:=World.ownsRow.kept o4 gs (Or.inr fun e=>zaj o4 B14_4 (by decide) e.symm)
          refine hK9.out _ _ h9 (fun _ => ?_)
          clear hK9 K9
          (try simp only[pq])
          refine wpAnyH_done (by kernel_rfl) ?_ _
          refine NoPanic.normal ?_
          go_wp2_with fail
          go_meet
          case rel=>exact ⟨_,_,(by simpa only[List.set_cons_succ,List.set_cons_zero] using B9),O9,h9⟩
         ·obtain ⟨w2,hw2,e2,g2⟩:=zag WE 47 (roC ⟨ID,k,d⟩)
          refine zar (by rfl) 26 _ rfl (.agg #[.int .i64 k,.string TD]) _ rfl (uh HBSO WE) ?_
          rw[← hw2]
          have E2:Rws w2 2 roC (some ⟨WE.heap.size,0,none⟩) 1 [(⟨ID,k,d⟩:ObE)]:=Rws.one e2
          have G14_1:=tn (uh HGE) g2
          have h14_1:=zaw (some q) G14_1
          have B14_1:=((uh HBR)).kept g2 (by simp)
          refine hK9.out _ _ h14_1 (fun _ => ?_)
          clear hK9 K9 hw2 e2
          (try simp only[pq])
          refine rd 6 (some 87) (.call { callee := .builtin .append,args := #[(.tmp 82),(.tmp 86)],argTypes := #[26,26] }) (fun K9 hK9 => ?_)
          refine zax (by rfl) _ _ rfl W7.heap.size (.slice none 0 0) [] _ rfl (Rob.nil _ _) a2 j c2 rfl (uh HL3) ((uh HO7).kept G14_1) (by rw[← uh HL3];simp;omega) (G14_1).size ?_
          intro x1 w1 o1 g1z
          have g1:w2.grownBy w1 none:=g1z
          clear g1z
          have G14_2:=tn G14_1 g1
          have h14_2:=zaw (some q) G14_2
          have B14_2:=(B14_1).kept g1 (by simp)
          have E1:=(E2).kept g1
          refine hK9.out _ _ h14_2 (fun _ => ?_)
          clear hK9 K9
          (try simp only[pq])
          refine rd 9 (some 90) (.call { callee := .builtin .append,args := #[(.tmp 87),(.tmp 89)],argTypes := #[26,26] }) (fun K9 hK9 => ?_)
          refine zax (by rfl) _ _ rfl W7.heap.size x1 _ _ rfl o1 (some ⟨WE.heap.size,0,none⟩) 1 1 rfl rfl E1 (by simp only[List.length_append,List.length_nil,List.length_cons,← uh HL3];omega) (G14_2).size ?_
          intro x3 w3 o3 g3
          have G14_3:=zae G14_2 g3 (fun x e=>Or.inl ((World.ownsRow.lt o1) x e).1)
          have h14_3:=zaw (some q) G14_3
          have B14_3:=(B14_2).kept g3 (zaj o1 B14_2 (by decide))
          refine hK9.out _ _ h14_3 (fun _ => ?_)
          clear hK9 K9
          (try simp only[pq])
          refine rd 14 (some 95) (.call { callee := .builtin .append,args := #[(.tmp 90),(.tmp 94)],argTypes := #[26,26] }) (fun K9 hK9 => ?_)
          refine zax (by rfl) _ _ rfl W7.heap.size x3 _ _ rfl o3 _ (n - j) _ rfl (uh HL4) ((uh HQ7).kept G14_3) (by simp only[List.length_append,List.length_nil,List.length_cons,← uh HL3,← uh HL4];omega) (G14_3).size ?_
          intro x4 w4 o4 g4
          have G14_4:=zae G14_3 g4 (fun x e=>Or.inl ((World.ownsRow.lt o3) x e).1)
          have h14_4:=zaw (some q) G14_4
          have B14_4:=(B14_3).kept g4 (zaj o3 B14_3 (by decide))
          obtain ⟨b14,d14,hx14⟩:=zbd o4
          rw[uh HNN2] at hx14
          subst hx14
          have q14:=(B14_4).cell 1
          simp only[List.getElem?_cons_zero,List.getElem?_cons_succ] at q14
          have f14:=(B14_4).fz 1
          refine hK9.out _ _ h14_4 (fun _ => ?_)
          clear hK9 K9
          refine tq 15 96 (.fieldAddr 28 (.tmp 11) 1) (.pointer (some ⟨q,1,none⟩)) h14_4 ?_
          (try simp only[pq])
          refine rd 16 none (.store 26 (.tmp 96) (.tmp 95)) (fun K9 hK9 => ?_)
          go_simp
          have gs:=zcp w4 q 1 (.slice b14 (n+1) d14)
          have h9:=zae h14_4 gs (fun _ e=>Or.inr e)
          have B9:=(B14_4).set 1 (.slice b14 (n+1) d14)
          have O9:=World.ownsRow.kept o4 gs (Or.inr fun e=>zaj o4 B14_4 (by decide) e.symm)
          refine hK9.out _ _ h9 (fun _ => ?_)
          clear hK9 K9
          (try simp only[pq])
          refine wpAnyH_done (by kernel_rfl) ?_ _
          refine NoPanic.normal ?_
          go_wp2_with fail
          go_meet
          case rel=>exact ⟨_,_,(by simpa only[List.set_cons_succ,List.set_cons_zero] using B9),O9,h9⟩
        ·obtain ⟨w2,hw2,e2,g2⟩:=zag WE 47 (roC ⟨ID,k,d⟩)
         refine zar (by rfl) 26 _ rfl (.agg #[.int .i64 k,.string TD]) _ rfl (uh HBSO WE) ?_
         rw[← hw2]
         have E2:Rws w2 2 roC (some ⟨WE.heap.size,0,none⟩) 1 [(⟨ID,k,d⟩:ObE)]:=Rws.one e2
         have G14_1:=tn (uh HGE) g2
         have h14_1:=zaw (some q) G14_1
         have B14_1:=((uh HBR)).kept g2 (by simp)
         refine hK9.out _ _ h14_1 (fun _ => ?_)
         clear hK9 K9 hw2 e2
         (try simp only[pq])
         refine rd 1 (some 82) (.load 26 (.tmp 81)) (fun K9 hK9 => ?_)
         have z9:=(B14_1).cell 1
         simp only[List.getElem?_cons_zero,List.getElem?_cons_succ] at z9
         go_simp
         clear z9
         refine hK9.out _ _ h14_1 (fun _ => ?_)
         clear hK9 K9
         (try simp only[pq])
         refine rd 6 (some 87) (.call { callee := .builtin .append,args := #[(.tmp 82),(.tmp 86)],argTypes := #[26,26] }) (fun K9 hK9 => ?_)
         refine zax (by rfl) _ _ rfl W7.heap.size (.slice none 0 0) [] _ rfl (Rob.nil _ _) a2 j c2 rfl (uh HL3) ((uh HO7).kept G14_1) (by rw[← uh HL3];simp;omega) (G14_1).size ?_
         intro x1 w1 o1 g1z
         have g1:w2.grownBy w1 none:=g1z
         clear g1z
         have G14_2:=tn G14_1 g1
         have h14_2:=zaw (some q) G14_2
         have B14_2:=(B14_1).kept g1 (by simp)
         have E1:=(E2).kept g1
         refine hK9.out _ _ h14_2 (fun _ => ?_)
         clear hK9 K9
         (try simp only[pq])
         refine rd 9 (some 90) (.call { callee := .builtin .append,args := #[(.tmp 87),(.tmp 89)],argTypes := #[26,26] }) (fun K9 hK9 => ?_)
         refine zax (by rfl) _ _ rfl W7.heap.size x1 _ _ rfl o1 (some ⟨WE.heap.size,0,none⟩) 1 1 rfl rfl E1 (by simp only[List.length_append,List.length_nil,List.length_cons,← uh HL3];omega) (G14_2).size ?_
         intro x3 w3 o3 g3
         have G14_3:=zae G14_2 g3 (fun x e=>Or.inl ((World.ownsRow.lt o1) x e).1)
         have h14_3:=zaw (some q) G14_3
         have B14_3:=(B14_2).kept g3 (zaj o1 B14_2 (by decide))
         refine hK9.out _ _ h14_3 (fun _ => ?_)
         clear hK9 K9
         (try simp only[pq])
         refine rd 14 (some 95) (.call { callee := .builtin .append,args := #[(.tmp 90),(.tmp 94)],argTypes := #[26,26] }) (fun K9 hK9 => ?_)
         refine zax (by rfl) _ _ rfl W7.heap.size x3 _ _ rfl o3 _ (n - j) _ rfl (uh HL4) ((uh HQ7).kept G14_3) (by simp only[List.length_append,List.length_nil,List.length_cons,← uh HL3,← uh HL4];omega) (G14_3).size ?_
         intro x4 w4 o4 g4
         have G14_4:=zae G14_3 g4 (fun x e=>Or.inl ((World.ownsRow.lt o3) x e).1)
         have h14_4:=zaw (some q) G14_4
         have B14_4:=(B14_3).kept g4 (zaj o3 B14_3 (by decide))
         obtain ⟨b14,d14,hx14⟩:=zbd o4
         rw[uh HNN2] at hx14
         subst hx14
         have q14:=(B14_4).cell 1
         simp only[List.getElem?_cons_zero,List.getElem?_cons_succ] at q14
         have f14:=(B14_4).fz 1
         refine hK9.out _ _ h14_4 (fun _ => ?_)
         clear hK9 K9
         refine tq 15 96 (.fieldAddr 28 (.tmp 11) 1) (.pointer (some ⟨q,1,none⟩)) h14_4 ?_
         (try simp only[pq])
         refine rd 16 none (.store 26 (.tmp 96) (.tmp 95)) (fun K9 hK9 => ?_)
         go_simp
         have gs:=zcp w4 q 1 (.slice b14 (n+1) d14)
         have h9:=zae h14_4 gs (fun _ e=>Or.inr e)
         have B9:=(B14_4).set 1 (.slice b14 (n+1) d14)
         have O9:=World.ownsRow.kept o4 gs (Or.inr fun e=>zaj o4 B14_4 (by decide) e.symm)
         refine hK9.out _ _ h9 (fun _ => ?_)
         clear hK9 K9
         (try simp only[pq])
         refine wpAnyH_done (by kernel_rfl) ?_ _
         refine NoPanic.normal ?_
         go_wp2_with fail
         go_meet
         case rel=>exact ⟨_,_,(by simpa only[List.set_cons_succ,List.set_cons_zero] using B9),O9,h9⟩
       case rest =>
        obtain ⟨b14,d14,hB8,hO8,hg8⟩:=hcut
        obtain ⟨W8,hW8⟩:∃ W,W=wc:=⟨_,rfl⟩
        rw[← hW8]
        rw[← hW8] at hB8 hO8 hg8
        clear hW8
        have hI8:=World.ownsRow.kept (uh HO7b) hg8 (Or.inr fun e=>zaj (uh HO7b) B7 (by decide) e.symm)
        have hB2:=(uh HB2).kept hg8 (uh HN2)
        have hr8:=zal hB8
        have hG8:=zae (uh HG7) hg8 (fun x e=>by cases e;exact Or.inl (uh HQG))
        have g9:W8.grownBy (W8.setRow (w.heap.size+2) #[.slice b13 (n+1) d13,.slice b14 (n+1) d14]) (some (w.heap.size+2)):=zam (zab _ _) _ (Or.inr rfl)
        have hfin:RSet (W8.setRow (w.heap.size+2) #[.slice b13 (n+1) d13,.slice b14 (n+1) d14]) base (.slice b13 (n+1) d13) (.slice b14 (n+1) d14) (putS S ⟨ID,k,d⟩):=by
         rw[uh HPM]
         refine ⟨?_,?_⟩
         ·rw[uh HID]
          exact za7 (World.ownsRow.kept hI8 g9 (Or.inr fun e=>zaj hI8 hB2 (by decide) e.symm)) (Nat.le_trans (uh HBA) (uh HG6).size)
         ·rw[uh HOB]
          exact za7 (World.ownsRow.kept hO8 g9 (Or.inr fun e=>zaj hO8 hB2 (by decide) e.symm)) (Nat.le_trans (uh HBA) (uh HG7).size)
        obtain ⟨HFIN,HG8,HB2x⟩:=zh3 hfin hG8 hB2
        clear hfin hG8 g9 hI8 hO8 hB8 hg8
        go_wp2_with (first | (refine wpList_load_mid rfl 28 _ rfl q 0 rfl [.slice b13 (n+1) d13,.slice b14 (n+1) d14] _ hr8 Tryz.underlying28 rfl zas ?_;clear hr8) | (refine wpList_store_row rfl 28 _ _ rfl (w.heap.size+2) _ rfl rfl _ _ hB2 zas rfl (zch _ _ _ _ _ _) ?_;clear hB2))
        refine bodyPost_ret (zd3 rfl _ _ _ _ _ _ _ rfl ((uh HB2x).row [.slice b13 (n+1) d13,.slice b14 (n+1) d14]) Tryz.underlying28 rfl zas) rfl ?_
        exact ⟨_,_,rfl,uh HFIN,zam (uh HG8) _ (Or.inl (by omega))⟩
theorem zwg {S:List ObE} {R:List (List UInt8)} {x:List UInt8} (h:Rch (prS S) R x):x∈zhh (fun e=>(telC e.k e.d).2.pars) S R:=by
 cases h with
 | root hm=>exact List.mem_append_left _ hm
 | next _ hy=>exact zwz S R _ _ hy
structure BefI (S:List ObE) (R O N X:List (List UInt8)) (P j:Nat):Prop where
 rnd:Rnd (prS S) R O (N.drop j) X
 nod:O.Nodup
 more:P<O.length∨X=[]
 le:P≤O.length
 len:X.length≤4*O.length
theorem BefI.few {S:List ObE} {R O N X:List (List UInt8)} {P j:Nat} (h:BefI S R O N X P j):O.length≤(zhh (fun e=>(telC e.k e.d).2.pars) S R).length :=
 zbn h.nod (fun x hx=>zwg (h.rnd.met x hx))
theorem BefI.skip {S:List ObE} {R O N X:List (List UInt8)} {P j:Nat} (h:BefI S R O N X P j) (hj:j<N.length) (hx:N[j]∈O):BefI S R O N X P (j+1) :=
 ⟨by have:=h.rnd;rw[List.drop_eq_getElem_cons hj] at this;exact this.skip hx,h.nod,h.more,h.le,h.len⟩
theorem BefI.take {S:List ObE} {R O N X:List (List UInt8)} {P j:Nat} (h:BefI S R O N X P j) (hj:j<N.length) (hx:N[j]∉O):BefI S R (O++[N[j]]) N (X++prS S N[j]) P (j+1):=by
 have hl:(O++[N[j]]).length=O.length+1:=by simp
 refine ⟨?_,List.nodup_append.2 ⟨h.nod,by simp,fun a ha b hb=>by rw[List.mem_singleton.1 hb];rintro rfl;exact hx ha⟩,Or.inl (by rw[hl];have:=h.le;omega),by rw[hl];have:=h.le;omega,?_⟩
 ·have:=h.rnd
  rw[List.drop_eq_getElem_cons hj] at this
  exact this.take (fun y=>by simp[or_comm]) rfl
 ·rw[hl,List.length_append]
  have:=h.len
  have:=(zdz S N[j]).1
  omega
def zyi (S:List ObE) (T:List (List UInt8)) (x:List UInt8):Prop:=(comS S x).isSome=true∧x∉T
def Best (S:List ObE) (T C:List (List UInt8)) (f:Bool) (b:List UInt8) (m:Nat):Prop :=
 (f=false→∀ y∈C,¬ zyi S T y)∧(f=true→b∈C∧comS S b=some m∧b∉T∧∀ y∈C,zyi S T y→zku S y b=false)
theorem Best.nil (S:List ObE) (T:List (List UInt8)) (b:List UInt8) (m:Nat):Best S T [] false b m:=⟨fun _ y hy=>by simp at hy,fun h=>by cases h⟩
theorem Best.old {S:List ObE} {T C:List (List UInt8)} {f:Bool} {b:List UInt8} {m:Nat} (h:Best S T C f b m) {y:List UInt8} (hy:¬ zyi S T y):Best S T (C++[y]) f b m:=by
 refine ⟨fun hf z hz => ?_,fun hf => ?_⟩
 ·rcases List.mem_append.1 hz with hz | hz
  ·exact h.1 hf z hz
  ·rw[List.mem_singleton.1 hz];exact hy
 ·obtain ⟨h1,h2,h3,h4⟩:=h.2 hf
  refine ⟨List.mem_append_left _ h1,h2,h3,fun z hz hfz => ?_⟩
  rcases List.mem_append.1 hz with hz | hz
  ·exact h4 z hz hfz
  ·rw[List.mem_singleton.1 hz] at hfz;exact absurd hfz hy
theorem zol {S:List ObE} {x y:List UInt8} {t m:Nat} (hx:comS S x=some t) (hy:comS S y=some m):zku S x y=if t=m then za8 x y else decide (m<t):=by
 unfold zku cmLt
 rw[hx,hy]
 rfl
theorem Best.worse {S:List ObE} {T C:List (List UInt8)} {b:List UInt8} {m:Nat} (h:Best S T C true b m) {y:List UInt8} {t:Nat} (hy:comS S y=some t) (h1:¬ m<t) (h2:t=m→za8 y b=false):Best S T (C++[y]) true b m:=by
 refine ⟨(fun hf=>by cases hf),fun hf => ?_⟩
 obtain ⟨q1,q2,q3,q4⟩:=h.2 hf
 refine ⟨List.mem_append_left _ q1,q2,q3,fun z hz hfz => ?_⟩
 rcases List.mem_append.1 hz with hz | hz
 ·exact q4 z hz hfz
 ·rw[List.mem_singleton.1 hz,zol hy q2]
  split
  ·exact h2 ‹_›
  ·simpa using h1
theorem Best.first {S:List ObE} {T C:List (List UInt8)} {b:List UInt8} {m:Nat} (h:Best S T C false b m) {y:List UInt8} {t:Nat} (hy:comS S y=some t) (hn:y∉T):Best S T (C++[y]) true y t:=by
 refine ⟨(fun hf=>by cases hf),fun _=>⟨by simp,hy,hn,fun z hz hfz => ?_⟩⟩
 rcases List.mem_append.1 hz with hz | hz
 ·exact absurd hfz (h.1 rfl z hz)
 ·rw[List.mem_singleton.1 hz];exact zem _
theorem Best.better {S:List ObE} {T C:List (List UInt8)} {b:List UInt8} {m:Nat} (h:Best S T C true b m) {y:List UInt8} {t:Nat} (hy:comS S y=some t) (hn:y∉T) (hb:m<t∨t=m∧za8 y b=true):Best S T (C++[y]) true y t:=by
 refine ⟨(fun hf=>by cases hf),fun _=>⟨by simp,hy,hn,fun z hz hfz => ?_⟩⟩
 obtain ⟨q1,q2,q3,q4⟩:=h.2 rfl
 rcases List.mem_append.1 hz with hz | hz
 ·have h1:=q4 z hz hfz
  have h2:zku S y b=true:=by
   rw[zol hy q2]
   rcases hb with hb | ⟨hb,hl⟩
   ·rw[if_neg (by omega)];simpa using hb
   ·rw[if_pos hb];exact hl
  cases h3:zku S z y with
  | false=>rfl
  | true =>
   unfold zku at h1 h2 h3
   rw[zfd _ _ _ h3 h2] at h1
   cases h1
 ·rw[List.mem_singleton.1 hz];exact zem _
theorem Best.end {S:List ObE} {T:List (List UInt8)} {b:List UInt8} {m:Nat} (h:Best S T (T.flatMap (prS S)) false b m):zs6 S T:=fun x hx =>
 h.1 rfl x (by obtain ⟨⟨c,hc,hp⟩,_⟩:=hx;exact List.mem_flatMap.2 ⟨c,hc,hp⟩) hx.2
theorem Best.step {S:List ObE} {T:List (List UInt8)} {b:List UInt8} {m:Nat} (h:Best S T (T.flatMap (prS S)) true b m):zi0 S T b:=by
 obtain ⟨q1,q2,q3,q4⟩:=h.2 rfl
 obtain ⟨c,hc,hp⟩:=List.mem_flatMap.1 q1
 exact ⟨⟨⟨c,hc,hp⟩,by rw[q2];rfl,q3⟩,fun y hy=>q4 y (by obtain ⟨⟨c,hc,hp⟩,_⟩:=hy;exact List.mem_flatMap.2 ⟨c,hc,hp⟩) hy.2⟩
theorem LogP.few {S:List ObE} {tip:List UInt8} {T:List (List UInt8)} (h:LogP S tip T):T.length≤S.length:=by
 have:=zbn h.nodup (fun x hx=>zoe (h.com x hx))
 simpa[idsS] using this
def Gone (S:List ObE) (T:List (List UInt8)) (i k:Nat):List (List UInt8):=(T.take i).flatMap (prS S)++(prS S (T.getD i [])).take k
theorem ztm (S:List ObE) (T:List (List UInt8)):Gone S T 0 0=[]:=by simp[Gone]
theorem ztn (S:List ObE) (T:List (List UInt8)) (i k:Nat) (hi:i<T.length) (hk:k=(prS S T[i]).length):Gone S T (i+1) 0=Gone S T i k:=by
 unfold Gone
 rw[List.take_succ_eq_append_getElem hi,List.flatMap_append,List.take_zero,List.append_nil,List.getD_eq_getElem?_getD,List.getElem?_eq_getElem hi,Option.getD_some,hk,List.take_length]
 simp
theorem zto (S:List ObE) (T:List (List UInt8)) (i k:Nat) (hi:i<T.length) (hk:k<(prS S T[i]).length):Gone S T i (k+1)=Gone S T i k++[(prS S T[i])[k]]:=by
 unfold Gone
 rw[List.getD_eq_getElem?_getD,List.getElem?_eq_getElem hi,Option.getD_some,List.take_succ_eq_append_getElem hk,List.append_assoc]
theorem zwh (S:List ObE) (T:List (List UInt8)):Gone S T T.length 0=T.flatMap (prS S):=by
 unfold Gone
 rw[List.take_length,List.take_zero,List.append_nil]
def putC (S:List ObE) (k:Int) (d:List UInt8):List ObE:=if zau k d=0 then putS S ⟨shaL (putL k d),k,d⟩ else S
theorem zwi (S:List ObE) (k:Int) (d:List UInt8):(putC S k d).length≤S.length+1:=by
 unfold putC
 split
 ·exact zn6 _ _
 ·omega
theorem zwj (u w:World) (sb mb:Nat) (S:List ObE) (h:SetAt u w sb mb S) (k:Int) (ao:Option Addr) (c:Nat) (d:List UInt8) (hd:Dat w ao c d) (hf:S.length<1000) (hT:Tabs w) :
  Calls Tryz.prog 32 #[.pointer (some ⟨sb,0,none⟩),.agg #[.int .i64 k,.slice ao d.length c]] w fun e w'=>∃ (x:List UInt8) (y:Int),e = .returned (.tuple #[keyV x,.int .i64 y])∧x.length=32∧y=zau k d∧(y=0→x=shaL (putL k d))∧SetAt u w' sb mb (putC S k d)∧w.grownBy w' (some mb):=by
 unfold putC
 by_cases hc:zau k d=0
 ·refine (zm2 u w sb mb S h k ao c d hd hc hf hT).mono ?_
  rintro e w' ⟨rfl,h1,h2⟩
  exact ⟨_,0,rfl,zbc _,hc.symm,fun _=>rfl,by rw[if_pos hc];exact h1,h2⟩
 ·refine (zvq u w sb mb S h k ao c d hd.bts hc).mono ?_
  rintro e w' ⟨rfl,h2⟩
  exact ⟨_,_,rfl,rfl,rfl,fun e=>absurd e hc,by rw[if_neg hc];exact h.none h2,zaw _ h2⟩
theorem ztp (w:World) (base:Nat) (v1 v2:Value) (S:List ObE) (h:RSet w base v1 v2 S) (hf:S.length≤1000) (hb:base≤w.heap.size) (k:Int) (d:List UInt8) (hd:d.length≤100000) :
  Calls Tryz.prog 36 #[.agg #[v1,v2],.agg #[.int .i64 k,.string (str d)]] w fun e w'=>∃ (a1 a2:Option Addr) (n1 n2 c1 c2:Nat) (x:List UInt8),e = .returned (.tuple #[.agg #[.slice a1 n1 c1,.slice a2 n2 c2],.string (str x),.int .i64 (zau k d)])∧(zau k d=0→x=shaL (putL k d))∧RSet w' base (.slice a1 n1 c1) (.slice a2 n2 c2) (putC S k d)∧w.grownBy w' none:=by
 unfold putC
 by_cases hc:zau k d=0
 ·refine (zwf w base v1 v2 S h hf hb k d hd hc).mono ?_
  rintro e w' ⟨u1,u2,rfl,h1,h2⟩
  obtain ⟨a1,c1,rfl⟩:=zbd h1.ids
  obtain ⟨a2,c2,rfl⟩:=zbd h1.obs
  exact ⟨a1,a2,_,_,c1,c2,_,by rw[hc],fun _=>rfl,by rw[if_pos hc];exact h1,h2⟩
 ·obtain ⟨a1,c1,rfl⟩:=zbd h.ids
  obtain ⟨a2,c2,rfl⟩:=zbd h.obs
  refine (ztl w a1 a2 _ _ c1 c2 k d hd hc).mono ?_
  rintro e w' ⟨rfl,h2⟩
  exact ⟨a1,a2,_,_,c1,c2,[],rfl,fun e=>absurd e hc,by rw[if_neg hc];exact h.kept h2,h2⟩
theorem zgm {u w a:World} {sb mb base n k:Nat} {S:List ObE} {t:TypeId} {v:Value} {xs:List Value} (h:w.ownsRow base t k v n xs) (s:SetAt u w sb mb S) (g:w.grownBy a (some mb)):a.ownsRow base t k v n xs:=by
 obtain ⟨R,m1,_⟩:=s.map
 refine h.kept g ?_
 by_cases e:v.ownBlock=none
 ·exact Or.inl e
 ·exact Or.inr fun e2=>m1.own h e2.symm
theorem RSet.setk {u w a:World} {sb mb base:Nat} {S T:List ObE} {v1 v2:Value} (h:RSet w base v1 v2 T) (s:SetAt u w sb mb S) (g:w.grownBy a (some mb)):RSet a base v1 v2 T:=⟨zgm h.ids s g,zgm h.obs s g⟩
theorem MadeG.setk {u w a:World} {sb mb base:Nat} {S:List ObE} {v1 v2:Value} {R:List ObjR} (h:MadeG w base v1 v2 R) (s:SetAt u w sb mb S) (g:w.grownBy a (some mb)):MadeG a base v1 v2 R :=
 ⟨⟨zgm h.objs.own s g,fun r hr=>(h.objs.bts r hr).kept g (fun x e ad e2 e3=>by cases e;exact s.typ (by rw[← e3];exact h.objs.typ r hr ad e2)),fun r hr ad e=>(h.objs.typ r hr ad e).kept g (fun e2=>by injection e2 with e2;exact s.typ (by rw[← e2];exact h.objs.typ r hr ad e))⟩,zgm h.ids s g,h.small⟩
theorem Blk.setk {u w a:World} {sb mb b:Nat} {S:List ObE} {t:TypeId} {cs:List Value} (h:Blk w b t cs) (s:SetAt u w sb mb S) (g:w.grownBy a (some mb)):Blk a b t cs:=by
 obtain ⟨R,m1,_⟩:=s.map
 exact h.kept g (fun e=>m1.blk h (by injection e with e;exact e.symm))
structure Nam (w:World) (base:Nat) (v:Value) (X:List (List UInt8)):Prop where
 own:w.ownsRow base 33 32 v X.length (X.flatMap (·.map bv))
 wid:∀ x∈X,x.length=32
theorem Nam.none {w a:World} {base:Nat} {v:Value} {X:List (List UInt8)} (h:Nam w base v X) (g:w.grownBy a Option.none):Nam a base v X:=⟨zbg h.own g (fun _ e=>by cases e),h.wid⟩
theorem Nam.low {w:World} {b1 b2:Nat} {v:Value} {X:List (List UInt8)} (h:Nam w b1 v X) (hb:b2≤b1):Nam w b2 v X:=⟨za7 h.own hb,h.wid⟩
theorem Nam.setk {u w a:World} {sb mb base:Nat} {S:List ObE} {v:Value} {X:List (List UInt8)} (h:Nam w base v X) (s:SetAt u w sb mb S) (g:w.grownBy a (some mb)):Nam a base v X:=⟨zgm h.own s g,h.wid⟩
theorem Nam.open {w:World} {base:Nat} {v:Value} {X:List (List UInt8)} (h:Nam w base v X):∃ a c,v = .slice a X.length c∧Ids w a c X∧∀ ad,a=some ad→ad.block<w.heap.size:=by
 obtain ⟨a,c,rfl,hI⟩:=Ids.own h.own h.wid
 refine ⟨a,c,rfl,hI,fun ad e => ?_⟩
 subst e
 exact (h.own.lt ad.block (by simp[Value.ownBlock])).2
theorem Nam.ids {w:World} {base n c:Nat} {a:Option Addr} {X:List (List UInt8)} (h:Nam w base (.slice a n c) X):Ids w a c X∧∀ ad,a=some ad→ad.block<w.heap.size:=by
 obtain ⟨a2,c2,e,hI,hl⟩:=h.open
 injection e with e1 e2 e3
 subst e1 e3
 exact ⟨hI,hl⟩
theorem Nam.at {w:World} {base n c:Nat} {a:Option Addr} {X:List (List UInt8)} (h:Nam w base (.slice a n c) X) (i:Nat) (hi:i<X.length):∃ b o,a=some ⟨b,o,Option.none⟩∧w.rangeAt b (o+i*32) (X[i].map bv):=by
 obtain ⟨b,o,e,hr⟩:=h.ids.1.at i hi
 exact ⟨b,o,e,hr i hi⟩
structure Pk (w w4 wr:World) (sb mb tb nb:Nat) (S H:List ObE) (V:List (Value × List (List UInt8))):Prop where
 s:SetAt w wr sb mb S
 h:SetAt w4 wr tb nb H
 ne:mb≠nb
 rows:∀ p∈V,Nam wr w.heap.size p.1 p.2
 g:w.grownBy wr none
 wn:w.heap.size≤w4.heap.size
theorem Pk.none {w w4 wr a:World} {sb mb tb nb:Nat} {S H:List ObE} {V:List (Value × List (List UInt8))} (k:Pk w w4 wr sb mb tb nb S H V) (g:wr.grownBy a Option.none):Pk w w4 a sb mb tb nb S H V :=
 ⟨k.s.none g,k.h.none g,k.ne,fun p hp=>(k.rows p hp).none g,tn k.g g,k.wn⟩
theorem Pk.put {w w4 wr a:World} {sb mb tb nb:Nat} {S H H' : List ObE} {V:List (Value × List (List UInt8))} (k:Pk w w4 wr sb mb tb nb S H V) (h:SetAt w4 a tb nb H') (g:wr.grownBy a (some nb)):Pk w w4 a sb mb tb nb S H' V :=
 ⟨k.s.other k.h g k.ne,h,k.ne,fun p hp=>(k.rows p hp).setk k.h g,zae k.g g (fun x e=>by cases e;exact Or.inl (Nat.le_trans k.wn k.h.nm)),k.wn⟩
theorem Pk.add {w w4 wr:World} {sb mb tb nb:Nat} {S H:List ObE} {V:List (Value × List (List UInt8))} {v:Value} {X:List (List UInt8)} (k:Pk w w4 wr sb mb tb nb S H V) (n:Nam wr w.heap.size v X):Pk w w4 wr sb mb tb nb S H ((v,X)::V) :=
 ⟨k.s,k.h,k.ne,fun p hp=>by rcases List.mem_cons.1 hp with rfl | hp;exact n;exact k.rows p hp,k.g,k.wn⟩
theorem Nam.rws {w:World} {base n c:Nat} {a:Option Addr} {X:List (List UInt8)} (h:Nam w base (.slice a n c) X):Rws w 32 (fun x:List UInt8=>x.map bv) a c X:=by
 obtain ⟨a2,c2,e,hr,_⟩:=Rws.own (fun x:List UInt8=>x.map bv) h.own (fun x hx=>by simp[h.wid x hx])
 injection e with e1 e2 e3
 subst e1 e3
 exact hr
theorem zwk (w:World):(zeroValue 33).run Tryz.prog w = .ok (.agg (zz32.map bv).toArray) w:=by kernel_rfl
theorem zzc (x:List UInt8):(x.map bv).toArray.all (·.oneCell')=true:=all_oneCell_toArray (za6 _)
set_option maxHeartbeats 8000000 in
theorem zqn (w:World) (ao:Option Addr) (ac:Nat) (L:List PlnR) (hL:Plns w ao ac L) (hT:Tabs w) :
  Calls Tryz.prog 9 #[.slice ao L.length ac] w fun e w'=>∃ (sb mb:Nat) (a1 a2 ia:Option Addr) (n1 n2 c1 c2 ic:Nat) (S:List ObE) (I:List (List UInt8)),e = .returned (.tuple #[.pointer (some ⟨sb,0,none⟩),.agg #[.slice a1 n1 c1,.slice a2 n2 c2],.slice ia I.length ic])∧SetAt w w' sb mb S∧RSet w' w.heap.size (.slice a1 n1 c1) (.slice a2 n2 c2) S∧w'.ownsRow w.heap.size 33 32 (.slice ia I.length ic) I.length (I.flatMap (·.map bv))∧(∀ x∈I,x.length=32)∧I.length≤24∧S.length≤24∧w.grownBy w' none:=by
 obtain ⟨p,hp⟩:∃ p,p=L.length:=⟨_,rfl⟩
 have hpm:p≤9223372036854775807:=by rw[hp];have:=hL.fits;have:=hL.most;unfold maxLen at this;omega
 obtain ⟨W0,hW0,hB0,g0⟩:=zag w 28 [.slice none 0 0,.slice none 0 0]
 have hzv:=zgl
 have hzi:=zwk
 have cn:=zob W0
 rw[← hp]
 obtain ⟨HW0,HG0,HL,HT,HP,HB0⟩:=zh6 hW0 g0 hL hT hp hB0
 clear hW0 hL hT hp hB0 g0
 go_enter Tryz.func9,Tryz.ntmps9
 go_wp2_with (rw[← uh HW0])
 refine cn.mono ?_
 rintro e w1 ⟨sb,mb,rfl,hS1,g1⟩
 obtain ⟨W2,hW2,hB2,g2⟩:=zag w1 28 [.slice none 0 0,.slice none 0 0]
 have G2:=tn (tn (uh HG0) g1) g2
 have cm:=zti W2 ao ac L ((uh HL).kept G2) ((uh HT).kept0 G2)
 rw[← uh HP] at cm
 obtain ⟨HW2,HG2⟩:=zh2 hW2 G2
 have HS2:=hide (hS1.none g2)
 have HB2:=hide hB2
 have HBR:=hide (((uh HB0).kept g1 (by simp)).kept g2 (by simp))
 have HL1:Hid (w.heap.size<w1.heap.size):=Nat.lt_of_lt_of_le (uh HB0).lt g1.size
 clear cn hS1 g1 hW2 hB2 g2 G2
 go_wp2_with (rw[← uh HW2])
 refine cm.mono ?_
 rintro e w3 ⟨v7,v8,R,rfl,hM3,hR24,hRp,g3⟩
 have hS3:=(uh HS2).none g3
 have hB3:=(uh HB2).kept g3 (by simp)
 have hBR3:=(uh HBR).kept g3 (by simp)
 have G3:=tn (uh HG2) g3
 obtain ⟨oa,oc,e7,hob⟩:=hM3.objs.open
 have hIr:w3.ownsRow W2.heap.size 33 32 v8 (R.map idR).length ((R.map idR).flatMap (·.map bv)):=by simpa using hM3.ids
 obtain ⟨ia,ic,e8,hI8⟩:=Ids.own hIr (fun x hx=>by obtain ⟨r,_,rfl⟩:=List.mem_map.1 hx;exact zkx r)
 rw[List.length_map] at e8
 obtain ⟨n,hn⟩:∃ n,n=R.length:=⟨_,rfl⟩
 rw[← hn] at e7 e8
 subst e7 e8
 obtain ⟨HM3,HS3,HB3,HBR3,HG3,HN⟩:=zh6 hM3 hS3 hB3 hBR3 G3 hn
 have hn24:n≤24:=by omega
 have hnp:n≤p:=by rw[hn];exact hRp
 have HWW:Hid (w.heap.size≤W2.heap.size):=(uh HG2).size
 clear cm hM3 hS3 hB3 hBR3 G3 hob hIr hI8 hn hRp hR24 g3
 go_wp2
 go_loopw [9,10,11,12,13,14] (fun i _x10 _x11 _x12 _x13 _x14 wr=>∃ (j:Nat) (S:List ObE) (a1 a2:Option Addr) (n1 n2 c1 c2:Nat),i = .int .i64 j∧j≤n∧S.length≤j∧SetAt W0 wr sb mb S∧Blk wr w1.heap.size 28 [.slice a1 n1 c1,.slice a2 n2 c2]∧Blk wr w.heap.size 28 [.slice none 0 0,.slice none 0 0]∧RSet wr W0.heap.size (.slice a1 n1 c1) (.slice a2 n2 c2) S∧MadeG wr W2.heap.size (.slice oa n oc) (.slice ia n ic) R∧w.grownBy wr none) (fun i _ _ _ _ _ _=>n - (intOf i).toNat)
 case atStart=>exact ⟨0,[],none,none,0,0,0,0,rfl,Nat.zero_le _,Nat.zero_le _,uh HS3,uh HB3,uh HBR3,RSet.nil _ _,uh HM3,uh HG3⟩
 case round =>
  obtain ⟨j,S,a1,a2,n1,n2,c1,c2,rfl,hjn,hSj,hS,hB,hBR,hR,hM,hg⟩:=hrel
  obtain ⟨WR,hWR⟩:∃ V,V=wr:=⟨_,rfl⟩
  subst hWR
  by_cases hlt:j<n
  ·have hjL:j<L.length:=by rw[← uh HP];omega
   have hjR:j<R.length:=by rw[← uh HN];exact hlt
   obtain ⟨pb,pf,hao,hrow,-,-⟩:=((uh HL).kept hg).at j hjL
   obtain ⟨gb,hgb⟩:∃ b,b=L[j].gone:=⟨_,rfl⟩
   have hcg:WR.cell? ⟨pb,pf+j*4+3,none⟩=some (.bool gb):=by rw[hgb];exact hrow 3 _ rfl
   clear hrow hjL hgb
   have hjp:j<p:=by omega
   have hjw:IntKind.i64.wrap ((j:Int)+1)=(j:Int)+1:=by rw[IntKind.wrap_i64];omega
   cases gb with
   | true =>
    subst hao
    go_wp2
    go_roundw
    case rel=>exact ⟨j+1,S,a1,a2,n1,n2,c1,c2,by go_num,by omega,by omega,hS,hB,hBR,hR,hM,hg⟩
    case measure=>simp[intOf];omega
   | false =>
    obtain ⟨rr,hrr⟩:∃ r,r=R[j]:=⟨_,rfl⟩
    have hDr:Dat WR rr.ao rr.c rr.data:=by rw[hrr];exact ⟨hM.objs.bts _ (List.getElem_mem hjR),hM.objs.typ _ (List.getElem_mem hjR)⟩
    have hsm:rr.data.length≤16384:=by rw[hrr];exact hM.small _ (List.getElem_mem hjR)
    obtain ⟨oa9,oc9,e9,hob⟩:=hM.objs.open
    have hee:oa9=oa:=by injection e9 with x y z;exact x.symm
    subst hee
    obtain ⟨ob,of,hoa,hk1,hk2⟩:=hob j hjR
    rw[← hrr] at hk1 hk2
    obtain ⟨kk,d,oo,cc,rfl⟩:∃ kk d oo cc,rr=⟨kk,d,oo,cc⟩:=⟨rr.kind,rr.data,rr.ao,rr.c,rfl⟩
    simp only at hDr hsm hk1 hk2
    obtain ⟨dn,hdn⟩:∃ n,n=d.length:=⟨_,rfl⟩
    rw[← hdn] at hk2
    obtain ⟨OC,hOC⟩:∃ C,C=[Value.int .i64 (kk:Int),Value.slice oo dn cc]:=⟨_,rfl⟩
    have hro0:WR.rangeAt ob (of+j*2) OC:=by
     rw[hOC]
     intro m v hv
     match m,hv with
     | 0,hv=>simp at hv;subst hv;simpa using hk1
     | 1,hv=>simp at hv;subst hv;simpa using hk2
    have hiO:(Tryz.prog.info? 42).map (·.size)=some OC.length:=by rw[hOC];exact zav
    have cp:=zwj W0 WR sb mb S hS (kk:Int) oo cc d hDr (by omega) ((uh HT).kept0 hg)
    rw[← hdn] at cp
    have hOa:Value.agg OC.toArray = .agg #[.int .i64 (kk:Int),.slice oo dn cc]:=by rw[hOC]
    rw[← hOa] at cp
    obtain ⟨HOa,HOC⟩:=zh2 hOa hOC
    have HRR:Hid (∀ h:j<R.length,idR (R[j]'h)=shaL (putL (kk:Int) d)):=fun h=>by rw[← hrr];rfl
    obtain ⟨HIO,HRO,HJR,HDR,HSM,HDN⟩:=zh6 hiO hro0 hjR hDr hsm hdn
    obtain ⟨HS,HB,HBR,HR,HM,HG⟩:=zh6 hS hB hBR hR hM hg
    clear hOC hOa hrr hk1 hk2 hob e9 hro0 hDr hsm hdn hS hB hBR hR hM hg hjR hiO
    subst hao hoa
    go_upto_region 9 with (first
     | (refine wpList_load_mid rfl 42 _ rfl ob (of+j*2) rfl OC _ (uh HRO) Tryz.underlying42 rfl (uh HIO) ?_)
     | (go_at_call 32;refine cp.mono ?_;rintro e w4 ⟨x,y,rfl,hx32,hy,hxe,hS4,g4⟩;clear cp;obtain ⟨KB,hKB⟩:∃ KB,KB=x.map bv:=⟨_,rfl⟩;rw[show keyV x = .agg KB.toArray from congrArg (fun l=>Value.agg (List.toArray l)) hKB.symm];obtain ⟨W4,hW4,hI4,gi4⟩:=zbl w4 33 (zz32.map bv).toArray KB;have hKl:KB.length=32:=(congrArg List.length hKB).trans ((List.length_map _).trans hx32);have HW4:=hide hW4;have HIK2:Hid ((Tryz.prog.info? 33).map (·.size)=some KB.toArray.size):=(show _=some KB.toArray.size from (by rw[show KB.toArray.size=32 from (List.size_toArray ..).trans hKl];exact zat));have HKO:Hid (KB.toArray.all (·.oneCell')=true):=(by rw[hKB];exact zzc x);have HZS:Hid ((zz32.map bv).toArray.size=KB.toArray.size):=(show _=_ from (by rw[show KB.toArray.size=32 from (List.size_toArray ..).trans hKl];rfl));have HNB:=hide (show Blk (w4.alloc (.cells (zz32.map bv).toArray 33)) w4.heap.size 33 (zz32.map bv) from Blk.new w4 33 (zz32.map bv));have HKBq:=hide hKB;have HYq:=hide hy;have HXEq:=hide hxe;have HX32q:=hide hx32;have HKLq:=hide hKl;clear hW4 hKB hy hxe hx32 hKl)
     | (refine wpList_store_row rfl 33 _ _ rfl w4.heap.size _ rfl rfl _ _ (uh HNB) (uh HIK2) (uh HZS) (uh HKO) ?_;rw[← uh HW4]))
    have hKB:=uh HKBq
    have hy:=uh HYq
    have hxe:=uh HXEq
    have hx32:=uh HX32q
    have hKl:=uh HKLq
    have hM4:=((uh HM).setk (uh HS) g4).none gi4
    have hR4:=((uh HR).setk (uh HS) g4).kept gi4
    have hB4:=((uh HB).setk (uh HS) g4).kept gi4 (by simp)
    have hBR4:=((uh HBR).setk (uh HS) g4).kept gi4 (by simp)
    have hS5:=hS4.none gi4
    have hG4:w.grownBy W4 none:=tn (zae (uh HG) g4 (fun z e=>by cases e;exact Or.inl (Nat.le_trans (uh HG0).size hS4.nm))) gi4
    have hD4:=((uh HDR).kept g4 (fun z e=>by cases e;exact (uh HS).typ)).none gi4
    have hrs:=zal hB4
    have hro:W4.rangeAt ob (of+j*2) OC:=by
     obtain ⟨oa2,oc2,e2,hob2⟩:=hM4.objs.open
     obtain ⟨ob2,of2,h1,h2,h3⟩:=hob2 j (uh HJR)
     have e3:some (⟨ob,of,none⟩:Addr)=oa2:=by injection e2
     rw[← e3] at h1
     injection h1 with h1
     injection h1 with q1 q2
     subst q1 q2
     have hr0:=uh HRO
     rw[uh HOC] at hr0 ⊢
     have z1:=hr0 0 _ rfl
     have z2:=hr0 1 _ rfl
     obtain ⟨oa5,oc5,e5,hob5⟩:=(uh HM).objs.open
     obtain ⟨ob5,of5,k1,k2,k3⟩:=hob5 j (uh HJR)
     have e6:some (⟨ob,of,none⟩:Addr)=oa5:=by injection e5
     rw[← e6] at k1
     injection k1 with k1
     injection k1 with r1 r2
     subst r1 r2
     rw[Nat.add_zero] at z1
     rw[k2] at z1
     rw[k3] at z2
     injection z1 with z1
     injection z2 with z2
     intro m v hv
     match m,hv with
     | 0,hv=>simp at hv;subst hv;rw[Nat.add_zero,h2,z1]
     | 1,hv=>simp at hv;subst hv;rw[h3,z2]
    have hown:∀ V,W4.grownBy V none→Calls Tryz.prog 16 #[.agg OC.toArray] V fun e w'=>e = .returned (.agg #[.int .i64 (kk:Int),.string (str d)])∧V.grownBy w' none:=fun V gV=>by
     have:=zvs V (kk:Int) oo cc d (hD4.none gV).bts
     rw[← uh HDN,← uh HOa] at this
     exact this
    have hrput:∀ V,W4.grownBy V none→Calls Tryz.prog 36 #[.agg #[.slice a1 n1 c1,.slice a2 n2 c2],.agg #[.int .i64 (kk:Int),.string (str d)]] V fun e w'=>∃ (b1 b2:Option Addr) (m1 m2 d1 d2:Nat) (X:List UInt8),e = .returned (.tuple #[.agg #[.slice b1 m1 d1,.slice b2 m2 d2],.string (str X),.int .i64 y])∧(y=0→X=shaL (putL (kk:Int) d))∧RSet w' W0.heap.size (.slice b1 m1 d1) (.slice b2 m2 d2) (putC S (kk:Int) d)∧V.grownBy w' none:=fun V gV=>by
     rw[hy]
     exact ztp V W0.heap.size _ _ S (hR4.kept gV) (by omega) (Nat.le_trans hS4.ns (Nat.le_trans (Nat.le_of_lt hS5.blk.lt) gV.size)) (kk:Int) d (by have:=uh HSM;omega)
    have hcv:∀ V,W4.grownBy V none→(convert 37 9 (.slice (some ⟨w4.heap.size,0,none⟩) 32 32)).run Tryz.prog V = .ok (.string (str x)) V:=fun V gV=>by
     have hq:=zaf (zal hI4) gV (by simp)
     rw[hKB] at hq
     have:=zaz (zci hq (by rw[hx32];unfold maxLen;omega))
     rw[hx32] at this
     exact this
    obtain ⟨HOWN,HRPUT,HCV4,HM4,HB4,HBR4⟩:=zh6 hown hrput hcv hM4 hB4 hBR4
    obtain ⟨HS5,HG4,HI4,HXE,HX32,HKB⟩:=zh6 hS5 hG4 hI4 hxe hx32 hKB
    have HKL:=hide hKl
    have HBL:Hid (w1.heap.size<W4.heap.size):=hB4.lt
    have HI4L:Hid (w4.heap.size<W4.heap.size):=hI4.lt
    clear hM4 hR4 hB4 hBR4 hS5 hG4 hD4 hown hrput hcv hI4 hxe hx32 hKB hKl hy hS4 g4 gi4
    (try simp only[Act.put])
    go_cut [12,13,14] (fun x12 x13 x14 wx=>∃ (p12:Nat) (b1 b2:Option Addr) (m1 m2 d1 d2:Nat) (X:List UInt8),x12 = .pointer (some ⟨p12,0,none⟩)∧x13 = .string (str X)∧x14 = .int .i64 y∧(y=0→X=shaL (putL (kk:Int) d))∧Blk wx p12 28 [.slice b1 m1 d1,.slice b2 m2 d2]∧W4.heap.size≤p12∧RSet wx W0.heap.size (.slice b1 m1 d1) (.slice b2 m2 d2) (putC S (kk:Int) d)∧W4.grownBy wx none)
    case first =>
     as_aux_lemma =>
     have h0:W4.grownBy W4.drew none:=zak (zab _ _)
     refine wp_region_noPanic ?_
     refine wp_region_held_drew (S:=fun V=>W4.grownBy V none) (by kernel_rfl) h0 (fun _ => ?_)
     obtain ⟨WD,hWD⟩:∃ V,V=W4.drew:=⟨_,rfl⟩
     rw[← hWD]
     rw[← hWD] at h0
     clear hWD
     refine tz 0 42 (.load 28 (.tmp 6)) (.agg [Value.slice a1 n1 c1,Value.slice a2 n2 c2].toArray) h0 ?_ (y:=(yieldsIf_load_mid (by rfl) _ _ rfl _ _ rfl [Value.slice a1 n1 c1,Value.slice a2 n2 c2] _ (fun V hV=>zaf hrs hV (by simp)) Tryz.underlying28 rfl zas))
     refine tq 1 43 (.move (.tmp 7)) (.slice (some ⟨ob,of,none⟩) n oc) h0 ?_
     refine tq 2 44 (.move (.tmp 9)) (.int .i64 (j:Int)) h0 ?_
     refine tq 3 45 (.indexAddr 78 (.tmp 43) (.tmp 44)) (.pointer (some ⟨ob,of+j*2,none⟩)) h0 ?_
     (try simp only[pq])
     refine tz 4 46 (.load 42 (.tmp 45)) (.agg OC.toArray) h0 ?_ (y:=(yieldsIf_load_mid (by rfl) _ _ rfl _ _ rfl OC _ (fun V hV=>zaf hro hV (by simp)) Tryz.underlying42 rfl (uh HIO)))
     (try simp only[pq])
     refine wpAnyH_ready (rs:=[5,11]) (by kernel_rfl) (by simp) ?_
     refine AllReadyH.cons (o:=⟨some 47,.call { callee := .value (.func 16),args := #[(.tmp 46)],argTypes := #[42] },_,_,_,_⟩) rfl (fun K9 hK9 => ?_) (AllReadyH.cons (o:=⟨some 12,.alloc 28,_,_,_,_⟩) rfl (fun K9 hK9 => ?_) AllReadyH.nil)
     ·go_simp
      go_at_call 16
      refine (uh HOWN WD h0).mono ?_
      rintro e wo ⟨rfl,go⟩
      go_wp2_with fail
      have ho:=tn h0 go
      refine hK9.out _ _ ho (fun _ => ?_)
      clear hK9 K9 go
      (try simp only[pq])
      refine wpAnyH_ready (rs:=[6,11]) (by kernel_rfl) (by simp) ?_
      refine AllReadyH.cons (o:=⟨some 48,.call { callee := .value (.func 36),args := #[(.tmp 42),(.tmp 47)],argTypes := #[28,47] },_,_,_,_⟩) rfl (fun K9 hK9 => ?_) (AllReadyH.cons (o:=⟨some 12,.alloc 28,_,_,_,_⟩) rfl (fun K9 hK9 => ?_) AllReadyH.nil)
      ·go_simp
       go_at_call 36
       refine (uh HRPUT wo ho).mono ?_
       rintro e wp ⟨b1,b2,m1,m2,d1,d2,X,rfl,hX,hR5,gp⟩
       obtain ⟨TX,hTX⟩:∃ T,T=str X:=⟨_,rfl⟩
       rw[← hTX]
       go_wp2_with fail
       have hp:=tn ho gp
       refine hK9.out _ _ hp (fun _ => ?_)
       clear hK9 K9 gp
       refine tq 7 41 (.move (.tmp 48)) (.tuple #[.agg #[.slice b1 m1 d1,.slice b2 m2 d2],.string TX,.int .i64 y]) hp ?_
       refine tq 8 49 (.extract (.tmp 41) 0) (.agg #[.slice b1 m1 d1,.slice b2 m2 d2]) hp ?_
       refine tq 9 50 (.extract (.tmp 41) 1) (.string TX) hp ?_
       (try simp only[pq])
       refine tq 10 51 (.extract (.tmp 41) 2) (.int .i64 y) hp ?_
       (try simp only[pq])
       refine rd 11 (some 12) (.alloc 28) (fun K9 hK9 => ?_)
       obtain ⟨wa,hwa,hB12,ga⟩:=zag wp 28 [.slice none 0 0,.slice none 0 0]
       go_simp
       rw[← hwa]
       have ha:=tn hp ga
       have hp12:W4.heap.size≤wp.heap.size:=(hp).size
       replace hR5:=hR5.kept ga
       refine hK9.out _ _ ha (fun _ => ?_)
       clear hK9 K9 hwa ga
       (try simp only[pq])
       refine rd 12 none (.store 28 (.tmp 12) (.tmp 49)) (fun K9 hK9 => ?_)
       rw[if_pos (by rfl)]
       refine wp_store_row _ _ _ rfl (wp.heap.size) _ rfl rfl _ _ hB12 zas rfl (zch _ _ _ _ _ _) ?_
       have h9:=zam ha #[.slice b1 m1 d1,.slice b2 m2 d2] (Or.inl hp12)
       have gr9:wa.grownBy (wa.setRow (wp.heap.size) #[.slice b1 m1 d1,.slice b2 m2 d2]) (some (wp.heap.size)):=zam (zab _ _) _ (Or.inr rfl)
       have hR9:RSet _ W0.heap.size (.slice b1 m1 d1) (.slice b2 m2 d2) (putC S (kk:Int) d):=⟨World.ownsRow.kept hR5.ids gr9 (Or.inr fun e=>zaj hR5.ids hB12 (by decide) e.symm),World.ownsRow.kept hR5.obs gr9 (Or.inr fun e=>zaj hR5.obs hB12 (by decide) e.symm)⟩
       have hB9:=hB12.row [.slice b1 m1 d1,.slice b2 m2 d2]
       refine hK9.out _ _ h9 (fun _ => ?_)
       clear hK9 K9
       (try simp only[Act.put])
       refine tq 13 13 (.assign (.tmp 50)) (.string TX) h9 ?_
       refine tq 14 14 (.assign (.tmp 51)) (.int .i64 y) h9 ?_
       (try simp only[pq])
       refine wpAnyH_done (by kernel_rfl) ?_ _
       refine NoPanic.normal ?_
       go_wp2_with fail
       go_meet
       case rel=>exact ⟨wp.heap.size,b1,b2,m1,m2,d1,d2,X,rfl,(by rw[hTX]),rfl,hX,hB9,hp12,hR9,h9⟩
      ·obtain ⟨wa,hwa,hB12,ga⟩:=zag wo 28 [.slice none 0 0,.slice none 0 0]
       go_simp
       rw[← hwa]
       have ha:=tn ho ga
       have hp12:W4.heap.size≤wo.heap.size:=(ho).size
       refine hK9.out _ _ ha (fun _ => ?_)
       clear hK9 K9 hwa ga
       (try simp only[pq])
       refine rd 6 (some 48) (.call { callee := .value (.func 36),args := #[(.tmp 42),(.tmp 47)],argTypes := #[28,47] }) (fun K9 hK9 => ?_)
       go_simp
       go_at_call 36
       refine (uh HRPUT wa ha).mono ?_
       rintro e wp ⟨b1,b2,m1,m2,d1,d2,X,rfl,hX,hR5,gp⟩
       obtain ⟨TX,hTX⟩:∃ T,T=str X:=⟨_,rfl⟩
       rw[← hTX]
       go_wp2_with fail
       have hp:=tn ha gp
       replace hB12:=hB12.kept gp (by simp)
       refine hK9.out _ _ hp (fun _ => ?_)
       clear hK9 K9 gp
       refine tq 7 41 (.move (.tmp 48)) (.tuple #[.agg #[.slice b1 m1 d1,.slice b2 m2 d2],.string TX,.int .i64 y]) hp ?_
       refine tq 8 49 (.extract (.tmp 41) 0) (.agg #[.slice b1 m1 d1,.slice b2 m2 d2]) hp ?_
       refine tq 9 50 (.extract (.tmp 41) 1) (.string TX) hp ?_
       (try simp only[pq])
       refine tq 10 51 (.extract (.tmp 41) 2) (.int .i64 y) hp ?_
       (try simp only[pq])
       refine rd 12 none (.store 28 (.tmp 12) (.tmp 49)) (fun K9 hK9 => ?_)
       rw[if_pos (by rfl)]
       refine wp_store_row _ _ _ rfl (wo.heap.size) _ rfl rfl _ _ hB12 zas rfl (zch _ _ _ _ _ _) ?_
       have h9:=zam hp #[.slice b1 m1 d1,.slice b2 m2 d2] (Or.inl hp12)
       have gr9:wp.grownBy (wp.setRow (wo.heap.size) #[.slice b1 m1 d1,.slice b2 m2 d2]) (some (wo.heap.size)):=zam (zab _ _) _ (Or.inr rfl)
       have hR9:RSet _ W0.heap.size (.slice b1 m1 d1) (.slice b2 m2 d2) (putC S (kk:Int) d):=⟨World.ownsRow.kept hR5.ids gr9 (Or.inr fun e=>zaj hR5.ids hB12 (by decide) e.symm),World.ownsRow.kept hR5.obs gr9 (Or.inr fun e=>zaj hR5.obs hB12 (by decide) e.symm)⟩
       have hB9:=hB12.row [.slice b1 m1 d1,.slice b2 m2 d2]
       refine hK9.out _ _ h9 (fun _ => ?_)
       clear hK9 K9
       (try simp only[Act.put])
       refine tq 13 13 (.assign (.tmp 50)) (.string TX) h9 ?_
       refine tq 14 14 (.assign (.tmp 51)) (.int .i64 y) h9 ?_
       (try simp only[pq])
       refine wpAnyH_done (by kernel_rfl) ?_ _
       refine NoPanic.normal ?_
       go_wp2_with fail
       go_meet
       case rel=>exact ⟨wo.heap.size,b1,b2,m1,m2,d1,d2,X,rfl,(by rw[hTX]),rfl,hX,hB9,hp12,hR9,h9⟩
     ·obtain ⟨wa,hwa,hB12,ga⟩:=zag WD 28 [.slice none 0 0,.slice none 0 0]
      go_simp
      rw[← hwa]
      have ha:=tn h0 ga
      have hp12:W4.heap.size≤WD.heap.size:=(h0).size
      refine hK9.out _ _ ha (fun _ => ?_)
      clear hK9 K9 hwa ga
      (try simp only[pq])
      refine rd 5 (some 47) (.call { callee := .value (.func 16),args := #[(.tmp 46)],argTypes := #[42] }) (fun K9 hK9 => ?_)
      go_simp
      go_at_call 16
      refine (uh HOWN wa ha).mono ?_
      rintro e wo ⟨rfl,go⟩
      go_wp2_with fail
      have ho:=tn ha go
      replace hB12:=hB12.kept go (by simp)
      refine hK9.out _ _ ho (fun _ => ?_)
      clear hK9 K9 go
      (try simp only[pq])
      refine rd 6 (some 48) (.call { callee := .value (.func 36),args := #[(.tmp 42),(.tmp 47)],argTypes := #[28,47] }) (fun K9 hK9 => ?_)
      go_simp
      go_at_call 36
      refine (uh HRPUT wo ho).mono ?_
      rintro e wp ⟨b1,b2,m1,m2,d1,d2,X,rfl,hX,hR5,gp⟩
      obtain ⟨TX,hTX⟩:∃ T,T=str X:=⟨_,rfl⟩
      rw[← hTX]
      go_wp2_with fail
      have hp:=tn ho gp
      replace hB12:=hB12.kept gp (by simp)
      refine hK9.out _ _ hp (fun _ => ?_)
      clear hK9 K9 gp
      refine tq 7 41 (.move (.tmp 48)) (.tuple #[.agg #[.slice b1 m1 d1,.slice b2 m2 d2],.string TX,.int .i64 y]) hp ?_
      refine tq 8 49 (.extract (.tmp 41) 0) (.agg #[.slice b1 m1 d1,.slice b2 m2 d2]) hp ?_
      refine tq 9 50 (.extract (.tmp 41) 1) (.string TX) hp ?_
      (try simp only[pq])
      refine tq 10 51 (.extract (.tmp 41) 2) (.int .i64 y) hp ?_
      (try simp only[pq])
      refine rd 12 none (.store 28 (.tmp 12) (.tmp 49)) (fun K9 hK9 => ?_)
      rw[if_pos (by rfl)]
      refine wp_store_row _ _ _ rfl (WD.heap.size) _ rfl rfl _ _ hB12 zas rfl (zch _ _ _ _ _ _) ?_
      have h9:=zam hp #[.slice b1 m1 d1,.slice b2 m2 d2] (Or.inl hp12)
      have gr9:wp.grownBy (wp.setRow (WD.heap.size) #[.slice b1 m1 d1,.slice b2 m2 d2]) (some (WD.heap.size)):=zam (zab _ _) _ (Or.inr rfl)
      have hR9:RSet _ W0.heap.size (.slice b1 m1 d1) (.slice b2 m2 d2) (putC S (kk:Int) d):=⟨World.ownsRow.kept hR5.ids gr9 (Or.inr fun e=>zaj hR5.ids hB12 (by decide) e.symm),World.ownsRow.kept hR5.obs gr9 (Or.inr fun e=>zaj hR5.obs hB12 (by decide) e.symm)⟩
      have hB9:=hB12.row [.slice b1 m1 d1,.slice b2 m2 d2]
      refine hK9.out _ _ h9 (fun _ => ?_)
      clear hK9 K9
      (try simp only[Act.put])
      refine tq 13 13 (.assign (.tmp 50)) (.string TX) h9 ?_
      refine tq 14 14 (.assign (.tmp 51)) (.int .i64 y) h9 ?_
      (try simp only[pq])
      refine wpAnyH_done (by kernel_rfl) ?_ _
      refine NoPanic.normal ?_
      go_wp2_with fail
      go_meet
      case rel=>exact ⟨WD.heap.size,b1,b2,m1,m2,d1,d2,X,rfl,(by rw[hTX]),rfl,hX,hB9,hp12,hR9,h9⟩
    case rest =>
     obtain ⟨p12,b1,b2,m1,m2,d1,d2,X,rfl,rfl,rfl,hXe,hB12,hp12,hR5,hg5⟩:=hcut
     obtain ⟨W5,hW5⟩:∃ W,W=wc:=⟨_,rfl⟩
     rw[← hW5]
     rw[← hW5] at hB12 hR5 hg5
     clear hW5 hrs hro HOWN HRPUT
     obtain ⟨HR5,HB12,HG5,HXe⟩:=zh4 hR5 hB12 hg5 hXe
     clear hR5 hB12 hXe
     go_upto_region 10 with fail
     go_cut [72] (fun x72 wx=>x72 = .bool false∧wx=W5.drew)
     case first =>
      as_aux_lemma =>
      by_cases hy0:y=0
      ·subst hy0
       have hxx:x=X:=(uh HXE rfl).trans (uh HXe rfl).symm
       subst hxx
       obtain ⟨TX,hTX⟩:∃ T,T=str x:=⟨_,rfl⟩
       rw[← hTX]
       obtain ⟨ib,hib⟩:∃ b,b=w4.heap.size:=⟨_,rfl⟩
       have HCV:Hid (∀ V,W5.grownBy V none→(convert 37 9 (.slice (some ⟨ib,0,none⟩) 32 32)).run Tryz.prog V = .ok (.string TX) V):=fun V gV=>by rw[hTX,hib];exact uh HCV4 V (tn hg5 gV)
       have hrb:W5.rangeAt ib 0 KB:=by rw[hib];exact zaf (zal (uh HI4)) hg5 (by simp)
       have hIr:W5.ownsRow W2.heap.size 33 32 (.slice ia n ic) (R.map idR).length ((R.map idR).flatMap (·.map bv)):=by
        have:=((uh HM4).none hg5).ids
        simpa using this
       obtain ⟨ia9,ic9,e9,hI9⟩:=Ids.own hIr (fun z hz=>by obtain ⟨r,_,rfl⟩:=List.mem_map.1 hz;exact zkx r)
       have hia:ia9=ia:=by injection e9 with q1 q2 q3;exact q1.symm
       subst hia
       have hjI:j<(R.map idR).length:=by rw[List.length_map];exact uh HJR
       obtain ⟨jb,jf,hja,hrowj⟩:=hI9.at j hjI
       have hrj:=hrowj j hjI
       rw[show (R.map idR)[j]=x from (List.getElem_map ..).trans ((uh HRR (uh HJR)).trans (uh HXE rfl).symm),← uh HKB] at hrj
       have hiK:(Tryz.prog.info? 33).map (·.size)=some KB.length:=by rw[uh HKL];exact zat
       have HIK:=hide hiK
       have HNE:Hid (∀ V,(binOp .neq 33 (.agg KB.toArray) (.agg KB.toArray)).run Tryz.prog V = .ok (.bool false) V):=fun V=>by rw[uh HKB,znb x x (uh HX32) (uh HX32)];simp
       rw[← hib]
       obtain ⟨HTX9,HIB9⟩:=zh2 hTX hib
       clear hIr hI9 e9 hjI hrowj hTX hib hiK
       subst hja
       have h0:W5.grownBy W5.drew none:=zak (zab _ _)
       refine wp_region_noPanic ?_
       refine wp_region_held_drew (S:=fun V=>W5.grownBy V none) (by kernel_rfl) h0 (fun _ => ?_)
       refine tq 0 52 (.move (.tmp 11)) (.int .i64 0) h0 ?_
       refine tq 1 53 (.move (.tmp 14)) (.int .i64 0) h0 ?_
       refine tq 2 54 (.binOp .neq 3 (.tmp 52) (.tmp 53) 3) (.bool false) h0 ?_
       refine tq 3 55 (.move (.tmp 54)) (.bool false) h0 ?_
       (try simp only[pq])
       refine tq 4 56 (.move (.tmp 11)) (.int .i64 0) h0 ?_
       refine tq 5 57 (.binOp .eql 38 (.tmp 56) (.const (.int .i64 0)) 38) (.bool true) h0 ?_
       refine tq 6 58 (.move (.tmp 57)) (.bool true) h0 ?_
       refine tz 7 59 (.slice 33 (.tmp 10) none none none) (.slice (some ⟨ib,0,none⟩) 32 32) h0 ?_ (y:=(Or.inl ⟨by rfl,fun V hV=>by (have z9:=zbw ib 0;go_simp)⟩))
       (try simp only[pq])
       refine tz 8 60 (.convert 37 9 (.tmp 59)) (.string TX) h0 ?_ (y:=(Or.inl ⟨by rfl,fun V hV=>by (have z9:=uh HCV V hV;go_simp)⟩))
       refine tq 9 61 (.move (.tmp 13)) (.string TX) h0 ?_
       refine tq 10 62 (.binOp .neq 9 (.tmp 60) (.tmp 61) 9) (.bool false) h0 ?_
       refine tq 11 63 (.move (.tmp 62)) (.bool false) h0 ?_
       (try simp only[pq])
       refine tz 12 64 (.load 33 (.tmp 10)) (.agg KB.toArray) h0 ?_ (y:=(yieldsIf_load_mid (by rfl) _ _ rfl _ _ rfl KB _ (fun V hV=>zaf hrb hV (by simp)) Tryz.underlying33 rfl (uh HIK)))
       refine tq 13 65 (.move (.tmp 8)) (.slice (some ⟨jb,jf,none⟩) n ic) h0 ?_
       refine tq 14 66 (.move (.tmp 9)) (.int .i64 (j:Int)) h0 ?_
       refine tq 15 67 (.indexAddr 29 (.tmp 65) (.tmp 66)) (.pointer (some ⟨jb,jf+j*32,none⟩)) h0 ?_
       (try simp only[pq])
       refine tz 16 68 (.load 33 (.tmp 67)) (.agg KB.toArray) h0 ?_ (y:=(yieldsIf_load_mid (by rfl) _ _ rfl _ _ rfl KB _ (fun V hV=>zaf hrj hV (by simp)) Tryz.underlying33 rfl (uh HIK)))
       refine tz 17 69 (.binOp .neq 33 (.tmp 64) (.tmp 68) 33) (.bool false) h0 ?_ (y:=(zeo (by rfl) _ _ _ _ rfl _ _ _ rfl rfl zej (uh HNE)))
       refine tq 18 70 (.pick (.tmp 63) (.const (.bool true)) (.tmp 69)) (.bool false) h0 ?_
       refine tq 19 71 (.pick (.tmp 58) (.tmp 70) (.const (.bool false))) (.bool false) h0 ?_
       (try simp only[pq])
       refine tq 20 72 (.pick (.tmp 55) (.const (.bool true)) (.tmp 71)) (.bool false) h0 ?_
       (try simp only[pq])
       refine wpAnyH_done (by kernel_rfl) ?_ _
       refine NoPanic.normal ?_
       go_wp2_with fail
       rw[uh HTX9,uh HIB9]
       go_meet
       case rel=>exact ⟨rfl,rfl⟩
      ·have hyb:(y == 0)=false:=by simpa using hy0
       have h0:W5.grownBy W5.drew none:=zak (zab _ _)
       refine wp_region_noPanic ?_
       refine wp_region_held_drew (S:=fun V=>W5.grownBy V none) (by kernel_rfl) h0 (fun _ => ?_)
       refine tq 0 52 (.move (.tmp 11)) (.int .i64 y) h0 ?_
       refine tq 1 53 (.move (.tmp 14)) (.int .i64 y) h0 ?_
       refine tq 2 54 (.binOp .neq 3 (.tmp 52) (.tmp 53) 3) (.bool false) h0 ?_
       refine tq 3 55 (.move (.tmp 54)) (.bool false) h0 ?_
       (try simp only[pq])
       refine tq 4 56 (.move (.tmp 11)) (.int .i64 y) h0 ?_
       refine tq 5 57 (.binOp .eql 38 (.tmp 56) (.const (.int .i64 0)) 38) (.bool false) h0 ?_
       refine tq 6 58 (.move (.tmp 57)) (.bool false) h0 ?_
       refine tz 7 59 (.slice 33 (.tmp 10) none none none) undef h0 ?_ (y:=(Or.inr ⟨by rfl,rfl⟩))
       (try simp only[pq])
       refine tz 8 60 (.convert 37 9 (.tmp 59)) undef h0 ?_ (y:=(Or.inr ⟨by rfl,rfl⟩))
       refine tz 9 61 (.move (.tmp 13)) undef h0 ?_ (y:=(Or.inr ⟨by rfl,rfl⟩))
       refine tz 10 62 (.binOp .neq 9 (.tmp 60) (.tmp 61) 9) undef h0 ?_ (y:=(Or.inr ⟨by rfl,rfl⟩))
       refine tz 11 63 (.move (.tmp 62)) undef h0 ?_ (y:=(Or.inr ⟨by rfl,rfl⟩))
       (try simp only[pq])
       refine tz 12 64 (.load 33 (.tmp 10)) undef h0 ?_ (y:=(Or.inr ⟨by rfl,rfl⟩))
       refine tz 13 65 (.move (.tmp 8)) undef h0 ?_ (y:=(Or.inr ⟨by rfl,rfl⟩))
       refine tz 14 66 (.move (.tmp 9)) undef h0 ?_ (y:=(Or.inr ⟨by rfl,rfl⟩))
       refine tz 15 67 (.indexAddr 29 (.tmp 65) (.tmp 66)) undef h0 ?_ (y:=(Or.inr ⟨by rfl,rfl⟩))
       (try simp only[pq])
       refine tz 16 68 (.load 33 (.tmp 67)) undef h0 ?_ (y:=(Or.inr ⟨by rfl,rfl⟩))
       refine tz 17 69 (.binOp .neq 33 (.tmp 64) (.tmp 68) 33) undef h0 ?_ (y:=(Or.inr ⟨by rfl,rfl⟩))
       refine tz 18 70 (.pick (.tmp 63) (.const (.bool true)) (.tmp 69)) undef h0 ?_ (y:=(Or.inr ⟨by rfl,rfl⟩))
       refine tq 19 71 (.pick (.tmp 58) (.tmp 70) (.const (.bool false))) (.bool false) h0 ?_
       (try simp only[pq])
       refine tq 20 72 (.pick (.tmp 55) (.const (.bool true)) (.tmp 71)) (.bool false) h0 ?_
       (try simp only[pq])
       refine wpAnyH_done (by kernel_rfl) ?_ _
       refine NoPanic.normal ?_
       go_wp2_with fail
       go_meet
       case rel=>exact ⟨rfl,rfl⟩
     case rest =>
      as_aux_lemma =>
      obtain ⟨rfl,hwc⟩:=hcut
      rw[hwc]
      clear hwc
      have gd:=zak (zab W5 none)
      obtain ⟨W6,hW6⟩:∃ W,W=W5.drew:=⟨_,rfl⟩
      rw[← hW6]
      rw[← hW6] at gd
      clear hW6
      have hB12:=(uh HB12).kept gd (by simp)
      have hr12:=zal hB12
      have hg6:=tn (uh HG5) gd
      have hBr:=(uh HB4).kept hg6 (by simp)
      have hR6:=(uh HR5).kept gd
      have g7:W6.grownBy (W6.setRow w1.heap.size #[.slice b1 m1 d1,.slice b2 m2 d2]) (some w1.heap.size):=zam (zab _ _) _ (Or.inr rfl)
      have hM6:=(uh HM4).none hg6
      have hS6:=(uh HS5).none hg6
      have hfin:SetAt W0 (W6.setRow w1.heap.size #[.slice b1 m1 d1,.slice b2 m2 d2]) sb mb (putC S (kk:Int) d)∧Blk (W6.setRow w1.heap.size #[.slice b1 m1 d1,.slice b2 m2 d2]) w1.heap.size 28 [.slice b1 m1 d1,.slice b2 m2 d2]∧Blk (W6.setRow w1.heap.size #[.slice b1 m1 d1,.slice b2 m2 d2]) w.heap.size 28 [.slice none 0 0,.slice none 0 0]∧RSet (W6.setRow w1.heap.size #[.slice b1 m1 d1,.slice b2 m2 d2]) W0.heap.size (.slice b1 m1 d1) (.slice b2 m2 d2) (putC S (kk:Int) d)∧MadeG (W6.setRow w1.heap.size #[.slice b1 m1 d1,.slice b2 m2 d2]) W2.heap.size (.slice (some ⟨ob,of,none⟩) n oc) (.slice ia n ic) R∧w.grownBy (W6.setRow w1.heap.size #[.slice b1 m1 d1,.slice b2 m2 d2]) none:=by
       have hty:¬ Typ W6 w1.heap.size:=zg3 hBr (by decide)
       refine ⟨hS6.kept g7 (fun e=>zsi hS6.blk hBr (by decide) (by injection e)) (fun e => ?_) (fun z e=>by cases e;exact hty),hBr.row [.slice b1 m1 d1,.slice b2 m2 d2],?_,⟨World.ownsRow.kept hR6.ids g7 (Or.inr fun e=>zaj hR6.ids hBr (by decide) e.symm),World.ownsRow.kept hR6.obs g7 (Or.inr fun e=>zaj hR6.obs hBr (by decide) e.symm)⟩,⟨⟨World.ownsRow.kept hM6.objs.own g7 (Or.inr fun e=>zaj hM6.objs.own hBr (by decide) e.symm),fun r hr=>(hM6.objs.bts r hr).kept g7 (fun z e ad e2 e3=>by cases e;exact hty (by rw[← e3];exact hM6.objs.typ r hr ad e2)),fun r hr ad e=>(hM6.objs.typ r hr ad e).kept g7 (fun e2=>by injection e2 with e2;exact hty (by rw[← e2];exact hM6.objs.typ r hr ad e))⟩,World.ownsRow.kept hM6.ids g7 (Or.inr fun e=>zaj hM6.ids hBr (by decide) e.symm),hM6.small⟩,zam (tn (uh HG4) hg6) _ (Or.inl (Nat.le_of_lt (uh HL1)))⟩
       ·obtain ⟨_,m1',_⟩:=hS6.map
        exact m1'.blk hBr (by injection e)
       ·exact ((uh HBR4).kept hg6 (by simp)).kept g7 (fun e=>by injection e with e;have:=uh HL1;omega)
      obtain ⟨HFIN,HBr⟩:=zh2 hfin hBr
      clear hfin hM6 hS6 hR6 g7 hg6 hB12
      go_wp2_with (first
       | (refine wpList_load_mid rfl 28 _ rfl p12 0 rfl [.slice b1 m1 d1,.slice b2 m2 d2] _ hr12 Tryz.underlying28 rfl zas ?_;clear hr12)
       | (refine wpList_store_row rfl 28 _ _ rfl w1.heap.size _ rfl rfl _ _ (uh HBr) zas rfl (zch _ _ _ _ _ _) ?_))
      go_roundw
      case rel =>
       obtain ⟨q1,q2,q3,q4,q5,q6⟩:=uh HFIN
       exact ⟨j+1,putC S (kk:Int) d,b1,b2,m1,m2,d1,d2,by go_num,by omega,by have:=zwi S (kk:Int) d;omega,q1,q2,q3,q4,q5,q6⟩
      case measure=>simp[intOf];omega
  ·skip
   have hr9:WR.drew.rangeAt w1.heap.size 0 [Value.slice a1 n1 c1,Value.slice a2 n2 c2]:=zaf (zal hB) (zak (zab WR none)) (by simp)
   have hBR9:=hBR.kept (zak (zab WR none)) (by simp)
   have gd:=zak (zab WR none)
   have g7:WR.drew.grownBy (WR.drew.setRow w.heap.size #[.slice a1 n1 c1,.slice a2 n2 c2]) (some w.heap.size):=zam (zab _ _) _ (Or.inr rfl)
   have hS6:=hS.none gd
   have hR6:=hR.kept gd
   have hI6:WR.drew.ownsRow W2.heap.size 33 32 (.slice ia n ic) n ((R.map idR).flatMap (·.map bv)):=by rw[uh HN];have:=(hM.none gd).ids;rw[uh HN] at this;exact this
   have hfin:SetAt w (WR.drew.setRow w.heap.size #[.slice a1 n1 c1,.slice a2 n2 c2]) sb mb S∧RSet (WR.drew.setRow w.heap.size #[.slice a1 n1 c1,.slice a2 n2 c2]) w.heap.size (.slice a1 n1 c1) (.slice a2 n2 c2) S∧(WR.drew.setRow w.heap.size #[.slice a1 n1 c1,.slice a2 n2 c2]).ownsRow w.heap.size 33 32 (.slice ia n ic) n ((R.map idR).flatMap (·.map bv))∧w.grownBy (WR.drew.setRow w.heap.size #[.slice a1 n1 c1,.slice a2 n2 c2]) none∧Blk (WR.drew.setRow w.heap.size #[.slice a1 n1 c1,.slice a2 n2 c2]) w.heap.size 28 [.slice a1 n1 c1,.slice a2 n2 c2]:=by
    have hw0:=(uh HG0).size
    refine ⟨(hS6.kept g7 (fun e=>zsi hS6.blk hBR9 (by decide) (by injection e)) (fun e => ?_) (fun z e=>by cases e;exact zg3 hBR9 (by decide))).up hw0,RSet.low ⟨World.ownsRow.kept hR6.ids g7 (Or.inr fun e=>zaj hR6.ids hBR9 (by decide) e.symm),World.ownsRow.kept hR6.obs g7 (Or.inr fun e=>zaj hR6.obs hBR9 (by decide) e.symm)⟩ hw0,za7 (World.ownsRow.kept hI6 g7 (Or.inr fun e=>zaj hI6 hBR9 (by decide) e.symm)) (uh HWW),zam (tn hg gd) _ (Or.inl (Nat.le_refl _)),hBR9.row [.slice a1 n1 c1,.slice a2 n2 c2]⟩
    obtain ⟨_,m1',_⟩:=hS6.map
    exact m1'.blk hBR9 (by injection e)
   clear g7 hS6 hR6 hI6 gd hS hB hBR hR hM hg
   go_upto_region 13 with fail
   refine wp_region_noPanic ?_
   refine wp_region_held_drew (S:=fun V=>True) (by kernel_rfl) trivial (fun _ => ?_)
   obtain ⟨WD,hWD⟩:∃ V,V=WR.drew:=⟨_,rfl⟩
   rw[← hWD]
   rw[← hWD] at hr9 hBR9 hfin
   clear hWD
   refine tq 0 76 (.move (.tmp 5)) (.pointer (some ⟨sb,0,none⟩)) trivial ?_
   refine tq 2 78 (.move (.tmp 8)) (.slice ia n ic) trivial ?_
   refine tq 3 2 (.assign (.tmp 76)) (.pointer (some ⟨sb,0,none⟩)) trivial ?_
   (try simp only[pq])
   refine rd 1 (some 77) (.load 28 (.tmp 6)) (fun K9 hK9 => ?_)
   rw[if_pos (by rfl)]
   refine wp_load_mid _ _ rfl w1.heap.size 0 rfl [Value.slice a1 n1 c1,Value.slice a2 n2 c2] _ hr9 Tryz.underlying28 rfl zas ?_
   refine hK9.out _ _ trivial (fun _ => ?_)
   clear hK9 K9
   (try simp only[pq])
   refine rd 4 none (.store 28 (.tmp 3) (.tmp 77)) (fun K9 hK9 => ?_)
   rw[if_pos (by rfl)]
   refine wp_store_row _ _ _ rfl w.heap.size _ rfl rfl _ _ hBR9 zas rfl (zch _ _ _ _ _ _) ?_
   refine hK9.out _ _ trivial (fun _ => ?_)
   clear hK9 K9
   (try simp only[Act.put])
   refine tq 5 4 (.assign (.tmp 78)) (.slice ia n ic) trivial ?_
   (try simp only[pq])
   refine wpAnyH_done (by kernel_rfl) ?_ _
   refine NoPanic.normal ?_
   obtain ⟨q1,q2,q3,q4,q5⟩:=hfin
   go_wp2_with fail
   refine bodyPost_ret (ziu rfl _ _ _ _ _ _ _ rfl q5 Tryz.underlying28 rfl zas) rfl ?_
   refine ⟨sb,mb,a1,a2,ia,n1,n2,c1,c2,ic,S,R.map idR,?_,q1,q2,?_,fun x hx=>by obtain ⟨r,_,rfl⟩:=List.mem_map.1 hx;exact zkx r,by rw[List.length_map,← uh HN];exact hn24,by omega,q4⟩
   ·rw[List.length_map,← uh HN];rfl
   ·rw[List.length_map,← uh HN];exact q3
end Go.Proofs.YthhnfloohbdaiaaGreatDoor
