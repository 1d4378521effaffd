/- Lemmas. -/
import Derived.Test.YthhnfloohbdaiaaGreatDoorROId
import Derived.Test.YthhnfloohbdaiaaGreatDoorLOwn
import Derived.Test.YthhnfloohbdaiaaGreatDoorRGRchM
import Derived.Deep.DeepCutAuto
namespace Go.Proofs.YthhnfloohbdaiaaGreatDoor
open Go.RowKit
set_option maxRecDepth 100000
theorem zoe:∀ {S:List ObE} {e y:ObE} {k:Nat},S[k]? = some y→y.id=e.id→(∀ x∈S.take k,za6 x.id e.id=true)→putS S e=S.set k e
 | [],_,_,_,h,_,_=>by simp at h
 | x::l,e,y,0,h,he,_=>by
  simp at h
  subst h
  unfold putS
  rw[he,zfx]
  simp
 | x::l,e,y,k+1,h,he,h1=>by
  unfold putS
  rw[if_pos (h1 x (by simp)),zoe (S:=l) (k:=k) (by simpa using h) he (fun z hz=>h1 z (by simp[hz]))]
  rfl
theorem zlo:∀ {S:List ObE} {e:ObE} {k:Nat},(∀ x∈S.take k,za6 x.id e.id=true)→(∀ y,S[k]? = some y→za6 y.id e.id=false∧y.id≠e.id)→putS S e=S.take k++e::S.drop k
 | [],_,_,_,_=>by simp[putS]
 | x::l,e,0,_,h2=>by
  obtain ⟨a,b⟩:=h2 x rfl
  unfold putS
  rw[a]
  simp[b]
 | x::l,e,k+1,h1,h2=>by
  unfold putS
  rw[if_pos (h1 x (by simp)),zlo (S:=l) (k:=k) (fun z hz=>h1 z (by simp[hz])) (fun y hy=>h2 y (by simpa using hy))]
  rfl
def roC (e:ObE):List Value:=[.int .i64 e.k,.string (str e.d)]
theorem zxi (e:ObE):∀ u∈roC e,u.oneCell'=true:=by
 intro u hu
 simp only[roC,List.mem_cons,List.not_mem_nil,or_false] at hu
 rcases hu with rfl | rfl <;> rfl
theorem zsl:(Tryz.prog.info? 47).map (fun i=>(i.zero,i.size,i.bytes))=some (some (.agg #[.int .i64 0,.string ⟨#[]⟩]),2,24):=by kernel_rfl
def Rob (w:World) (base:Nat) (v:Value) (L:List ObE):Prop:=w.ownsRow base 47 2 v L.length (L.flatMap roC)
theorem Rob.nil (w:World) (base:Nat):Rob w base (.slice none 0 0) []:=World.ownsRow_nil _ _ _ _
theorem Rob.kept {w a:World} {base:Nat} {v:Value} {L:List ObE} (h:Rob w base v L) (g:w.grownBy a none):Rob a base v L :=
 World.ownsRow.kept h g (by cases v.ownBlock <;> simp)
theorem Rob.rws {w:World} {base:Nat} {v:Value} {L:List ObE} (h:Rob w base v L):∃ ao c,v = .slice ao L.length c∧Rws w 2 roC ao c L∧∀ ad,ao=some ad→base≤ad.block :=
 Rws.own roC h (fun _ _=>rfl)
structure RSet (w:World) (base:Nat) (v1 v2:Value) (S:List ObE):Prop where
 ids:Stg w base v1 (idsS S)
 obs:Rob w base v2 S
theorem zof {w a:World} {base n K:Nat} {t:TypeId} {v:Value} {xs:List Value} (h:w.ownsRow base t K v n xs) (g:w.grownBy a none):a.ownsRow base t K v n xs :=
 h.kept g (by
  by_cases e:v.ownBlock=none
  ·exact Or.inl e
  ·exact Or.inr e)
theorem RSet.kept {w a:World} {base:Nat} {v1 v2:Value} {S:List ObE} (h:RSet w base v1 v2 S) (g:w.grownBy a none):RSet a base v1 v2 S:=⟨h.ids.kept g,h.obs.kept g⟩
theorem RSet.nil (w:World) (base:Nat):RSet w base (.slice none 0 0) (.slice none 0 0) []:=⟨Stg.nil _ _,Rob.nil _ _⟩
theorem RSet.low {w:World} {b1 b2:Nat} {v1 v2:Value} {S:List ObE} (h:RSet w b1 v1 v2 S) (hb:b2≤b1):RSet w b2 v1 v2 S:=⟨za7 h.ids hb,za7 h.obs hb⟩
theorem zaw {w:World} {ops:Array Oper} {o:Oper} {a:Act} {K:Act→World→Prop} {Q:Exit→Act→World→Prop} {E:Prop} (hw:Region.wanted o (yielded ops a.tmps)=true) (s x:Operand)
  (ho:o.op = .call { callee := .builtin .append,args := #[s,x],argTypes := #[26,26] })
  (base:Nat) (v:Value) (L M:List ObE) (hs:a.eval s=v) (hown:Rob w base v L) (xo:Option Addr) (m c:Nat) (hx:a.eval x = .slice xo m c) (hm:m=M.length) (hM:Rws w 2 roC xo c M) (hn:L.length+M.length≤1000000) (hbase:base≤w.heap.size)
  (h:∀ v' w',Rob w' base v' (L++M)→w.grownBy w' v.ownBlock→K (a.put o.dst v') w'):if Region.wanted o (yielded ops a.tmps)=true then Oper.wp Tryz.prog o a w K Q else E:=by
 rw[if_pos hw]
 obtain ⟨i0,hi,hz0,hz1,hz2⟩:=info_parts zsl
 exact zf3 s x 26 47 ho i0 _ 2 24 Tryz.underlying26 hi hz0 hz1 hz2 rfl (by decide) roC zxi base v L M (fun _ _=>rfl) hs hown xo m c hx hm hM (by omega) (by omega) hbase h
theorem zyn (k:Int) (s:ByteArray) (V:World):(Instr.buildSlice 26 1 #[(0,.agg #[.int .i64 k,.string s])]).run Tryz.prog V = .ok (.slice (some ⟨V.heap.size,0,none⟩) 1 1) (V.alloc (.cells #[.int .i64 k,.string s] 47)):=by kernel_rfl
theorem Rws.one {α:Type} {w:World} {K:Nat} {f:α→List Value} {b:Nat} {t:TypeId} {x:α} (h:Blk w b t (f x)):Rws w K f (some ⟨b,0,none⟩) 1 [x]:=by
 refine ⟨(fun e=>by cases e),Nat.le_refl _,by unfold maxLen;omega,(fun ad e=>by cases e;rfl),fun ad e i hi => ?_⟩
 cases e
 have hi0:i=0:=by simpa using hi
 subst hi0
 simpa using zak h
theorem zgc (w:World):(zeroValue 28).run Tryz.prog w = .ok (.agg #[.slice none 0 0,.slice none 0 0]) w:=by kernel_rfl
theorem zmz:Tryz.prog.built 28 []=some #[.slice none 0 0,.slice none 0 0]:=by kernel_rfl
theorem zgx (a b:Option Addr) (n m c d:Nat):Tryz.prog.built 28 [(0,.slice a n c),(1,.slice b m d)]=some #[.slice a n c,.slice b m d]:=by kernel_rfl
theorem za3:(Tryz.prog.info? 28).map (·.size)=some 2:=by kernel_rfl
theorem zd0:(Tryz.prog.info? 47).map (·.size)=some 2:=by kernel_rfl
theorem zsm (V:World):(Instr.buildSlice 26 0 #[]).run Tryz.prog V = .ok (.slice (some ⟨V.heap.size,0,none⟩) 0 0) (V.alloc (.cells #[] 47)):=by kernel_rfl
theorem zxj (k:Int) (s:ByteArray):(#[Value.int .i64 k,Value.string s]:Array Value).all (·.oneCell')=true:=by simp[Value.oneCell']
theorem zcd (a b:Option Addr) (n m c d:Nat):(#[Value.slice a n c,Value.slice b m d]:Array Value).all (·.oneCell')=true:=by simp[Value.oneCell']
set_option maxHeartbeats 2000000 in
theorem zsn (w:World) (a1 a2:Option Addr) (n1 n2 c1 c2:Nat) (k:Int) (d:List UInt8) (hd:d.length≤100000) (hc:zat k d≠0) :
  Calls Tryz.prog 36 #[.agg #[.slice a1 n1 c1,.slice a2 n2 c2],.agg #[.int .i64 k,.string (str d)]] w fun e w'=>e = .returned (.tuple #[.agg #[.slice a1 n1 c1,.slice a2 n2 c2],.string (str []),.int .i64 (zat k d)])∧w.grownBy w' none:=by
 obtain ⟨y,hy⟩:∃ y,y=zat k d:=⟨_,rfl⟩
 obtain ⟨TD,hTD⟩:∃ T,T=str d:=⟨_,rfl⟩
 obtain ⟨W1,hW1,hB1,g1⟩:=zaf w 28 [.slice a1 n1 c1,.slice a2 n2 c2]
 obtain ⟨W2,hW2,hB2,g2⟩:=zaf W1 47 [.int .i64 k,.string TD]
 obtain ⟨W3,hW3,hB3,g3⟩:=zaf W2 28 [.slice none 0 0,.slice none 0 0]
 have s1:W1.heap.size=w.heap.size+1:=by rw[hW1,World.size_alloc]
 have s2:W2.heap.size=w.heap.size+2:=by rw[hW2,World.size_alloc,s1]
 rw[s1] at hB2
 rw[s2] at hB3
 have cc:∀ V,W3.grownBy V none→Calls Tryz.prog 68 #[.agg #[.int .i64 k,.string TD]] V fun e w'=>e = .returned (.int .i64 y)∧V.grownBy w' none:=fun V _=>by rw[hy,hTD];exact zji V k d hd
 have hzv:=zgc
 have cc3:=cc W3 (zaa _ _)
 have hr1:=zae (zak hB2) g3 (by simp)
 have HR0:=hide (zae (zae (zak hB1) g2 (by simp)) g3 (by simp))
 have hyn:¬ y=0:=by rw[hy];exact hc
 have HB3:=hide hB3
 have HG3:=hide (tn (tn g1 g2) g3)
 have hfold:(((w.alloc (.cells #[.slice a1 n1 c1,.slice a2 n2 c2] 28)).alloc (.cells #[.int .i64 k,.string TD] 47)).alloc (.cells #[.slice none 0 0,.slice none 0 0] 28))=W3:=by rw[hW3,hW2,hW1]
 have HF:=hide hfold
 rw[← hy,← hTD]
 clear hW1 hW2 hW3 hB1 hB2 hB3 g1 g2 g3 s1 s2 hy hTD cc hfold hd hc
 go_enter Tryz.func36,Tryz.ntmps36
 go_wp2_with (first
  | (rw[uh HF])
  | (refine wpList_load_mid rfl 47 _ rfl (w.heap.size+1) 0 rfl [.int .i64 k,.string TD] _ hr1 Tryz.underlying47 rfl zd0 ?_;clear hr1)
  | (go_at_call 68;refine cc3.mono ?_;rintro e w4 ⟨rfl,g4⟩;clear cc3;have hr0:=zae (uh HR0) g4 (by simp);have hB4:=(uh HB3).kept g4 (by simp))
  | (refine wpList_load_mid rfl 28 _ rfl w.heap.size 0 rfl [.slice a1 n1 c1,.slice a2 n2 c2] _ hr0 Tryz.underlying28 rfl za3 ?_;clear hr0)
  | (refine wpList_store_row rfl 28 _ _ rfl (w.heap.size+2) _ rfl rfl _ _ hB4 za3 rfl (zcd _ _ _ _ _ _) ?_))
 refine bodyPost_ret (zd5 rfl _ _ _ _ _ _ _ rfl (hB4.row [.slice a1 n1 c1,.slice a2 n2 c2]) Tryz.underlying28 rfl za3) rfl ?_
 exact ⟨rfl,zan (tn (uh HG3) g4) _ (Or.inl (by omega))⟩
set_option maxHeartbeats 8000000 in
theorem zvg (w:World) (base:Nat) (v1 v2:Value) (S:List ObE) (h:RSet w base v1 v2 S) (hf:S.length≤1000) (hb:base≤w.heap.size) (k:Int) (d:List UInt8) (hd:d.length≤100000) (hc:zat k d=0) :
  Calls Tryz.prog 36 #[.agg #[v1,v2],.agg #[.int .i64 k,.string (str d)]] w fun e w'=>∃ u1 u2,e = .returned (.tuple #[.agg #[u1,u2],.string (str (shaL (putL k d))),.int .i64 0])∧RSet w' base u1 u2 (putS S ⟨shaL (putL k d),k,d⟩)∧w.grownBy w' none:=by
 obtain ⟨a1,c1,rfl,hI,hIb⟩:=h.ids.rws
 obtain ⟨a2,c2,rfl,hO,hOb⟩:=h.obs.rws
 obtain ⟨n,hn⟩:∃ n,n=S.length:=⟨_,rfl⟩
 have hni:n=(idsS S).length:=by rw[hn];simp[idsS]
 obtain ⟨TD,hTD⟩:∃ T,T=str d:=⟨_,rfl⟩
 obtain ⟨ID,hID⟩:∃ I,I=shaL (putL k d):=⟨_,rfl⟩
 obtain ⟨TI,hTI⟩:∃ T,T=str ID:=⟨_,rfl⟩
 have hLI:TI.toList=ID:=by rw[hTI,zbo]
 rw[← hni,← hn,← hID,← hTI,← hTD]
 obtain ⟨W1,hW1,hB1,g1⟩:=zaf w 28 [.slice a1 n c1,.slice a2 n c2]
 obtain ⟨W2,hW2,hB2,g2⟩:=zaf W1 47 [.int .i64 k,.string TD]
 obtain ⟨W3,hW3,hB3,g3⟩:=zaf W2 28 [.slice none 0 0,.slice none 0 0]
 have s1:W1.heap.size=w.heap.size+1:=by rw[hW1,World.size_alloc]
 have s2:W2.heap.size=w.heap.size+2:=by rw[hW2,World.size_alloc,s1]
 have s3:W3.heap.size=w.heap.size+3:=by rw[hW3,World.size_alloc,s2]
 rw[s1] at hB2
 rw[s2] at hB3
 have cc:Calls Tryz.prog 68 #[.agg #[.int .i64 k,.string TD]] W3 fun e w'=>e = .returned (.int .i64 0)∧W3.grownBy w' none:=by rw[hTD,← hc];exact zji W3 k d hd
 have ci:∀ V,Calls Tryz.prog 69 #[.agg #[.int .i64 k,.string TD]] V fun e w'=>e = .returned (.string TI)∧V.grownBy w' none:=fun V=>by rw[hTI,hID,hTD];exact zu1 V k d hd
 have hzv:=zgc
 have hr1:=zae (zak hB2) g3 (by simp)
 have HR3:=hide hr1
 have HBX:=hide ((hB1.kept g2 (by simp)).kept g3 (by simp))
 have HBY:=hide hB3
 have HG3:=hide (tn (tn g1 g2) g3)
 have hfold:(((w.alloc (.cells #[.slice a1 n c1,.slice a2 n c2] 28)).alloc (.cells #[.int .i64 k,.string TD] 47)).alloc (.cells #[.slice none 0 0,.slice none 0 0] 28))=W3:=by rw[hW3,hW2,hW1]
 obtain ⟨HF,HI,HO,HN,HNI,HCI⟩:=zh6 hfold hI hO hn hni ci
 obtain ⟨HS3,HTI,HTD,HBA,HRS⟩:=zh5 s3 hTI hTD hb h
 have hn9:n≤1000:=by omega
 clear hW1 hW2 hW3 hB1 hB2 hB3 g1 g2 g3 s1 s2 s3 hTD hfold hd hc hI hO hn hni ci hTI hID hIb hOb hf hb h
 go_enter Tryz.func36,Tryz.ntmps36
 go_wp2_with (first
  | (rw[uh HF])
  | (refine wpList_load_mid rfl 47 _ rfl (w.heap.size+1) 0 rfl [.int .i64 k,.string TD] _ hr1 Tryz.underlying47 rfl zd0 ?_;clear hr1)
  | (go_at_call 68;refine cc.mono ?_;rintro e w4 ⟨rfl,g4⟩;clear cc;have hr4:=zae (uh HR3) g4 (by simp);have ci4:=uh HCI w4)
  | (refine wpList_load_mid rfl 47 _ rfl (w.heap.size+1) 0 rfl [.int .i64 k,.string TD] _ hr4 Tryz.underlying47 rfl zd0 ?_;clear hr4)
  | (go_at_call 69;refine ci4.mono ?_;rintro e w5 ⟨rfl,g5⟩;clear ci4))
 have G5:=tn g4 g5
 have HR1:=hide (zae (uh HR3) G5 (by simp))
 have HB0:=hide ((uh HBX).kept G5 (by simp))
 have HB3:=hide ((uh HBY).kept G5 (by simp))
 have HG5:=hide (tn (uh HG3) G5)
 have HS5:Hid (w.heap.size+3≤w5.heap.size):=by rw[← uh HS3];exact G5.size
 clear G5 g4 g5 HR3 HBX HBY HG3 HCI HF HS3
 go_loopw [9] (fun i wr=>∃ j:Nat,i = .int .i64 j∧j≤n∧Hid (∀ x∈S.take j,za6 x.id ID=true)∧w5.grownBy wr none) (fun i _=>n - (intOf i).toNat)
 case atStart=>exact ⟨0,rfl,Nat.zero_le _,(by simp:∀ x∈S.take 0,za6 x.id ID=true),zaa _ _⟩
 case round =>
  obtain ⟨j,rfl,hj,HE,hg⟩:=hrel
  have hcc:wr.cell? ⟨w.heap.size,0,none⟩=some (.slice a1 n c1):=by rw[((uh HB0).kept hg (by simp)).cell];rfl
  by_cases hgo:∃ F,S[j]? = some F∧za6 F.id ID=true
  ·obtain ⟨F,hgj,hll⟩:=hgo
   have hlS:j<S.length:=(List.getElem?_eq_some_iff.1 hgj).1
   have hlt:j<n:=by rw[uh HN];exact hlS
   have hF:S[j]=F:=(List.getElem?_eq_some_iff.1 hgj).2
   obtain ⟨b,o,hao,hcj⟩:=((uh HI).kept (tn (uh HG5) hg)).txt j (by rw[← uh HNI];exact hlt)
   rw[show (idsS S)[j]'(by rw[← uh HNI];exact hlt)=S[j].id by simp[idsS],hF] at hcj
   have hta:=List.take_succ_eq_append_getElem hlS
   rw[hF] at hta
   obtain ⟨TF,hTF⟩:∃ T,T=str F.id:=⟨_,rfl⟩
   rw[← hTF] at hcj
   have hLF:TF.toList=F.id:=by rw[hTF,zbo]
   have hjw:IntKind.i64.wrap ((j:Int)+1)=(j:Int)+1:=by rw[IntKind.wrap_i64];omega
   have hl2:Op.bytesLess F.id ID=true:=hll
   have hnew:∀ x∈S.take (j+1),za6 x.id ID=true:=by
    rw[hta]
    intro x hx
    rcases List.mem_append.1 hx with hx | hx
    ·exact uh HE x hx
    ·rw[List.mem_singleton.1 hx];exact hll
   have HNW:=hide hnew
   clear hnew hll hta hgj hF hTF hlS
   subst hao
   go_wp2
   go_roundw
   case rel=>exact ⟨j+1,by go_num,by omega,HNW,hg⟩
   case measure=>simp[intOf];omega
  ·have hstop:∀ F,S[j]? = some F→za6 F.id ID=false:=fun F hF=>by
    cases hl:za6 F.id ID with
    | false=>rfl
    | true=>exact absurd ⟨F,hF,hl⟩ hgo
   have HSTOP:=hide hstop
   clear hstop hgo
   go_upto_region 6 with fail
   go_cut [33] (fun x33 wx=>x33 = .bool false∧wx=wr)
   case first =>
    by_cases hlt:j<n
    ·have hlS:j<S.length:=by rw[← uh HN];exact hlt
     obtain ⟨b,o,hao,hcj⟩:=((uh HI).kept (tn (uh HG5) hg)).txt j (by rw[← uh HNI];exact hlt)
     rw[show (idsS S)[j]'(by rw[← uh HNI];exact hlt)=S[j].id by simp[idsS]] at hcj
     have hl2:Op.bytesLess S[j].id ID=false:=uh HSTOP _ (List.getElem?_eq_getElem hlS)
     obtain ⟨F,hF⟩:∃ F,F=S[j].id:=⟨_,rfl⟩
     rw[← hF] at hcj hl2
     obtain ⟨TF,hTF⟩:∃ T,T=str F:=⟨_,rfl⟩
     rw[← hTF] at hcj
     have hLF:TF.toList=F:=by rw[hTF,zbo]
     clear hF hTF hlS
     subst hao
     go_wp2
     go_meet
     case rel=>exact ⟨rfl,rfl⟩
    ·go_wp2
     go_meet
     case rel=>exact ⟨rfl,rfl⟩
   case rest =>
    obtain ⟨rfl,hwc⟩:=hcut
    rw[hwc]
    clear hwc
    by_cases hfd:∃ F,S[j]? = some F∧F.id=ID
    ·obtain ⟨F,hgj,hid⟩:=hfd
     have hlS:j<S.length:=(List.getElem?_eq_some_iff.1 hgj).1
     have hlt:j<n:=by rw[uh HN];exact hlS
     have hF:S[j]=F:=(List.getElem?_eq_some_iff.1 hgj).2
     obtain ⟨b,o,hao,hcj⟩:=((uh HI).kept (tn (uh HG5) hg)).txt j (by rw[← uh HNI];exact hlt)
     rw[show (idsS S)[j]'(by rw[← uh HNI];exact hlt)=S[j].id by simp[idsS],hF,hid,← uh HTI] at hcj
     have hph:putS S ⟨ID,k,d⟩=S.set j ⟨ID,k,d⟩:=zoe hgj hid (uh HE)
     have hiS:idsS (S.set j ⟨ID,k,d⟩)=idsS S:=by
      unfold idsS
      rw[List.map_set]
      refine List.ext_getElem (by simp) fun m h1 h2 => ?_
      rw[List.getElem_set]
      split
      ·rename_i e;subst e;simp[hF,hid]
      ·rfl
     have HIS:=hide hiS
     clear hiS
     obtain ⟨HPH,HLS⟩:=zh2 hph hlS
     clear hph hgj hF hid hlS
     go_upto_region 8 with fail
     go_cut [49] (fun x49 wx=>x49 = .bool true∧wx=wr)
     case first =>
      subst hao
      go_wp2
      go_meet
      case rel=>exact ⟨rfl,rfl⟩
     case rest =>
      obtain ⟨rfl,hwc⟩:=hcut
      rw[hwc]
      clear hwc hao hcj
      have hcd:wr.cell? ⟨w.heap.size,1,none⟩=some (.slice a2 n c2):=by rw[((uh HB0).kept hg (by simp)).cell];rfl
      have h0:wr.grownBy wr.drew none:=zaj (zaa _ _)
      go_upto_region 9 with fail
      go_cut [10] (fun x10 wx=>∃ p10 a5 d5,x10 = .pointer (some ⟨p10,0,none⟩)∧Blk wx p10 28 [.slice a1 n c1,.slice a5 n d5]∧Rob wx wr.heap.size (.slice a5 n d5) S∧wr.heap.size≤p10∧wr.grownBy wx none)
      case first =>
       refine wp_region_noPanic ?_
       refine wp_region_held_drew (S:=fun V=>wr.grownBy V none) (by kernel_rfl) h0 (fun _ => ?_)
       obtain ⟨WD,hWD⟩:∃ V,V=wr.drew:=⟨_,rfl⟩
       rw[← hWD]
       rw[← hWD] at h0
       clear hWD
       refine tq 0 50 (.fieldAddr 28 (.tmp 2) 0) (.pointer (some ⟨w.heap.size,0,none⟩)) h0 ?_
       refine tq 3 53 (.fieldAddr 28 (.tmp 2) 1) (.pointer (some ⟨w.heap.size,1,none⟩)) h0 ?_
       refine tz 1 51 (.load 25 (.tmp 50)) (.slice a1 n c1) h0 ?_ (y:=(Or.inl ⟨by rfl,fun V hV=>by (have hv1:=hV.cell hcc (by simp);go_simp)⟩))
       refine tz 4 54 (.load 26 (.tmp 53)) (.slice a2 n c2) h0 ?_ (y:=(Or.inl ⟨by rfl,fun V hV=>by (have hv1:=hV.cell hcd (by simp);go_simp)⟩))
       (try simp only[pq])
       refine wpAnyH_ready (rs:=[2,7]) (by kernel_rfl) (by simp) ?_
       refine AllReadyH.cons (o:=⟨some 52,.buildSlice 26 0 #[],_,_,_,_⟩) rfl (fun K9 hK9 => ?_) (AllReadyH.cons (o:=⟨some 10,.alloc 28,_,_,_,_⟩) rfl (fun K9 hK9 => ?_) AllReadyH.nil)
       ·obtain ⟨wb,hwb,ob,gb⟩:=zn3 WD 47 2 wr.heap.size (h0).size
        have z9:=zsm WD
        go_simp
        clear z9
        rw[← hwb]
        have k1:=tn h0 gb
        refine hK9.out _ _ k1 (fun _ => ?_)
        clear hK9 K9 hwb
        (try simp only[pq])
        refine wpAnyH_ready (rs:=[5,7]) (by kernel_rfl) (by simp) ?_
        refine AllReadyH.cons (o:=⟨some 55,.call { callee := .builtin .append,args := #[(.tmp 52),(.tmp 54)],argTypes := #[26,26] },_,_,_,_⟩) rfl (fun K9 hK9 => ?_) (AllReadyH.cons (o:=⟨some 10,.alloc 28,_,_,_,_⟩) rfl (fun K9 hK9 => ?_) AllReadyH.nil)
        ·refine zaw (by rfl) _ _ rfl wr.heap.size (.slice (some ⟨WD.heap.size,0,none⟩) 0 0) [] S rfl ob a2 n c2 rfl (uh HN) ((uh HO).kept (tn (tn (uh HG5) hg) k1)) (by rw[← uh HN];simp;omega) (k1).size ?_
         intro v5 w5b o5 g5b
         obtain ⟨a5,d5,hv5⟩:=zbi o5
         rw[List.nil_append,← uh HN] at hv5
         subst hv5
         have k5:=zac k1 g5b (fun x e=>Or.inl ((World.ownsRow.lt ob) x e).1)
         have ho5:Rob w5b wr.heap.size (.slice a5 n d5) S:=o5
         refine hK9.out _ _ k5 (fun _ => ?_)
         clear hK9 K9
         refine tz 6 56 (.build 28 #[(0,(.tmp 51)),(1,(.tmp 55))]) (.agg #[.slice a1 n c1,.slice a5 n d5]) k5 ?_ (y:=(zbc (by rfl) _ _ rfl _ (Eq.trans (b:=Tryz.prog.built 28 [(0,.slice a1 n c1),(1,.slice a5 n d5)]) (by kernel_rfl) (zgx a1 a5 n n c1 d5))))
         (try simp only[pq])
         refine rd 7 (some 10) (.alloc 28) (fun K9 hK9 => ?_)
         obtain ⟨wa,hwa,hB10,ga⟩:=zaf w5b 28 [.slice none 0 0,.slice none 0 0]
         go_simp
         rw[← hwa]
         have hp10:wr.heap.size≤w5b.heap.size:=(k5).size
         have k2:=tn k5 ga
         replace ho5:=zof ho5 ga
         refine hK9.out _ _ k2 (fun _ => ?_)
         clear hK9 K9 hwa
         (try simp only[pq])
         refine rd 8 none (.store 28 (.tmp 10) (.tmp 56)) (fun K9 hK9 => ?_)
         rw[if_pos (by rfl)]
         refine wp_store_row _ _ _ rfl (w5b.heap.size) _ rfl rfl _ _ hB10 za3 rfl (zcd _ _ _ _ _ _) ?_
         have k9:=zan k2 #[.slice a1 n c1,.slice a5 n d5] (Or.inl hp10)
         have gr9:wa.grownBy (wa.setRow (w5b.heap.size) #[.slice a1 n c1,.slice a5 n d5]) (some (w5b.heap.size)):=zan (zaa _ _) _ (Or.inr rfl)
         have ho9:=World.ownsRow.kept ho5 gr9 (Or.inr fun e=>zai ho5 hB10 (by decide) e.symm)
         have hB9:=hB10.row [.slice a1 n c1,.slice a5 n d5]
         refine hK9.out _ _ k9 (fun _ => ?_)
         clear hK9 K9
         (try simp only[Act.put])
         refine wpAnyH_done (by kernel_rfl) ?_ _
         refine NoPanic.normal ?_
         go_wp2_with fail
         go_meet
         case rel=>exact ⟨_,_,_,rfl,hB9,ho9,hp10,k9⟩
        ·obtain ⟨wa,hwa,hB10,ga⟩:=zaf wb 28 [.slice none 0 0,.slice none 0 0]
         go_simp
         rw[← hwa]
         have hp10:wr.heap.size≤wb.heap.size:=(k1).size
         have k2:=tn k1 ga
         replace ob:=zof ob ga
         refine hK9.out _ _ k2 (fun _ => ?_)
         clear hK9 K9 hwa
         (try simp only[pq])
         refine rd 5 (some 55) (.call { callee := .builtin .append,args := #[(.tmp 52),(.tmp 54)],argTypes := #[26,26] }) (fun K9 hK9 => ?_)
         refine zaw (by rfl) _ _ rfl wr.heap.size (.slice (some ⟨WD.heap.size,0,none⟩) 0 0) [] S rfl ob a2 n c2 rfl (uh HN) ((uh HO).kept (tn (tn (uh HG5) hg) k2)) (by rw[← uh HN];simp;omega) (k2).size ?_
         intro v5 w5b o5 g5b
         obtain ⟨a5,d5,hv5⟩:=zbi o5
         rw[List.nil_append,← uh HN] at hv5
         subst hv5
         have k5:=zac k2 g5b (fun x e=>Or.inl ((World.ownsRow.lt ob) x e).1)
         replace hB10:=hB10.kept g5b (zai ob hB10 (by decide))
         have ho5:Rob w5b wr.heap.size (.slice a5 n d5) S:=o5
         refine hK9.out _ _ k5 (fun _ => ?_)
         clear hK9 K9
         refine tz 6 56 (.build 28 #[(0,(.tmp 51)),(1,(.tmp 55))]) (.agg #[.slice a1 n c1,.slice a5 n d5]) k5 ?_ (y:=(zbc (by rfl) _ _ rfl _ (Eq.trans (b:=Tryz.prog.built 28 [(0,.slice a1 n c1),(1,.slice a5 n d5)]) (by kernel_rfl) (zgx a1 a5 n n c1 d5))))
         (try simp only[pq])
         refine rd 8 none (.store 28 (.tmp 10) (.tmp 56)) (fun K9 hK9 => ?_)
         rw[if_pos (by rfl)]
         refine wp_store_row _ _ _ rfl (wb.heap.size) _ rfl rfl _ _ hB10 za3 rfl (zcd _ _ _ _ _ _) ?_
         have k9:=zan k5 #[.slice a1 n c1,.slice a5 n d5] (Or.inl hp10)
         have gr9:w5b.grownBy (w5b.setRow (wb.heap.size) #[.slice a1 n c1,.slice a5 n d5]) (some (wb.heap.size)):=zan (zaa _ _) _ (Or.inr rfl)
         have ho9:=World.ownsRow.kept ho5 gr9 (Or.inr fun e=>zai ho5 hB10 (by decide) e.symm)
         have hB9:=hB10.row [.slice a1 n c1,.slice a5 n d5]
         refine hK9.out _ _ k9 (fun _ => ?_)
         clear hK9 K9
         (try simp only[Act.put])
         refine wpAnyH_done (by kernel_rfl) ?_ _
         refine NoPanic.normal ?_
         go_wp2_with fail
         go_meet
         case rel=>exact ⟨_,_,_,rfl,hB9,ho9,hp10,k9⟩
       ·obtain ⟨wa,hwa,hB10,ga⟩:=zaf WD 28 [.slice none 0 0,.slice none 0 0]
        go_simp
        rw[← hwa]
        have hp10:wr.heap.size≤WD.heap.size:=(h0).size
        have k1:=tn h0 ga
        refine hK9.out _ _ k1 (fun _ => ?_)
        clear hK9 K9 hwa
        (try simp only[pq])
        refine rd 2 (some 52) (.buildSlice 26 0 #[]) (fun K9 hK9 => ?_)
        obtain ⟨wb,hwb,ob,gb⟩:=zn3 wa 47 2 wr.heap.size (k1).size
        have z9:=zsm wa
        go_simp
        clear z9
        rw[← hwb]
        have k2:=tn k1 gb
        replace hB10:=hB10.kept gb (by simp)
        refine hK9.out _ _ k2 (fun _ => ?_)
        clear hK9 K9 hwb
        (try simp only[pq])
        refine rd 5 (some 55) (.call { callee := .builtin .append,args := #[(.tmp 52),(.tmp 54)],argTypes := #[26,26] }) (fun K9 hK9 => ?_)
        refine zaw (by rfl) _ _ rfl wr.heap.size (.slice (some ⟨wa.heap.size,0,none⟩) 0 0) [] S rfl ob a2 n c2 rfl (uh HN) ((uh HO).kept (tn (tn (uh HG5) hg) k2)) (by rw[← uh HN];simp;omega) (k2).size ?_
        intro v5 w5b o5 g5b
        obtain ⟨a5,d5,hv5⟩:=zbi o5
        rw[List.nil_append,← uh HN] at hv5
        subst hv5
        have k5:=zac k2 g5b (fun x e=>Or.inl ((World.ownsRow.lt ob) x e).1)
        replace hB10:=hB10.kept g5b (zai ob hB10 (by decide))
        have ho5:Rob w5b wr.heap.size (.slice a5 n d5) S:=o5
        refine hK9.out _ _ k5 (fun _ => ?_)
        clear hK9 K9
        refine tz 6 56 (.build 28 #[(0,(.tmp 51)),(1,(.tmp 55))]) (.agg #[.slice a1 n c1,.slice a5 n d5]) k5 ?_ (y:=(zbc (by rfl) _ _ rfl _ (Eq.trans (b:=Tryz.prog.built 28 [(0,.slice a1 n c1),(1,.slice a5 n d5)]) (by kernel_rfl) (zgx a1 a5 n n c1 d5))))
        (try simp only[pq])
        refine rd 8 none (.store 28 (.tmp 10) (.tmp 56)) (fun K9 hK9 => ?_)
        rw[if_pos (by rfl)]
        refine wp_store_row _ _ _ rfl (WD.heap.size) _ rfl rfl _ _ hB10 za3 rfl (zcd _ _ _ _ _ _) ?_
        have k9:=zan k5 #[.slice a1 n c1,.slice a5 n d5] (Or.inl hp10)
        have gr9:w5b.grownBy (w5b.setRow (WD.heap.size) #[.slice a1 n c1,.slice a5 n d5]) (some (WD.heap.size)):=zan (zaa _ _) _ (Or.inr rfl)
        have ho9:=World.ownsRow.kept ho5 gr9 (Or.inr fun e=>zai ho5 hB10 (by decide) e.symm)
        have hB9:=hB10.row [.slice a1 n c1,.slice a5 n d5]
        refine hK9.out _ _ k9 (fun _ => ?_)
        clear hK9 K9
        (try simp only[Act.put])
        refine wpAnyH_done (by kernel_rfl) ?_ _
        refine NoPanic.normal ?_
        go_wp2_with fail
        go_meet
        case rel=>exact ⟨_,_,_,rfl,hB9,ho9,hp10,k9⟩
      case rest =>
       obtain ⟨p10,a5,d5,rfl,hB10,hO10,hp10,hg10⟩:=hcut
       obtain ⟨W9,hW9⟩:∃ W,W=wc:=⟨_,rfl⟩
       rw[← hW9]
       rw[← hW9] at hB10 hO10 hg10
       clear hW9 hcc hcd h0
       obtain ⟨g,cap,e5,hgb,hgl⟩:=World.ownsRow.form hO10 (by rw[← uh HN];omega)
       rw[← uh HN] at e5
       obtain ⟨rfl,-,rfl⟩:a5=some ⟨g,0,none⟩∧n=n∧d5=cap:=by injection e5 with x y z;exact ⟨x,rfl,z⟩
       clear e5
       have hth:=zfo roC 2 (by rw[uh HN] at hO10;exact hO10) (fun _ _=>rfl) j (uh HLS)
       obtain ⟨hset,gset⟩:=ziu roC 2 (by rw[uh HN] at hO10;exact hO10) (fun _ _=>rfl) j (uh HLS) ⟨ID,k,d⟩ rfl
       have G9:=tn hg hg10
       have hr9:=zae (uh HR1) G9 (by simp)
       have hB3:=((uh HB3).kept G9 (by simp)).kept gset (fun e=>by injection e with e;have:=uh HS5;have:=hg.size;omega)
       have hc10:W9.cell? ⟨p10,1,none⟩=some (.slice (some ⟨g,0,none⟩) n d5):=by rw[hB10.cell];rfl
       have hB11:=hB10.kept gset (zai hO10 hB10 (by decide))
       have hr11:=zak hB11
       have hsw:(roC ⟨ID,k,d⟩)=[.int .i64 k,.string TD]:=by rw[uh HTD];rfl
       rw[hsw] at hset gset hB3 hB11 hr11
       obtain ⟨W10,hW10⟩:∃ W,W=W9.setCells g (j*2) [.int .i64 k,.string TD]:=⟨_,rfl⟩
       rw[← hW10] at hset gset hB3 hB11 hr11
       have hI10:=((uh HRS).ids.kept (tn (uh HG5) G9))
       have hgw:w.grownBy W10 none:=zac (tn (uh HG5) G9) gset (fun x e=>by cases e;exact Or.inl (by have:=uh HS5;have:=hg.size;omega))
       have hI11:=(uh HRS).ids.kept hgw
       rw[← uh HNI] at hI11
       have g12:W10.grownBy (W10.setRow (w.heap.size+2) #[.slice a1 n c1,.slice (some ⟨g,0,none⟩) n d5]) (some (w.heap.size+2)):=zan (zaa _ _) _ (Or.inr rfl)
       have hfin:RSet (W10.setRow (w.heap.size+2) #[.slice a1 n c1,.slice (some ⟨g,0,none⟩) n d5]) base (.slice a1 n c1) (.slice (some ⟨g,0,none⟩) n d5) (putS S ⟨ID,k,d⟩):=by
        rw[uh HPH]
        refine ⟨?_,?_⟩
        ·rw[show idsS (S.set j ⟨ID,k,d⟩)=idsS S from uh HIS]
         exact World.ownsRow.kept hI11 g12 (Or.inr fun e=>zai hI11 hB3 (by decide) e.symm)
        ·unfold Rob
         rw[List.length_set,← uh HN]
         rw[← uh HN] at hset
         exact za7 (World.ownsRow.kept hset g12 (Or.inr fun e=>zai hset hB3 (by decide) e.symm)) (Nat.le_trans (uh HBA) (Nat.le_trans (uh HG5).size hg.size))
       obtain ⟨HFIN,HGW,HB3x,HW10⟩:=zh4 hfin hgw hB3 hW10
       have hth2:W9.there g (j*2) (#[Value.int .i64 k,Value.string TD]:Array Value).size:=hth
       have HTH:=hide hth2
       clear hth hth2 hfin hgw hset gset hI10 hI11 g12 hB11 hB10 hO10 hW10 hsw hgb hgl hg10 G9
       go_wp2_with (first | (refine wpList_load_mid rfl 47 _ rfl (w.heap.size+1) 0 rfl [.int .i64 k,.string TD] _ hr9 Tryz.underlying47 rfl zd0 ?_;clear hr9) | (refine wpList_store_mid rfl 47 _ _ rfl g (j*2) #[.int .i64 k,.string TD] rfl rfl (uh HTH) zd0 (zxj _ _) ?_;rw[show (#[Value.int .i64 k,Value.string TD]:Array Value).toList=[.int .i64 k,.string TD] from rfl,← uh HW10]) | (refine wpList_load_mid rfl 28 _ rfl p10 0 rfl [.slice a1 n c1,.slice (some ⟨g,0,none⟩) n d5] _ hr11 Tryz.underlying28 rfl za3 ?_;clear hr11) | (refine wpList_store_row rfl 28 _ _ rfl (w.heap.size+2) _ rfl rfl _ _ hB3 za3 rfl (zcd _ _ _ _ _ _) ?_;clear hB3))
       refine bodyPost_ret (zd5 rfl _ _ _ _ _ _ _ rfl ((uh HB3x).row [.slice a1 n c1,.slice (some ⟨g,0,none⟩) n d5]) Tryz.underlying28 rfl za3) rfl ?_
       exact ⟨_,_,rfl,uh HFIN,zan (uh HGW) _ (Or.inl (by omega))⟩
    ·have hmiss:∀ y,S[j]? = some y→za6 y.id ID=false∧y.id≠ID:=fun y hy=>⟨uh HSTOP y hy,fun e=>hfd ⟨y,hy,e⟩⟩
     clear hfd
     go_upto_region 8 with fail
     go_cut [49] (fun x49 wx=>x49 = .bool false∧wx=wr)
     case first =>
      by_cases hlt:j<n
      ·have hlS:j<S.length:=by rw[← uh HN];exact hlt
       obtain ⟨b,o,hao,hcj⟩:=((uh HI).kept (tn (uh HG5) hg)).txt j (by rw[← uh HNI];exact hlt)
       rw[show (idsS S)[j]'(by rw[← uh HNI];exact hlt)=S[j].id by simp[idsS]] at hcj
       have hid:=(hmiss _ (List.getElem?_eq_getElem hlS)).2
       obtain ⟨F,hF⟩:∃ F,F=S[j].id:=⟨_,rfl⟩
       rw[← hF] at hcj hid
       obtain ⟨TF,hTF⟩:∃ T,T=str F:=⟨_,rfl⟩
       rw[← hTF] at hcj
       have hLF:TF.toList=F:=by rw[hTF,zbo]
       have h1:¬ TF.toList=TI.toList:=by rw[hLF,hLI];exact hid
       have h2:(F == ID)=false:=by simpa using hid
       clear hF hTF hlS hmiss
       subst hao
       go_wp2
       go_meet
       case rel=>exact ⟨rfl,rfl⟩
      ·clear hmiss
       go_wp2
       go_meet
       case rel=>exact ⟨rfl,rfl⟩
     case rest =>
      obtain ⟨rfl,hwc⟩:=hcut
      rw[hwc]
      clear hwc
      have hpm:putS S ⟨ID,k,d⟩=S.take j++⟨ID,k,d⟩::S.drop j:=zlo (uh HE) hmiss
      have hI6:=(uh HI).take j
      have hD6:=(uh HI).drop j (by rw[← uh HNI];exact hj)
      have hO6:=(uh HO).take j
      have hQ6:=(uh HO).drop j (by rw[← uh HN];exact hj)
      have hst:∀ W,(Instr.slice 25 (.slice a1 n c1) none (some (.int .i64 (j:Int))) none).run Tryz.prog W = .ok (.slice a1 j c1) W:=fun W=>zk7 W _ _ 1 Tryz.underlying25 (zf4 (by kernel_rfl)) a1 n c1 j (by have:=(uh HI).fits;have:=uh HNI;omega) (uh HI).spot
      have hsf:∀ W,(Instr.slice 25 (.slice a1 n c1) (some (.int .i64 (j:Int))) none none).run Tryz.prog W = .ok (.slice (cutK a1 c1 j 1) (n - j) (c1 - j)) W:=fun W=>zic W _ _ 1 Tryz.underlying25 (zf4 (by kernel_rfl)) a1 n c1 j hj
      have hot:∀ W,(Instr.slice 26 (.slice a2 n c2) none (some (.int .i64 (j:Int))) none).run Tryz.prog W = .ok (.slice a2 j c2) W:=fun W=>zk7 W _ _ 2 Tryz.underlying26 (zf4 zd0) a2 n c2 j (by have:=(uh HO).fits;have:=uh HN;omega) (uh HO).spot
      have hof:∀ W,(Instr.slice 26 (.slice a2 n c2) (some (.int .i64 (j:Int))) none none).run Tryz.prog W = .ok (.slice (cutK a2 c2 j 2) (n - j) (c2 - j)) W:=fun W=>zic W _ _ 2 Tryz.underlying26 (zf4 zd0) a2 n c2 j hj
      have hl1:j=((idsS S).take j).length:=by rw[List.length_take,← uh HNI];omega
      have hl2:n - j=((idsS S).drop j).length:=by rw[List.length_drop,← uh HNI]
      have hl3:j=(S.take j).length:=by rw[List.length_take,← uh HN];omega
      have hl4:n - j=(S.drop j).length:=by rw[List.length_drop,← uh HN]
      have hn1:∀ x:List UInt8,(([]++(idsS S).take j)++[x]++(idsS S).drop j).length=n+1:=fun x=>by simp only[List.length_append,List.length_cons,List.length_nil,← hl1,← hl2];omega
      have hn2:∀ x:ObE,(([]++S.take j)++[x]++S.drop j).length=n+1:=fun x=>by simp only[List.length_append,List.length_cons,List.length_nil,← hl3,← hl4];omega
      have hids:idsS (S.take j++⟨ID,k,d⟩::S.drop j)=([]++(idsS S).take j)++[ID]++(idsS S).drop j:=by simp[idsS,List.map_take,List.map_drop]
      have hobs:S.take j++⟨ID,k,d⟩::S.drop j=([]++S.take j)++[⟨ID,k,d⟩]++S.drop j:=by simp
      obtain ⟨W6,hW6,hB6,g6⟩:=zbb wr 28 #[.slice none 0 0,.slice none 0 0] [.slice none 0 0,.slice none 0 0]
      obtain ⟨q,hq⟩:∃ q,q=wr.heap.size:=⟨_,rfl⟩
      have G6:=tn hg g6
      have hc0:W6.cell? ⟨w.heap.size,0,none⟩=some (.slice a1 n c1):=by rw[((uh HB0).kept G6 (by simp)).cell];rfl
      have hc1:W6.cell? ⟨w.heap.size,1,none⟩=some (.slice a2 n c2):=by rw[((uh HB0).kept G6 (by simp)).cell];rfl
      have HRB:=hide (zae (uh HR1) G6 (by simp))
      have HB2:=hide ((uh HB3).kept G6 (by simp))
      have hw5:w.heap.size+3≤wr.heap.size:=by have:=(uh HS5);have:=hg.size;omega
      have HNQ:Hid (some w.heap.size≠some wr.heap.size):=fun e=>by injection e with e;omega
      have HNR:Hid (some (w.heap.size+1)≠some wr.heap.size):=fun e=>by injection e with e;omega
      have HN2:Hid (some (w.heap.size+2)≠some wr.heap.size):=fun e=>by injection e with e;omega
      have HI6:=hide (hI6.kept (tn (uh HG5) G6))
      have HD6:=hide (hD6.kept (tn (uh HG5) G6))
      have HO6:=hide (hO6.kept (tn (uh HG5) G6))
      have HQ6:=hide (hQ6.kept (tn (uh HG5) G6))
      obtain ⟨HWQ,HPM,HL1,HL2,HL3,HL4⟩:=zh6 hw5 hpm hl1 hl2 hl3 hl4
      obtain ⟨HN1,HNN2,HID,HOB,HST,HSF⟩:=zh6 hn1 hn2 hids hobs hst hsf
      obtain ⟨HOT,HOF,HB6⟩:=zh3 hot hof hB6
      have HG6:=hide (tn (uh HG5) G6)
      have HW6:=hide hW6
      have HBST:Hid (∀ W:World,(Instr.buildSlice 25 1 #[(0,.string TI)]).run Tryz.prog W = .ok (.slice (some ⟨W.heap.size,0,none⟩) 1 1) (W.alloc (.cells (stR ID).toArray 9))):=fun W=>by rw[uh HTI];exact zyj _ W
      have HBSO:Hid (∀ W:World,(Instr.buildSlice 26 1 #[(0,.agg #[.int .i64 k,.string TD])]).run Tryz.prog W = .ok (.slice (some ⟨W.heap.size,0,none⟩) 1 1) (W.alloc (.cells (roC ⟨ID,k,d⟩).toArray 47))):=fun W=>by rw[uh HTD];exact zyn _ _ W
      have h0:W6.grownBy W6.drew (some q):=zaj (zaa _ _)
      have hb0:=zmz
      rw[← hq] at HNQ HNR HN2 HB6
      have HQS:=hide hq
      clear hpm hI6 hD6 hO6 hQ6 hst hsf hot hof hl1 hl2 hl3 hl4 hn1 hn2 hids hobs hW6 hB6 g6 G6 hw5 hmiss hq
      go_upto_region 13 with (first
       | (refine zaz rfl 28 _ rfl #[.slice none 0 0,.slice none 0 0] ?hb ?_;(case hb=>exact hb0))
       | (refine wpList_store_row rfl 28 _ _ rfl wr.heap.size _ rfl rfl _ _ (Blk.new wr 28 [.slice none 0 0,.slice none 0 0]) za3 rfl (zcd _ _ _ _ _ _) ?_;rw[← uh HW6]))
      (try simp only[Act.put])
      rw[← uh HQS]
      go_cut [] (fun wx=>∃ b13 d13,Blk wx q 28 [.slice b13 (n+1) d13,.slice none 0 0]∧Stg wx W6.heap.size (.slice b13 (n+1) d13) (([]++(idsS S).take j)++[ID]++(idsS S).drop j)∧W6.grownBy wx (some q))
      case first =>
       have HBQ:=hide ((uh HB6).kept (zaj (zaa W6 none)) (by simp))
       have HGD:=hide (zaj (zaa W6 none))
       refine wp_region_noPanic ?_
       refine wp_region_held_drew (S:=fun V=>W6.grownBy V (some q)) (by kernel_rfl) h0 (fun _ => ?_)
       obtain ⟨WD,hWD⟩:∃ V,V=W6.drew:=⟨_,rfl⟩
       rw[← hWD]
       rw[← hWD] at h0 HBQ HGD
       clear hWD
       refine tq 0 65 (.fieldAddr 28 (.tmp 11) 0) (.pointer (some ⟨q,0,none⟩)) h0 ?_
       refine tq 2 67 (.fieldAddr 28 (.tmp 2) 0) (.pointer (some ⟨w.heap.size,0,none⟩)) h0 ?_
       refine tq 4 69 (.move (.tmp 9)) (.int .i64 (j:Int)) h0 ?_
       refine tq 7 72 (.move (.tmp 8)) (.string TI) h0 ?_
       (try simp only[pq])
       refine tq 10 75 (.fieldAddr 28 (.tmp 2) 0) (.pointer (some ⟨w.heap.size,0,none⟩)) h0 ?_
       refine tq 12 77 (.move (.tmp 9)) (.int .i64 (j:Int)) h0 ?_
       refine tz 3 68 (.load 25 (.tmp 67)) (.slice a1 n c1) h0 ?_ (y:=(Or.inl ⟨by rfl,fun V hV=>by (have hv1:=hV.cell hc0 (uh HNQ);go_simp)⟩))
       refine tz 11 76 (.load 25 (.tmp 75)) (.slice a1 n c1) h0 ?_ (y:=(Or.inl ⟨by rfl,fun V hV=>by (have hv1:=hV.cell hc0 (uh HNQ);go_simp)⟩))
       (try simp only[pq])
       refine tz 5 70 (.slice 25 (.tmp 68) none (some (.tmp 69)) none) (.slice a1 j c1) h0 ?_ (y:=(Or.inl ⟨by rfl,fun V hV=>by (have z9:=uh HST V;go_simp)⟩))
       refine tz 13 78 (.slice 25 (.tmp 76) (some (.tmp 77)) none none) (.slice (cutK a1 c1 j 1) (n - j) (c1 - j)) h0 ?_ (y:=(Or.inl ⟨by rfl,fun V hV=>by (have z9:=uh HSF V;go_simp)⟩))
       (try simp only[pq])
       refine wpAnyH_ready (rs:=[1,8]) (by kernel_rfl) (by simp) ?_
       refine AllReadyH.cons (o:=⟨some 66,.load 25 (.tmp 65),_,_,_,_⟩) rfl (fun K9 hK9 => ?_) (AllReadyH.cons (o:=⟨some 73,.buildSlice 25 1 #[(0,(.tmp 72))],_,_,_,_⟩) rfl (fun K9 hK9 => ?_) AllReadyH.nil)
       ·have z9:=((uh HBQ)).cell 0
        simp only[List.getElem?_cons_zero] at z9
        go_simp
        clear z9
        refine hK9.out _ _ h0 (fun _ => ?_)
        clear hK9 K9
        (try simp only[pq])
        refine wpAnyH_ready (rs:=[6,8]) (by kernel_rfl) (by simp) ?_
        refine AllReadyH.cons (o:=⟨some 71,.call { callee := .builtin .append,args := #[(.tmp 66),(.tmp 70)],argTypes := #[25,25] },_,_,_,_⟩) rfl (fun K9 hK9 => ?_) (AllReadyH.cons (o:=⟨some 73,.buildSlice 25 1 #[(0,(.tmp 72))],_,_,_,_⟩) rfl (fun K9 hK9 => ?_) AllReadyH.nil)
        ·refine za9 (by rfl) _ _ rfl W6.heap.size (.slice none 0 0) [] _ rfl (Stg.nil _ _) a1 j c1 rfl (uh HL1) ((uh HI6).kept (uh HGD)) (by rw[← uh HL1];simp;omega) ((uh HGD)).size ?_
         intro x1 w1 o1 g1z
         have g1:WD.grownBy w1 none:=g1z
         clear g1z
         have G13_1:=tn (uh HGD) g1
         have h13_1:=zav (some q) G13_1
         have B13_1:=((uh HBQ)).kept g1 (by simp)
         refine hK9.out _ _ h13_1 (fun _ => ?_)
         clear hK9 K9
         (try simp only[pq])
         refine rd 8 (some 73) (.buildSlice 25 1 #[(0,(.tmp 72))]) (fun K9 hK9 => ?_)
         obtain ⟨w2,hw2,e2,g2⟩:=zaf w1 9 (stR ID)
         refine zas (by rfl) 25 _ rfl (.string TI) _ rfl (uh HBST w1) ?_
         rw[← hw2]
         have E2:Rws w2 1 stR (some ⟨w1.heap.size,0,none⟩) 1 [ID]:=Rws.one e2
         have G13_2:=tn G13_1 g2
         have h13_2:=zav (some q) G13_2
         have B13_2:=(B13_1).kept g2 (by simp)
         have O2:=o1.kept g2
         refine hK9.out _ _ h13_2 (fun _ => ?_)
         clear hK9 K9 hw2 e2
         (try simp only[pq])
         refine rd 9 (some 74) (.call { callee := .builtin .append,args := #[(.tmp 71),(.tmp 73)],argTypes := #[25,25] }) (fun K9 hK9 => ?_)
         refine za9 (by rfl) _ _ rfl W6.heap.size x1 _ _ rfl O2 (some ⟨w1.heap.size,0,none⟩) 1 1 rfl rfl E2 (by simp only[List.length_append,List.length_nil,List.length_cons,← uh HL1];omega) (G13_2).size ?_
         intro x3 w3 o3 g3
         have G13_3:=zac G13_2 g3 (fun x e=>Or.inl ((World.ownsRow.lt O2) x e).1)
         have h13_3:=zav (some q) G13_3
         have B13_3:=(B13_2).kept g3 (zai O2 B13_2 (by decide))
         refine hK9.out _ _ h13_3 (fun _ => ?_)
         clear hK9 K9
         (try simp only[pq])
         refine rd 14 (some 79) (.call { callee := .builtin .append,args := #[(.tmp 74),(.tmp 78)],argTypes := #[25,25] }) (fun K9 hK9 => ?_)
         refine za9 (by rfl) _ _ rfl W6.heap.size x3 _ _ rfl o3 _ (n - j) _ rfl (uh HL2) ((uh HD6).kept G13_3) (by simp only[List.length_append,List.length_nil,List.length_cons,← uh HL1,← uh HL2];omega) (G13_3).size ?_
         intro x4 w4 o4 g4
         have G13_4:=zac G13_3 g4 (fun x e=>Or.inl ((World.ownsRow.lt o3) x e).1)
         have h13_4:=zav (some q) G13_4
         have B13_4:=(B13_3).kept g4 (zai o3 B13_3 (by decide))
         obtain ⟨b13,d13,hx13⟩:=zbi o4
         rw[uh HN1] at hx13
         subst hx13
         have q13:=(B13_4).cell 0
         simp only[List.getElem?_cons_zero] at q13
         have f13:=(B13_4).fz 0
         refine hK9.out _ _ h13_4 (fun _ => ?_)
         clear hK9 K9
         refine tq 15 80 (.fieldAddr 28 (.tmp 11) 0) (.pointer (some ⟨q,0,none⟩)) h13_4 ?_
         (try simp only[pq])
         refine rd 16 none (.store 25 (.tmp 80) (.tmp 79)) (fun K9 hK9 => ?_)
         go_simp
         have gs:=zcl w4 q 0 (.slice b13 (n+1) d13)
         have h9:=zac h13_4 gs (fun _ e=>Or.inr e)
         have B9:=(B13_4).set 0 (.slice b13 (n+1) d13)
         have O9:=World.ownsRow.kept o4 gs (Or.inr fun e=>zai o4 B13_4 (by decide) e.symm)
         refine hK9.out _ _ h9 (fun _ => ?_)
         clear hK9 K9
         (try simp only[pq])
         refine wpAnyH_done (by kernel_rfl) ?_ _
         refine NoPanic.normal ?_
         go_wp2_with fail
         go_meet
         case rel=>exact ⟨_,_,(by simpa only[List.set_cons_zero] using B9),O9,h9⟩
        ·obtain ⟨w2,hw2,e2,g2⟩:=zaf WD 9 (stR ID)
         refine zas (by rfl) 25 _ rfl (.string TI) _ rfl (uh HBST WD) ?_
         rw[← hw2]
         have E2:Rws w2 1 stR (some ⟨WD.heap.size,0,none⟩) 1 [ID]:=Rws.one e2
         have G13_1:=tn (uh HGD) g2
         have h13_1:=zav (some q) G13_1
         have B13_1:=((uh HBQ)).kept g2 (by simp)
         refine hK9.out _ _ h13_1 (fun _ => ?_)
         clear hK9 K9 hw2 e2
         (try simp only[pq])
         refine rd 6 (some 71) (.call { callee := .builtin .append,args := #[(.tmp 66),(.tmp 70)],argTypes := #[25,25] }) (fun K9 hK9 => ?_)
         refine za9 (by rfl) _ _ rfl W6.heap.size (.slice none 0 0) [] _ rfl (Stg.nil _ _) a1 j c1 rfl (uh HL1) ((uh HI6).kept G13_1) (by rw[← uh HL1];simp;omega) (G13_1).size ?_
         intro x1 w1 o1 g1z
         have g1:w2.grownBy w1 none:=g1z
         clear g1z
         have G13_2:=tn G13_1 g1
         have h13_2:=zav (some q) G13_2
         have B13_2:=(B13_1).kept g1 (by simp)
         have E1:=(E2).kept g1
         refine hK9.out _ _ h13_2 (fun _ => ?_)
         clear hK9 K9
         (try simp only[pq])
         refine rd 9 (some 74) (.call { callee := .builtin .append,args := #[(.tmp 71),(.tmp 73)],argTypes := #[25,25] }) (fun K9 hK9 => ?_)
         refine za9 (by rfl) _ _ rfl W6.heap.size x1 _ _ rfl o1 (some ⟨WD.heap.size,0,none⟩) 1 1 rfl rfl E1 (by simp only[List.length_append,List.length_nil,List.length_cons,← uh HL1];omega) (G13_2).size ?_
         intro x3 w3 o3 g3
         have G13_3:=zac G13_2 g3 (fun x e=>Or.inl ((World.ownsRow.lt o1) x e).1)
         have h13_3:=zav (some q) G13_3
         have B13_3:=(B13_2).kept g3 (zai o1 B13_2 (by decide))
         refine hK9.out _ _ h13_3 (fun _ => ?_)
         clear hK9 K9
         (try simp only[pq])
         refine rd 14 (some 79) (.call { callee := .builtin .append,args := #[(.tmp 74),(.tmp 78)],argTypes := #[25,25] }) (fun K9 hK9 => ?_)
         refine za9 (by rfl) _ _ rfl W6.heap.size x3 _ _ rfl o3 _ (n - j) _ rfl (uh HL2) ((uh HD6).kept G13_3) (by simp only[List.length_append,List.length_nil,List.length_cons,← uh HL1,← uh HL2];omega) (G13_3).size ?_
         intro x4 w4 o4 g4
         have G13_4:=zac G13_3 g4 (fun x e=>Or.inl ((World.ownsRow.lt o3) x e).1)
         have h13_4:=zav (some q) G13_4
         have B13_4:=(B13_3).kept g4 (zai o3 B13_3 (by decide))
         obtain ⟨b13,d13,hx13⟩:=zbi o4
         rw[uh HN1] at hx13
         subst hx13
         have q13:=(B13_4).cell 0
         simp only[List.getElem?_cons_zero] at q13
         have f13:=(B13_4).fz 0
         refine hK9.out _ _ h13_4 (fun _ => ?_)
         clear hK9 K9
         refine tq 15 80 (.fieldAddr 28 (.tmp 11) 0) (.pointer (some ⟨q,0,none⟩)) h13_4 ?_
         (try simp only[pq])
         refine rd 16 none (.store 25 (.tmp 80) (.tmp 79)) (fun K9 hK9 => ?_)
         go_simp
         have gs:=zcl w4 q 0 (.slice b13 (n+1) d13)
         have h9:=zac h13_4 gs (fun _ e=>Or.inr e)
         have B9:=(B13_4).set 0 (.slice b13 (n+1) d13)
         have O9:=World.ownsRow.kept o4 gs (Or.inr fun e=>zai o4 B13_4 (by decide) e.symm)
         refine hK9.out _ _ h9 (fun _ => ?_)
         clear hK9 K9
         (try simp only[pq])
         refine wpAnyH_done (by kernel_rfl) ?_ _
         refine NoPanic.normal ?_
         go_wp2_with fail
         go_meet
         case rel=>exact ⟨_,_,(by simpa only[List.set_cons_zero] using B9),O9,h9⟩
       ·obtain ⟨w2,hw2,e2,g2⟩:=zaf WD 9 (stR ID)
        refine zas (by rfl) 25 _ rfl (.string TI) _ rfl (uh HBST WD) ?_
        rw[← hw2]
        have E2:Rws w2 1 stR (some ⟨WD.heap.size,0,none⟩) 1 [ID]:=Rws.one e2
        have G13_1:=tn (uh HGD) g2
        have h13_1:=zav (some q) G13_1
        have B13_1:=((uh HBQ)).kept g2 (by simp)
        refine hK9.out _ _ h13_1 (fun _ => ?_)
        clear hK9 K9 hw2 e2
        (try simp only[pq])
        refine rd 1 (some 66) (.load 25 (.tmp 65)) (fun K9 hK9 => ?_)
        have z9:=(B13_1).cell 0
        simp only[List.getElem?_cons_zero] at z9
        go_simp
        clear z9
        refine hK9.out _ _ h13_1 (fun _ => ?_)
        clear hK9 K9
        (try simp only[pq])
        refine rd 6 (some 71) (.call { callee := .builtin .append,args := #[(.tmp 66),(.tmp 70)],argTypes := #[25,25] }) (fun K9 hK9 => ?_)
        refine za9 (by rfl) _ _ rfl W6.heap.size (.slice none 0 0) [] _ rfl (Stg.nil _ _) a1 j c1 rfl (uh HL1) ((uh HI6).kept G13_1) (by rw[← uh HL1];simp;omega) (G13_1).size ?_
        intro x1 w1 o1 g1z
        have g1:w2.grownBy w1 none:=g1z
        clear g1z
        have G13_2:=tn G13_1 g1
        have h13_2:=zav (some q) G13_2
        have B13_2:=(B13_1).kept g1 (by simp)
        have E1:=(E2).kept g1
        refine hK9.out _ _ h13_2 (fun _ => ?_)
        clear hK9 K9
        (try simp only[pq])
        refine rd 9 (some 74) (.call { callee := .builtin .append,args := #[(.tmp 71),(.tmp 73)],argTypes := #[25,25] }) (fun K9 hK9 => ?_)
        refine za9 (by rfl) _ _ rfl W6.heap.size x1 _ _ rfl o1 (some ⟨WD.heap.size,0,none⟩) 1 1 rfl rfl E1 (by simp only[List.length_append,List.length_nil,List.length_cons,← uh HL1];omega) (G13_2).size ?_
        intro x3 w3 o3 g3
        have G13_3:=zac G13_2 g3 (fun x e=>Or.inl ((World.ownsRow.lt o1) x e).1)
        have h13_3:=zav (some q) G13_3
        have B13_3:=(B13_2).kept g3 (zai o1 B13_2 (by decide))
        refine hK9.out _ _ h13_3 (fun _ => ?_)
        clear hK9 K9
        (try simp only[pq])
        refine rd 14 (some 79) (.call { callee := .builtin .append,args := #[(.tmp 74),(.tmp 78)],argTypes := #[25,25] }) (fun K9 hK9 => ?_)
        refine za9 (by rfl) _ _ rfl W6.heap.size x3 _ _ rfl o3 _ (n - j) _ rfl (uh HL2) ((uh HD6).kept G13_3) (by simp only[List.length_append,List.length_nil,List.length_cons,← uh HL1,← uh HL2];omega) (G13_3).size ?_
        intro x4 w4 o4 g4
        have G13_4:=zac G13_3 g4 (fun x e=>Or.inl ((World.ownsRow.lt o3) x e).1)
        have h13_4:=zav (some q) G13_4
        have B13_4:=(B13_3).kept g4 (zai o3 B13_3 (by decide))
        obtain ⟨b13,d13,hx13⟩:=zbi o4
        rw[uh HN1] at hx13
        subst hx13
        have q13:=(B13_4).cell 0
        simp only[List.getElem?_cons_zero] at q13
        have f13:=(B13_4).fz 0
        refine hK9.out _ _ h13_4 (fun _ => ?_)
        clear hK9 K9
        refine tq 15 80 (.fieldAddr 28 (.tmp 11) 0) (.pointer (some ⟨q,0,none⟩)) h13_4 ?_
        (try simp only[pq])
        refine rd 16 none (.store 25 (.tmp 80) (.tmp 79)) (fun K9 hK9 => ?_)
        go_simp
        have gs:=zcl w4 q 0 (.slice b13 (n+1) d13)
        have h9:=zac h13_4 gs (fun _ e=>Or.inr e)
        have B9:=(B13_4).set 0 (.slice b13 (n+1) d13)
        have O9:=World.ownsRow.kept o4 gs (Or.inr fun e=>zai o4 B13_4 (by decide) e.symm)
        refine hK9.out _ _ h9 (fun _ => ?_)
        clear hK9 K9
        (try simp only[pq])
        refine wpAnyH_done (by kernel_rfl) ?_ _
        refine NoPanic.normal ?_
        go_wp2_with fail
        go_meet
        case rel=>exact ⟨_,_,(by simpa only[List.set_cons_zero] using B9),O9,h9⟩
      case rest =>
       obtain ⟨b13,d13,hB7,hO7,hg7⟩:=hcut
       obtain ⟨W7,hW7⟩:∃ W,W=wc:=⟨_,rfl⟩
       rw[← hW7]
       rw[← hW7] at hB7 hO7 hg7
       clear hW7
       have hc1b:=hg7.cell hc1 (uh HNQ)
       clear hc0 hc1
       have hc1:=hc1b
       clear hc1b
       replace HRB:=hide (zae (uh HRB) hg7 (uh HNR))
       replace HB2:=hide ((uh HB2).kept hg7 (uh HN2))
       have HQG:Hid (w.heap.size≤q):=by rw[uh HQS];have:=uh HWQ;show _≤_;omega
       have HG7:=hide (zac (uh HG6) hg7 (fun x e=>by cases e;exact Or.inl (uh HQG)))
       have HO7:=hide (((uh HO).take j).kept (uh HG7))
       have HQ7:=hide (((uh HO).drop j (by rw[← uh HN];exact hj)).kept (uh HG7))
       have B7:=hB7
       have HO7b:=hide hO7
       clear hO7 hB7 hg7 h0
       go_upto_region 14 with fail
       go_cut [] (fun wx=>∃ b14 d14,Blk wx q 28 [.slice b13 (n+1) d13,.slice b14 (n+1) d14]∧Rob wx W7.heap.size (.slice b14 (n+1) d14) (([]++S.take j)++[⟨ID,k,d⟩]++S.drop j)∧W7.grownBy wx (some q))
       case first =>
        have HBR:=hide (B7.kept (zaj (zaa W7 none)) (by simp))
        have HGE:=hide (zaj (zaa W7 none))
        have h70:W7.grownBy W7.drew (some q):=zaj (zaa _ _)
        refine wp_region_noPanic ?_
        refine wp_region_held_drew (S:=fun V=>W7.grownBy V (some q)) (by kernel_rfl) h70 (fun _ => ?_)
        obtain ⟨WE,hWE⟩:∃ V,V=W7.drew:=⟨_,rfl⟩
        rw[← hWE]
        rw[← hWE] at h70 HBR HGE
        clear hWE
        refine tq 0 81 (.fieldAddr 28 (.tmp 11) 1) (.pointer (some ⟨q,1,none⟩)) h70 ?_
        refine tq 2 83 (.fieldAddr 28 (.tmp 2) 1) (.pointer (some ⟨w.heap.size,1,none⟩)) h70 ?_
        refine tq 4 85 (.move (.tmp 9)) (.int .i64 (j:Int)) h70 ?_
        refine tz 7 88 (.load 47 (.tmp 3)) (.agg [Value.int IntKind.i64 k,Value.string TD].toArray) h70 ?_ (y:=(yieldsIf_load_mid (by rfl) _ _ rfl _ _ rfl [Value.int IntKind.i64 k,Value.string TD] _ (fun V hV=>zae (uh HRB) hV (uh HNR)) Tryz.underlying47 rfl zd0))
        (try simp only[pq])
        refine tq 10 91 (.fieldAddr 28 (.tmp 2) 1) (.pointer (some ⟨w.heap.size,1,none⟩)) h70 ?_
        refine tq 12 93 (.move (.tmp 9)) (.int .i64 (j:Int)) h70 ?_
        refine tz 3 84 (.load 26 (.tmp 83)) (.slice a2 n c2) h70 ?_ (y:=(Or.inl ⟨by rfl,fun V hV=>by (have hv1:=hV.cell hc1 (uh HNQ);go_simp)⟩))
        refine tz 11 92 (.load 26 (.tmp 91)) (.slice a2 n c2) h70 ?_ (y:=(Or.inl ⟨by rfl,fun V hV=>by (have hv1:=hV.cell hc1 (uh HNQ);go_simp)⟩))
        (try simp only[pq])
        refine tz 5 86 (.slice 26 (.tmp 84) none (some (.tmp 85)) none) (.slice a2 j c2) h70 ?_ (y:=(Or.inl ⟨by rfl,fun V hV=>by (have z9:=uh HOT V;go_simp)⟩))
        refine tz 13 94 (.slice 26 (.tmp 92) (some (.tmp 93)) none none) (.slice (cutK a2 c2 j 2) (n - j) (c2 - j)) h70 ?_ (y:=(Or.inl ⟨by rfl,fun V hV=>by (have z9:=uh HOF V;go_simp)⟩))
        (try simp only[pq])
        refine wpAnyH_ready (rs:=[1,8]) (by kernel_rfl) (by simp) ?_
        refine AllReadyH.cons (o:=⟨some 82,.load 26 (.tmp 81),_,_,_,_⟩) rfl (fun K9 hK9 => ?_) (AllReadyH.cons (o:=⟨some 89,.buildSlice 26 1 #[(0,(.tmp 88))],_,_,_,_⟩) rfl (fun K9 hK9 => ?_) AllReadyH.nil)
        ·have z9:=((uh HBR)).cell 1
         simp only[List.getElem?_cons_zero,List.getElem?_cons_succ] at z9
         go_simp
         clear z9
         refine hK9.out _ _ h70 (fun _ => ?_)
         clear hK9 K9
         (try simp only[pq])
         refine wpAnyH_ready (rs:=[6,8]) (by kernel_rfl) (by simp) ?_
         refine AllReadyH.cons (o:=⟨some 87,.call { callee := .builtin .append,args := #[(.tmp 82),(.tmp 86)],argTypes := #[26,26] },_,_,_,_⟩) rfl (fun K9 hK9 => ?_) (AllReadyH.cons (o:=⟨some 89,.buildSlice 26 1 #[(0,(.tmp 88))],_,_,_,_⟩) rfl (fun K9 hK9 => ?_) AllReadyH.nil)
         ·refine zaw (by rfl) _ _ rfl W7.heap.size (.slice none 0 0) [] _ rfl (Rob.nil _ _) a2 j c2 rfl (uh HL3) ((uh HO7).kept (uh HGE)) (by rw[← uh HL3];simp;omega) ((uh HGE)).size ?_
          intro x1 w1 o1 g1z
          have g1:WE.grownBy w1 none:=g1z
          clear g1z
          have G14_1:=tn (uh HGE) g1
          have h14_1:=zav (some q) G14_1
          have B14_1:=((uh HBR)).kept g1 (by simp)
          refine hK9.out _ _ h14_1 (fun _ => ?_)
          clear hK9 K9
          (try simp only[pq])
          refine rd 8 (some 89) (.buildSlice 26 1 #[(0,(.tmp 88))]) (fun K9 hK9 => ?_)
          obtain ⟨w2,hw2,e2,g2⟩:=zaf w1 47 (roC ⟨ID,k,d⟩)
          refine zas (by rfl) 26 _ rfl (.agg #[.int .i64 k,.string TD]) _ rfl (uh HBSO w1) ?_
          rw[← hw2]
          have E2:Rws w2 2 roC (some ⟨w1.heap.size,0,none⟩) 1 [(⟨ID,k,d⟩:ObE)]:=Rws.one e2
          have G14_2:=tn G14_1 g2
          have h14_2:=zav (some q) G14_2
          have B14_2:=(B14_1).kept g2 (by simp)
          have O2:=o1.kept g2
          refine hK9.out _ _ h14_2 (fun _ => ?_)
          clear hK9 K9 hw2 e2
          (try simp only[pq])
          refine rd 9 (some 90) (.call { callee := .builtin .append,args := #[(.tmp 87),(.tmp 89)],argTypes := #[26,26] }) (fun K9 hK9 => ?_)
          refine zaw (by rfl) _ _ rfl W7.heap.size x1 _ _ rfl O2 (some ⟨w1.heap.size,0,none⟩) 1 1 rfl rfl E2 (by simp only[List.length_append,List.length_nil,List.length_cons,← uh HL3];omega) (G14_2).size ?_
          intro x3 w3 o3 g3
          have G14_3:=zac G14_2 g3 (fun x e=>Or.inl ((World.ownsRow.lt O2) x e).1)
          have h14_3:=zav (some q) G14_3
          have B14_3:=(B14_2).kept g3 (zai O2 B14_2 (by decide))
          refine hK9.out _ _ h14_3 (fun _ => ?_)
          clear hK9 K9
          (try simp only[pq])
          refine rd 14 (some 95) (.call { callee := .builtin .append,args := #[(.tmp 90),(.tmp 94)],argTypes := #[26,26] }) (fun K9 hK9 => ?_)
          refine zaw (by rfl) _ _ rfl W7.heap.size x3 _ _ rfl o3 _ (n - j) _ rfl (uh HL4) ((uh HQ7).kept G14_3) (by simp only[List.length_append,List.length_nil,List.length_cons,← uh HL3,← uh HL4];omega) (G14_3).size ?_
          intro x4 w4 o4 g4
          have G14_4:=zac G14_3 g4 (fun x e=>Or.inl ((World.ownsRow.lt o3) x e).1)
          have h14_4:=zav (some q) G14_4
          have B14_4:=(B14_3).kept g4 (zai o3 B14_3 (by decide))
          obtain ⟨b14,d14,hx14⟩:=zbi o4
          rw[uh HNN2] at hx14
          subst hx14
          have q14:=(B14_4).cell 1
          simp only[List.getElem?_cons_zero,List.getElem?_cons_succ] at q14
          have f14:=(B14_4).fz 1
          refine hK9.out _ _ h14_4 (fun _ => ?_)
          clear hK9 K9
          refine tq 15 96 (.fieldAddr 28 (.tmp 11) 1) (.pointer (some ⟨q,1,none⟩)) h14_4 ?_
          (try simp only[pq])
          refine rd 16 none (.store 26 (.tmp 96) (.tmp 95)) (fun K9 hK9 => ?_)
          go_simp
          have gs:=zcl w4 q 1 (.slice b14 (n+1) d14)
          have h9:=zac h14_4 gs (fun _ e=>Or.inr e)
          have B9:=(B14_4).set 1 (.slice b14 (n+1) d14)
          have O9:=World.ownsRow.kept o4 gs (Or.inr fun e=>zai o4 B14_4 (by decide) e.symm)
          refine hK9.out _ _ h9 (fun _ => ?_)
          clear hK9 K9
          (try simp only[pq])
          refine wpAnyH_done (by kernel_rfl) ?_ _
          refine NoPanic.normal ?_
          go_wp2_with fail
          go_meet
          case rel=>exact ⟨_,_,(by simpa only[List.set_cons_succ,List.set_cons_zero] using B9),O9,h9⟩
         ·obtain ⟨w2,hw2,e2,g2⟩:=zaf WE 47 (roC ⟨ID,k,d⟩)
          refine zas (by rfl) 26 _ rfl (.agg #[.int .i64 k,.string TD]) _ rfl (uh HBSO WE) ?_
          rw[← hw2]
          have E2:Rws w2 2 roC (some ⟨WE.heap.size,0,none⟩) 1 [(⟨ID,k,d⟩:ObE)]:=Rws.one e2
          have G14_1:=tn (uh HGE) g2
          have h14_1:=zav (some q) G14_1
          have B14_1:=((uh HBR)).kept g2 (by simp)
          refine hK9.out _ _ h14_1 (fun _ => ?_)
          clear hK9 K9 hw2 e2
          (try simp only[pq])
          refine rd 6 (some 87) (.call { callee := .builtin .append,args := #[(.tmp 82),(.tmp 86)],argTypes := #[26,26] }) (fun K9 hK9 => ?_)
          refine zaw (by rfl) _ _ rfl W7.heap.size (.slice none 0 0) [] _ rfl (Rob.nil _ _) a2 j c2 rfl (uh HL3) ((uh HO7).kept G14_1) (by rw[← uh HL3];simp;omega) (G14_1).size ?_
          intro x1 w1 o1 g1z
          have g1:w2.grownBy w1 none:=g1z
          clear g1z
          have G14_2:=tn G14_1 g1
          have h14_2:=zav (some q) G14_2
          have B14_2:=(B14_1).kept g1 (by simp)
          have E1:=(E2).kept g1
          refine hK9.out _ _ h14_2 (fun _ => ?_)
          clear hK9 K9
          (try simp only[pq])
          refine rd 9 (some 90) (.call { callee := .builtin .append,args := #[(.tmp 87),(.tmp 89)],argTypes := #[26,26] }) (fun K9 hK9 => ?_)
          refine zaw (by rfl) _ _ rfl W7.heap.size x1 _ _ rfl o1 (some ⟨WE.heap.size,0,none⟩) 1 1 rfl rfl E1 (by simp only[List.length_append,List.length_nil,List.length_cons,← uh HL3];omega) (G14_2).size ?_
          intro x3 w3 o3 g3
          have G14_3:=zac G14_2 g3 (fun x e=>Or.inl ((World.ownsRow.lt o1) x e).1)
          have h14_3:=zav (some q) G14_3
          have B14_3:=(B14_2).kept g3 (zai o1 B14_2 (by decide))
          refine hK9.out _ _ h14_3 (fun _ => ?_)
          clear hK9 K9
          (try simp only[pq])
          refine rd 14 (some 95) (.call { callee := .builtin .append,args := #[(.tmp 90),(.tmp 94)],argTypes := #[26,26] }) (fun K9 hK9 => ?_)
          refine zaw (by rfl) _ _ rfl W7.heap.size x3 _ _ rfl o3 _ (n - j) _ rfl (uh HL4) ((uh HQ7).kept G14_3) (by simp only[List.length_append,List.length_nil,List.length_cons,← uh HL3,← uh HL4];omega) (G14_3).size ?_
          intro x4 w4 o4 g4
          have G14_4:=zac G14_3 g4 (fun x e=>Or.inl ((World.ownsRow.lt o3) x e).1)
          have h14_4:=zav (some q) G14_4
          have B14_4:=(B14_3).kept g4 (zai o3 B14_3 (by decide))
          obtain ⟨b14,d14,hx14⟩:=zbi o4
          rw[uh HNN2] at hx14
          subst hx14
          have q14:=(B14_4).cell 1
          simp only[List.getElem?_cons_zero,List.getElem?_cons_succ] at q14
          have f14:=(B14_4).fz 1
          refine hK9.out _ _ h14_4 (fun _ => ?_)
          clear hK9 K9
          refine tq 15 96 (.fieldAddr 28 (.tmp 11) 1) (.pointer (some ⟨q,1,none⟩)) h14_4 ?_
          (try simp only[pq])
          refine rd 16 none (.store 26 (.tmp 96) (.tmp 95)) (fun K9 hK9 => ?_)
          go_simp
          have gs:=zcl w4 q 1 (.slice b14 (n+1) d14)
          have h9:=zac h14_4 gs (fun _ e=>Or.inr e)
          have B9:=(B14_4).set 1 (.slice b14 (n+1) d14)
          have O9:=World.ownsRow.kept o4 gs (Or.inr fun e=>zai o4 B14_4 (by decide) e.symm)
          refine hK9.out _ _ h9 (fun _ => ?_)
          clear hK9 K9
          (try simp only[pq])
          refine wpAnyH_done (by kernel_rfl) ?_ _
          refine NoPanic.normal ?_
          go_wp2_with fail
          go_meet
          case rel=>exact ⟨_,_,(by simpa only[List.set_cons_succ,List.set_cons_zero] using B9),O9,h9⟩
        ·obtain ⟨w2,hw2,e2,g2⟩:=zaf WE 47 (roC ⟨ID,k,d⟩)
         refine zas (by rfl) 26 _ rfl (.agg #[.int .i64 k,.string TD]) _ rfl (uh HBSO WE) ?_
         rw[← hw2]
         have E2:Rws w2 2 roC (some ⟨WE.heap.size,0,none⟩) 1 [(⟨ID,k,d⟩:ObE)]:=Rws.one e2
         have G14_1:=tn (uh HGE) g2
         have h14_1:=zav (some q) G14_1
         have B14_1:=((uh HBR)).kept g2 (by simp)
         refine hK9.out _ _ h14_1 (fun _ => ?_)
         clear hK9 K9 hw2 e2
         (try simp only[pq])
         refine rd 1 (some 82) (.load 26 (.tmp 81)) (fun K9 hK9 => ?_)
         have z9:=(B14_1).cell 1
         simp only[List.getElem?_cons_zero,List.getElem?_cons_succ] at z9
         go_simp
         clear z9
         refine hK9.out _ _ h14_1 (fun _ => ?_)
         clear hK9 K9
         (try simp only[pq])
         refine rd 6 (some 87) (.call { callee := .builtin .append,args := #[(.tmp 82),(.tmp 86)],argTypes := #[26,26] }) (fun K9 hK9 => ?_)
         refine zaw (by rfl) _ _ rfl W7.heap.size (.slice none 0 0) [] _ rfl (Rob.nil _ _) a2 j c2 rfl (uh HL3) ((uh HO7).kept G14_1) (by rw[← uh HL3];simp;omega) (G14_1).size ?_
         intro x1 w1 o1 g1z
         have g1:w2.grownBy w1 none:=g1z
         clear g1z
         have G14_2:=tn G14_1 g1
         have h14_2:=zav (some q) G14_2
         have B14_2:=(B14_1).kept g1 (by simp)
         have E1:=(E2).kept g1
         refine hK9.out _ _ h14_2 (fun _ => ?_)
         clear hK9 K9
         (try simp only[pq])
         refine rd 9 (some 90) (.call { callee := .builtin .append,args := #[(.tmp 87),(.tmp 89)],argTypes := #[26,26] }) (fun K9 hK9 => ?_)
         refine zaw (by rfl) _ _ rfl W7.heap.size x1 _ _ rfl o1 (some ⟨WE.heap.size,0,none⟩) 1 1 rfl rfl E1 (by simp only[List.length_append,List.length_nil,List.length_cons,← uh HL3];omega) (G14_2).size ?_
         intro x3 w3 o3 g3
         have G14_3:=zac G14_2 g3 (fun x e=>Or.inl ((World.ownsRow.lt o1) x e).1)
         have h14_3:=zav (some q) G14_3
         have B14_3:=(B14_2).kept g3 (zai o1 B14_2 (by decide))
         refine hK9.out _ _ h14_3 (fun _ => ?_)
         clear hK9 K9
         (try simp only[pq])
         refine rd 14 (some 95) (.call { callee := .builtin .append,args := #[(.tmp 90),(.tmp 94)],argTypes := #[26,26] }) (fun K9 hK9 => ?_)
         refine zaw (by rfl) _ _ rfl W7.heap.size x3 _ _ rfl o3 _ (n - j) _ rfl (uh HL4) ((uh HQ7).kept G14_3) (by simp only[List.length_append,List.length_nil,List.length_cons,← uh HL3,← uh HL4];omega) (G14_3).size ?_
         intro x4 w4 o4 g4
         have G14_4:=zac G14_3 g4 (fun x e=>Or.inl ((World.ownsRow.lt o3) x e).1)
         have h14_4:=zav (some q) G14_4
         have B14_4:=(B14_3).kept g4 (zai o3 B14_3 (by decide))
         obtain ⟨b14,d14,hx14⟩:=zbi o4
         rw[uh HNN2] at hx14
         subst hx14
         have q14:=(B14_4).cell 1
         simp only[List.getElem?_cons_zero,List.getElem?_cons_succ] at q14
         have f14:=(B14_4).fz 1
         refine hK9.out _ _ h14_4 (fun _ => ?_)
         clear hK9 K9
         refine tq 15 96 (.fieldAddr 28 (.tmp 11) 1) (.pointer (some ⟨q,1,none⟩)) h14_4 ?_
         (try simp only[pq])
         refine rd 16 none (.store 26 (.tmp 96) (.tmp 95)) (fun K9 hK9 => ?_)
         go_simp
         have gs:=zcl w4 q 1 (.slice b14 (n+1) d14)
         have h9:=zac h14_4 gs (fun _ e=>Or.inr e)
         have B9:=(B14_4).set 1 (.slice b14 (n+1) d14)
         have O9:=World.ownsRow.kept o4 gs (Or.inr fun e=>zai o4 B14_4 (by decide) e.symm)
         refine hK9.out _ _ h9 (fun _ => ?_)
         clear hK9 K9
         (try simp only[pq])
         refine wpAnyH_done (by kernel_rfl) ?_ _
         refine NoPanic.normal ?_
         go_wp2_with fail
         go_meet
         case rel=>exact ⟨_,_,(by simpa only[List.set_cons_succ,List.set_cons_zero] using B9),O9,h9⟩
       case rest =>
        obtain ⟨b14,d14,hB8,hO8,hg8⟩:=hcut
        obtain ⟨W8,hW8⟩:∃ W,W=wc:=⟨_,rfl⟩
        rw[← hW8]
        rw[← hW8] at hB8 hO8 hg8
        clear hW8
        have hI8:=World.ownsRow.kept (uh HO7b) hg8 (Or.inr fun e=>zai (uh HO7b) B7 (by decide) e.symm)
        have hB2:=(uh HB2).kept hg8 (uh HN2)
        have hr8:=zak hB8
        have hG8:=zac (uh HG7) hg8 (fun x e=>by cases e;exact Or.inl (uh HQG))
        have g9:W8.grownBy (W8.setRow (w.heap.size+2) #[.slice b13 (n+1) d13,.slice b14 (n+1) d14]) (some (w.heap.size+2)):=zan (zaa _ _) _ (Or.inr rfl)
        have hfin:RSet (W8.setRow (w.heap.size+2) #[.slice b13 (n+1) d13,.slice b14 (n+1) d14]) base (.slice b13 (n+1) d13) (.slice b14 (n+1) d14) (putS S ⟨ID,k,d⟩):=by
         rw[uh HPM]
         refine ⟨?_,?_⟩
         ·rw[uh HID]
          exact za7 (World.ownsRow.kept hI8 g9 (Or.inr fun e=>zai hI8 hB2 (by decide) e.symm)) (Nat.le_trans (uh HBA) (uh HG6).size)
         ·rw[uh HOB]
          exact za7 (World.ownsRow.kept hO8 g9 (Or.inr fun e=>zai hO8 hB2 (by decide) e.symm)) (Nat.le_trans (uh HBA) (uh HG7).size)
        obtain ⟨HFIN,HG8,HB2x⟩:=zh3 hfin hG8 hB2
        clear hfin hG8 g9 hI8 hO8 hB8 hg8
        go_wp2_with (first | (refine wpList_load_mid rfl 28 _ rfl q 0 rfl [.slice b13 (n+1) d13,.slice b14 (n+1) d14] _ hr8 Tryz.underlying28 rfl za3 ?_;clear hr8) | (refine wpList_store_row rfl 28 _ _ rfl (w.heap.size+2) _ rfl rfl _ _ hB2 za3 rfl (zcd _ _ _ _ _ _) ?_;clear hB2))
        refine bodyPost_ret (zd5 rfl _ _ _ _ _ _ _ rfl ((uh HB2x).row [.slice b13 (n+1) d13,.slice b14 (n+1) d14]) Tryz.underlying28 rfl za3) rfl ?_
        exact ⟨_,_,rfl,uh HFIN,zan (uh HG8) _ (Or.inl (by omega))⟩
end Go.Proofs.YthhnfloohbdaiaaGreatDoor
