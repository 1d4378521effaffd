/- Lemmas. -/
import Derived.Test.YtoilcpdhhlcidaaGreatDoorSpM
import Derived.Test.YtoilcpdhhlcidaaGreatDoorSpEq
import Derived.Test.YtoilcpdhhlcidaaGreatDoorNClo
import Derived.Deep.MidRow
namespace Go.Proofs.YtoilcpdhhlcidaaGreatDoor
open Go.RowKit
theorem zol {P:Program} {w w' : World} {ops:Array Oper} {o:Oper} {a:Act} {K:Act→World→Prop} {Q:Exit→Act→World→Prop} {E:Prop} (hw:Region.wanted o (yielded ops a.tmps)=true) (t:TypeId) (m x v:Operand) (ho:o.op = .mapUpdate t m x v)
  (M X V:Value) (hm:a.eval m=M) (hx:a.eval x=X) (hv:a.eval v=V) (hr:(Instr.mapUpdate t M X V).run P w = .ok () w') (h:K (a.put o.dst undef) w'):if Region.wanted o (yielded ops a.tmps)=true then Oper.wp P o a w K Q else E:=by
 rw[if_pos hw]
 unfold Oper.wp execOp
 simp only[ho,hm,hx,hv,hr,Sem.run_bind,Result.andThen_ok]
 exact h
theorem zmh {V:List (List UInt8 × List UInt8)} {l:List Chg} {c:Chg} {a:List Chg} (h:a=l++[c]):zal V a=zbr (zal V l) c:=by rw[h];unfold zal;rw[List.foldl_append];rfl
theorem zom {w a b:World} {m:Nat} (h:Fr w a [m]) (g:a.grownBy b (some m)):Fr w b [m]:=h.then g (fun x e=>by cases e;exact Or.inl (by simp))
set_option maxRecDepth 100000 in
set_option maxHeartbeats 4000000 in
theorem zhh (w:World) (m:Nat) (G:List Nat) (V:List (List UInt8 × List UInt8)) (hv:VmW w m G V) (ao:Option Addr) (ac:Nat) (L:List ChI) (h:CsG w ao ac L [m]) (hl:L.length≤1000000) (hk:∀ x∈L,x.key.length≤100000∧x.val.length≤1000000)
  (hG:∀ x∈G,x<w.heap.size) :
  Calls Tryz.prog 76 #[.map (some m),.slice ao L.length ac] w fun e w'=>e = .returned (.tuple #[])∧VmW w' m G (zal V (L.map ChI.chg))∧Fr w w' [m]:=by
 obtain ⟨n,hn⟩:∃ n,n=L.length:=⟨_,rfl⟩
 rw[← hn] at hl ⊢
 obtain ⟨HN,H0⟩:=zh2 hn h
 have H:=hide h.is
 obtain ⟨HV,HKB,HGB⟩:=zh3 hv hk hG
 clear hn h hv hk hG
 go_enter Tryz.func76,Tryz.ntmps76
 go_wp2
 go_loopw [8] (fun i wr=>∃ (j:Nat),i = .int .i64 j∧j≤n∧Hid (VmW wr m G (zal V ((L.take j).map ChI.chg)))∧Hid (Fr w wr [m])) (fun i _=>n - (intOf i).toNat)
 case atStart=>exact ⟨0,rfl,Nat.zero_le _,uh HV,Fr.refl _ _⟩
 case round =>
  obtain ⟨j,rfl,hj,HVJ,HF⟩:=hrel
  by_cases hlt:j<n
  ·have hjl:j<L.length:=by rw[← uh HN];exact hlt
   obtain ⟨b,o,hao,hrow⟩:=(uh H).row.at j hjl
   obtain ⟨x,hx⟩:∃ x,x=L[j]:=⟨_,rfl⟩
   rw[← hx] at hrow
   obtain ⟨TK,hTK⟩:∃ T,T=str x.key:=⟨_,rfl⟩
   obtain ⟨nv,hnv⟩:∃ n,n=x.val.length:=⟨_,rfl⟩
   obtain ⟨gn,hgn⟩:∃ g,g=x.gone:=⟨_,rfl⟩
   have e0:ciC x=[.string TK,.slice x.bo nv x.bc,.bool gn]:=by rw[hTK,hnv,hgn];rfl
   rw[e0] at hrow
   have hr:wr.rangeAt b (o+j*3) [.string TK,.slice x.bo nv x.bc,.bool gn]:=fun i v hv=>(uh HF).cell (hrow i v hv) (by subst hao;exact (uh H0).row ⟨b,o,none⟩ rfl (fun e=>by rw[e] at hjl;exact absurd hjl (Nat.not_lt_zero _)))
   obtain ⟨EC,hEC⟩:∃ E:List Value,E=[.string TK,.slice x.bo nv x.bc,.bool gn]:=⟨_,rfl⟩
   obtain ⟨W3,hW3,hB3,g3⟩:=zbu wr 55 #[.string ⟨#[]⟩,.slice none 0 0,.bool false] EC
   have hc0:W3.cell? ⟨wr.heap.size,0,none⟩=some (.string TK):=by rw[hB3.cell 0,hEC];rfl
   have hc1:W3.cell? ⟨wr.heap.size,1,none⟩=some (.slice x.bo nv x.bc):=by rw[hB3.cell 1,hEC];rfl
   have hc2:W3.cell? ⟨wr.heap.size,2,none⟩=some (.bool gn):=by rw[hB3.cell 2,hEC];rfl
   rw[← hEC] at hr
   have hsK:TK.size=x.key.length:=by rw[hTK,zaq]
   have HIE:=hide (show (Tryz.prog.info? 55).map (·.size)=some EC.length by rw[hEC];exact zdj)
   have HEO:=hide (show EC.toArray.all (·.oneCell')=true by rw[hEC];exact all_oneCell_toArray (zf8 _ _ _ _ _))
   have HZE:=hide (show (#[.string ⟨#[]⟩,.slice none 0 0,.bool false]:Array Value).size=EC.toArray.size by rw[hEC];rfl)
   obtain ⟨HW3,HEC⟩:=zh2 hW3 hEC
   have HX:=hide (show ∃ h:j<L.length,x=L[j]'h from ⟨hjl,hx⟩)
   obtain ⟨HTK,HNV,HGN,HB3⟩:=zh4 hTK hnv hgn hB3
   have HR3:=hide (zan hB3)
   have hta:=List.take_succ_eq_append_getElem hjl
   rw[← hx] at hta
   have HTA:=hide hta
   have HXV:=hide (show Bts w x.bo x.bc x.val by rw[hx];exact (uh H).val _ (List.getElem_mem hjl))
   have HXM:=hide (show x∈L by rw[hx];exact List.getElem_mem hjl)
   have HF3:=hide ((uh HF).trans (Fr.none g3 []) (fun _ e=>by cases e))
   have HXV3:=hide (show Bts W3 x.bo x.bc x.val from ((uh HF).bts0 (by rw[hx];exact (uh H).val _ (List.getElem_mem hjl)) (fun ad e hl=>(uh H0).val x (by rw[hx];exact List.getElem_mem hjl) ad e hl)).kept g3 (fun _ e=>by cases e))
   obtain ⟨HGW,HJL⟩:=zh2 g3 hjl
   have hji:(j:Int)<(n:Int):=by omega
   have hjw:IntKind.i64.wrap ((j:Int)+1)=(j:Int)+1:=by rw[IntKind.wrap_i64];omega
   clear hrow e0 hx hEC hTK hnv hgn hW3 hB3 g3 hta hjl
   subst hao
   obtain ⟨V0,hV0⟩:∃ V0,V0=zal V ((L.take j).map ChI.chg):=⟨_,rfl⟩
   rw[← hV0] at HVJ
   have hV1:zal V ((L.take (j+1)).map ChI.chg)=zbr V0 x.chg:=by
    rw[hV0]
    exact zmh (by rw[uh HTA,List.map_append];rfl)
   have HV1:=hide hV1
   have HV3:=hide ((uh HVJ).nn (uh HGW))
   have eK:keyS x.key = .string TK:=by rw[uh HTK];rfl
   clear hV0 hV1 hsK
   cases gn
   case true =>
    obtain ⟨w6,hdl,hv6,g6,s6⟩:=(uh HV3).del x.key (0) #[67,9] rfl
    rw[eK] at hdl
    have hst:zbr V0 x.chg=delK V0 x.key:=by unfold zbr ChI.chg;simp only[← uh HGN];rfl
    have HV6:=hide (show VmW w6 m G (zal V ((L.take (j+1)).map ChI.chg)) by rw[uh HV1,hst];exact hv6)
    have HF6:=hide (zom (uh HF3) g6)
    clear hst hv6 g6 s6 eK
    go_wp2_with (first
     | (refine wpList_load_mid rfl 55 _ rfl b (o+j*3) rfl EC _ hr Tryz.underlying55 rfl (uh HIE) ?_;clear hr)
     | (refine wpList_store_row rfl 55 _ _ rfl wr.heap.size EC.toArray rfl rfl _ _ (heap_alloc_new _ _) (by simpa using uh HIE) (uh HZE) (uh HEO) ?_;rw[← uh HW3])
     )
    go_roundw
    case rel=>exact ⟨j+1,by go_num,by omega,uh HV6,uh HF6⟩
    case measure=>simp[intOf];omega
   case false =>
    have hst:zbr V0 x.chg=putK V0 x.key x.val:=by unfold zbr ChI.chg;simp only[← uh HGN];rfl
    rw[hst] at HV1
    have hkl:=(uh HKB x (uh HXM)).1
    have hvl:=(uh HKB x (uh HXM)).2
    have cs:∀ W,Calls Tryz.prog 43 #[.string TK] W fun e w'=>e = .returned (.string TK)∧W.grownBy w' none:=fun W=>by rw[uh HTK];exact zhg W x.key hkl
    have cb:∀ W,W3.grownBy W none→Calls Tryz.prog 47 #[.slice x.bo nv x.bc] W fun e w'=>∃ v,e = .returned v∧w'.ownsRow W.heap.size 5 1 v x.val.length (x.val.map bv)∧W.grownBy w' none:=fun W hW=>by
     rw[uh HNV]
     exact zgf W _ _ _ ((uh HXV3).kept hW (fun _ e=>by cases e)) hvl
    have fin:∀ (w7:World) (a7:Option Addr) (c7:Nat),W3.grownBy w7 none→Bts w7 a7 c7 x.val→(∀ ad,a7=some ad→W3.heap.size≤ad.block)→∃ w8,(Instr.mapUpdate 67 (.map (some m)) (.string TK) (.slice a7 x.val.length c7)).run Tryz.prog w7 = .ok () w8∧VmW w8 m G (zal V ((L.take (j+1)).map ChI.chg))∧Fr w w8 [m]∧Fr W3 w8 [m]:=by
     intro w7 a7 c7 g7 hb7 hn7
     obtain ⟨w8,q1,q2,q3,q4⟩:=((uh HV3).nn g7).put x.key x.val a7 c7 hb7 (fun ad e _ hg=>by
      have:=hn7 ad e
      have:=uh HGB _ hg
      have:=(uh HF3).size
      omega)
     rw[eK] at q1
     refine ⟨w8,q1,by rw[uh HV1];exact q2,zom ((uh HF3).trans (Fr.none g7 []) (fun _ e=>by cases e)) q3,zom (Fr.none g7 [m]) q3⟩
    obtain ⟨HCS,HCB,HFI⟩:=zh3 cs cb fin
    have HNE:=hide (show wr.heap.size≠m by have:=(uh HVJ).lt;omega)
    obtain ⟨lv,hlv⟩:∃ k,k=x.val.length:=⟨_,rfl⟩
    clear hst hkl hvl cs cb fin eK
    go_upto_region 5 with (first
     | (refine wpList_load_mid rfl 55 _ rfl b (o+j*3) rfl EC _ hr Tryz.underlying55 rfl (uh HIE) ?_;clear hr)
     | (refine wpList_store_row rfl 55 _ _ rfl wr.heap.size EC.toArray rfl rfl _ _ (heap_alloc_new _ _) (by simpa using uh HIE) (uh HZE) (uh HEO) ?_;rw[← uh HW3])
     )
    refine wp_region_noPanic ?_
    refine wp_region_held_drew (S:=fun V=>Fr W3 V [m]) (by kernel_rfl) (Fr.none (zaa (zac W3 none)) [m]) (fun _ => ?_)
    refine tq 0 17 (.move (.tmp 0)) ((.map (some m))) (Fr.none (zaa (zac W3 none)) [m]) ?_
    refine tq 1 18 (.fieldAddr 55 (.tmp 5) 0) ((.pointer (some ⟨wr.heap.size,0,none⟩))) (Fr.none (zaa (zac W3 none)) [m]) ?_
    refine tz 2 19 (.load 9 (.tmp 18)) ((.string TK)) (Fr.none (zaa (zac W3 none)) [m]) ?_ (y:=(Or.inl ⟨by rfl,fun V hV=>by (have hv1:=Fr.cell hV hc0 (by simpa using uh HNE);go_simp)⟩))
    refine tq 4 21 (.fieldAddr 55 (.tmp 5) 1) ((.pointer (some ⟨wr.heap.size,1,none⟩))) (Fr.none (zaa (zac W3 none)) [m]) ?_
    (try simp only[pq])
    refine tz 5 22 (.load 53 (.tmp 21)) ((.slice x.bo nv x.bc)) (Fr.none (zaa (zac W3 none)) [m]) ?_ (y:=(Or.inl ⟨by rfl,fun V hV=>by (have hv1:=Fr.cell hV hc1 (by simpa using uh HNE);go_simp)⟩))
    (try simp only[pq])
    refine rdq 3 (some 20) (.call { callee := .value (.func 43),args := #[(.tmp 19)],argTypes := #[9] }) (fun K9 hK9 => ?_)
    go_simp
    go_at_call 43
    refine (uh HCS _).mono ?_
    rintro e w5 ⟨rfl,g5⟩
    have HG5:=hide (tn (zaa (zac W3 none)) g5)
    clear g5
    go_wp2_with fail
    refine hK9.out _ _ (Fr.none (uh HG5) [m]) (fun _ => ?_)
    clear hK9 K9
    (try simp only[pq])
    refine rdq 6 (some 23) (.call { callee := .value (.func 47),args := #[(.tmp 22)],argTypes := #[53] }) (fun K9 hK9 => ?_)
    go_simp
    go_at_call 47
    refine (uh HCB _ (uh HG5)).mono ?_
    rintro e w7 ⟨v7,rfl,ho7,g7⟩
    obtain ⟨_,a7,c7,hv7,hb7,hn7⟩:=zc1 ho7
    subst hv7
    have HG7:=hide (tn (uh HG5) g7)
    obtain ⟨w8,q1,q2,q3,q4⟩:=uh HFI w7 a7 c7 (uh HG7) hb7 (fun ad e=>Nat.le_trans (uh HG5).size (hn7 ad e).1)
    obtain ⟨HQ1,HV8,HF8,HS8⟩:=zh4 q1 q2 q3 q4
    clear q1 q2 q3 q4 ho7 g7 hb7 hn7
    go_wp2_with fail
    refine hK9.out _ _ (Fr.none (uh HG7) [m]) (fun _ => ?_)
    clear hK9 K9
    (try simp only[pq])
    refine rdq 7 none (.mapUpdate 67 (.tmp 17) (.tmp 20) (.tmp 23)) (fun K9 hK9 => ?_)
    refine zol (by rfl) 67 _ _ _ rfl (.map (some m)) (.string TK) (.slice a7 x.val.length c7) rfl rfl rfl (uh HQ1) ?_
    refine hK9.out _ _ (uh HS8) (fun _ => ?_)
    clear hK9 K9
    (try simp only[Act.put])
    refine wpAnyH_done (by kernel_rfl) ?_ _
    refine NoPanic.normal ?_
    go_wp2
    go_roundw
    case rel=>exact ⟨j+1,by go_num,by omega,uh HV8,uh HF8⟩
    case measure=>simp[intOf];omega
  ·have hji:¬ (j:Int)<(n:Int):=by omega
   have hfin:L.take j=L:=List.take_of_length_le (by rw[← uh HN];omega)
   rw[hfin] at HVJ
   go_wp2
   go_end0
   exact ⟨rfl,uh HVJ,uh HF⟩
end Go.Proofs.YtoilcpdhhlcidaaGreatDoor
