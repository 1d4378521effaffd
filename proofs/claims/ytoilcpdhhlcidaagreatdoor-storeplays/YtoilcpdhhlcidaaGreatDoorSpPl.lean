/- Lemmas. -/
import Derived.Test.YtoilcpdhhlcidaaGreatDoorSpOp
import Derived.Test.YtoilcpdhhlcidaaGreatDoorRStG
import Derived.Lib.SlBytesConst
namespace Go.Proofs.YtoilcpdhhlcidaaGreatDoor
open Go.RowKit
set_option maxRecDepth 100000
section
variable {S:List (List UInt8)} {h c g:Nat} {ls:List (List Chg)} {e:Nat}
theorem zov (a:StoS shaL S h c g ls e) {g' p' : Nat} {ls' : List (List Chg)} (b:HfS S (c*h+h) (c*h) g' p' ls'):g'=g∧p'=e∧ls'.length=ls.length∧zal [] ls'.flatten=zal [] ls.flatten:=by
 have hg:=a.g64
 have hc:=a.c01
 have hl:=a.len
 obtain ⟨l,ls0,rfl⟩:=List.exists_cons_of_ne_nil a.ne
 rcases b with ⟨_,_,_,h4⟩ | ⟨h1,h2,h3,h4⟩
 ·exact absurd a.recs.1 (h4 g a.g1 (by omega) l)
 ·obtain ⟨l',ls0',rfl⟩:=List.exists_cons_of_ne_nil h1
  have e1:=(MkS.one zbp (a.recs.1.mks (by omega) (by omega)) (h4.1.mks h3 (by omega))).1
  subst e1
  have hf:=h4.fits (by rcases (show c=0∨c=1 by omega) with rfl | rfl <;> omega)
  have hn:=h4.len
  have hb:(l'::ls0').length<18446744073709551616:=by
   have:c*h+h≤2*h:=by rcases (show c=0∨c=1 by omega) with rfl | rfl <;> omega
   omega
  have q:=zbm.one zbp (by omega) (by simpa using hb) (by simp only[List.length_cons] at hg ⊢;omega) h4 a.recs
  refine ⟨rfl,q.2,?_,zgy q.1⟩
  have:=congrArg List.length q.1
  simpa using this
theorem zle (a:StoS shaL S h c g ls e) {g' p' : Nat} {ls' : List (List Chg)} (b:HfS S ((1 - c)*h+h) ((1 - c)*h) g' p' ls'):g'<g:=by
 have h1:=a.g1
 rcases b with ⟨_,h2,_⟩ | ⟨h2,h3,h4,h5⟩
 ·omega
 ·obtain ⟨l',ls0',rfl⟩:=List.exists_cons_of_ne_nil h2
  have hh:(1 - c)*h<(1 - c)*h+h:=by
   have:=h5.1.fits
   omega
  exact a.old _ (Nat.le_refl _) hh g' 0 _ (h5.1.mks h4 (by omega))
end
theorem zow {S:List (List UInt8)} {hi f g p:Nat} {ls:List (List Chg)} (hn:∀ g n b,¬ MkS shaL S[f]? g n b) (b:HfS S hi f g p ls):g=0:=by
 rcases b with ⟨_,h2,_⟩ | ⟨h2,h3,h4,h5⟩
 ·exact h2
 ·obtain ⟨l',ls0',rfl⟩:=List.exists_cons_of_ne_nil h2
  exact absurd (h5.1.mks h4 (by omega)) (hn _ _ _)
theorem zox {u w:World} {F:List Nat} {d:Nat} {S:List (List UInt8)} {c g:Nat} {ls:List (List Chg)} {p:Nat} {rs:RSt} (h:Dw u w F d ⟨S,[],-1,false⟩) (on:OnS shaL S c g ls p rs) (hT:Tabs w) (hn:S.length / 2=rs.half) (h8:8≤S.length) :
  Calls Tryz.prog 10 #[.pointer (some ⟨d,0,none⟩)] w fun x w'=>∃ s m,x = .returned (.tuple #[.pointer (some ⟨s,0,none⟩),.int .i64 0])∧StM u w' F s d m S c g ls p rs∧w.grownBy w' none∧w.heap.size≤s∧w.heap.size≤m:=by
 have hc:=on.sto.c01
 have hg1:=on.sto.g1
 have hus:=h.gb.size
 have fin:∀ (w' : World) s m,w.grownBy w' none→Blk w' s 71 (stC d (c*rs.half) (c*rs.half+rs.half) p g ls.length m false)→VmW w' m (s::F) rs.V→w.heap.size≤s→w.heap.size≤m→StM u w' F s d m S c g ls p rs:=fun w' s m g1 g2 g3 g4 g5 =>
  ⟨h.nn g1,g2,g3,on,fun hx=>by have:=(h.lo s hx).2;omega,by omega,fun hx=>by have:=(h.lo m hx).2;omega,by omega,hn⟩
 refine (zlc h rfl rfl hT rs.half hn h8).mono fun x w' q => ?_
 obtain ⟨ls0,g0,p0,ls1,g1,p1,q⟩:=q
 have hh0:=q.h0
 have hh1:=q.h1
 simp only at hh0 hh1
 rcases (show c=0∨c=1 by omega) with rfl | rfl
 ·obtain ⟨e1,e2,e3,e4⟩:=zov on.sto (by rw[Nat.zero_mul,Nat.zero_add];exact hh0)
  have e5:g1<g:=zle on.sto (by rw[Nat.sub_zero,Nat.one_mul,← Nat.two_mul];exact hh1)
  subst e1 e2
  obtain ⟨s,m,q1,q2,q3,q4,q5,q6⟩:=q.zero (by omega) (by omega)
  refine ⟨s,m,q1,fin w' s m q2 ?_ ?_ q5 q6,q2,q5,q6⟩
  ·rw[Nat.zero_mul,Nat.zero_add,← e3];exact q3
  ·rw[on.V,← e4];exact q4
 ·obtain ⟨e1,e2,e3,e4⟩:=zov on.sto (by rw[Nat.one_mul,← Nat.two_mul];exact hh1)
  have e5:g0<g:=zle on.sto (by rw[Nat.sub_self,Nat.zero_mul,Nat.zero_add];exact hh0)
  subst e1 e2
  obtain ⟨s,m,q1,q2,q3,q4,q5,q6⟩:=q.one (by omega)
  refine ⟨s,m,q1,fin w' s m q2 ?_ ?_ q5 q6,q2,q5,q6⟩
  ·rw[Nat.one_mul,← Nat.two_mul,← e3];exact q3
  ·rw[on.V,← e4];exact q4
theorem zlf {u w:World} {F:List Nat} {d:Nat} {S:List (List UInt8)} (h:Dw u w F d ⟨S,[],-1,false⟩) (hm:∀ (q g n:Nat) (b:List UInt8),¬ MkS shaL S[q]? g n b) (hT:Tabs w) (h8:8≤S.length) :
  Calls Tryz.prog 10 #[.pointer (some ⟨d,0,none⟩)] w fun x w'=>∃ s m F',x = .returned (.tuple #[.pointer (some ⟨s,0,none⟩),.int .i64 0])∧StM u w' F' s d m (wrS shaL S 0 1 0 []) 0 1 [[]] 2 ⟨[],S.length / 2,2,0⟩∧Fr w w' F∧(∀ y∈F',y∈F∨w.heap.size≤y)∧w.heap.size≤s∧w.heap.size≤m:=by
 have hus:=h.gb.size
 have hmost:S.length≤2048:=h.at_.ok.most
 refine (zlc h rfl rfl hT (S.length / 2) rfl h8).mono fun x w' q => ?_
 obtain ⟨ls0,g0,p0,ls1,g1,p1,q⟩:=q
 have e0:=zow (hm 0) q.h0
 have e1:=zow (hm _) q.h1
 obtain ⟨F',q1,q2,q3,_,q5⟩:=q.new (by omega) e0
 rw[zh9 (S:=S) (p:=0) (g:=1) (r:=0) (l:=[]) h.at_.ok.wide (show 0+2≤S.length by omega)] at q1 q5
 obtain ⟨s,m,r1,r2,r3,r4,r5,r6,r7⟩:=q5 rfl
 refine ⟨s,m,F',r1,⟨q1,?_,r3,OnS.begin zbp (by omega) (by omega) (by omega) (fun q _=>hm q),r4,by omega,r5,by omega,by rw[zc0]⟩,q3,q2,r6,r7⟩
 rw[Nat.zero_mul,Nat.zero_add]
 exact r2
theorem zfj (n:Nat):∀ (q g m:Nat) (b:List UInt8),¬ MkS shaL (List.replicate n zsec)[q]? g m b:=fun q g m b h=>by
 have:=h.is
 rw[List.getElem?_replicate] at this
 split at this
 ·injection this with this
  exact ziu this
 ·cases this
def zca (V:List (List UInt8 × List UInt8)) (pf:List UInt8):List (List UInt8):=(zao V).filter fun k=>Lib.hasPrefix k pf
theorem zoy (V:List (List UInt8 × List UInt8)) (pf:List UInt8):(zca V pf).length≤V.length:=by
 have:=List.length_filter_le (fun k=>Lib.hasPrefix k pf) (zao V)
 unfold zao at this
 rw[List.length_map] at this
 exact this
set_option maxHeartbeats 4000000 in
theorem zqi (w:World) (s d f e p g r m:Nat) (st:Bool) (hb:Blk w s 71 (stC d f e p g r m st)) (G:List Nat) (V:List (List UInt8 × List UInt8)) (hv:VmW w m G V) (pf:List UInt8) (hk:∀ y∈V,y.1.length≤96) (hl:V.length≤100000) :
  Calls Tryz.prog 20 #[.pointer (some ⟨s,0,none⟩),.string (str pf)] w fun x w'=>∃ ao c,x = .returned (.slice ao (zca V pf).length c)∧Cel w' ao c ((zca V pf).map stv)∧w.grownBy w' none:=by
 have cm:=zcu w s d (by rw[hb.cell 0];rfl)
 have hc:w.cell? ⟨s,6,none⟩=some (.map (some m)):=by rw[hb.cell 6];rfl
 have cr:=zhi w m G V hv (fun y hy=>by have:=hk y hy;omega) (by omega)
 obtain ⟨n,hn⟩:∃ n,n=V.length:=⟨_,rfl⟩
 rw[← hn] at cr
 obtain ⟨TP,hTP⟩:∃ T,T=str pf:=⟨_,rfl⟩
 rw[← hTP]
 obtain ⟨HN,HTP,HK,HL⟩:=zh4 hn hTP hk hl
 clear hb hv hn hTP hk hl
 go_enter Tryz.func20,Tryz.ntmps20
 go_wp2_with (first
  | (go_at_call 36;refine cm.mono ?_;rintro e w1 ⟨rfl,hw1⟩;have hw2:=hw1.symm;clear hw1;subst hw2;clear cm)
  | (go_at_call 41;fail))
 refine cr.mono ?_
 rintro e w3 ⟨ko,kc,rfl,hcel,hfr,g3⟩
 obtain ⟨HC3,HG3⟩:=zh2 hcel g3
 clear cr hcel hfr g3 hc
 go_wp2
 go_loopw [18,5] (fun i v wr=>∃ (j:Nat),i = .int .i64 j∧j≤n∧Hid (w3.grownBy wr none)∧Hid (Stg wr w3.heap.size v (zca (V.take j) pf))) (fun i _ _=>n - (intOf i).toNat)
 case atStart=>exact ⟨0,rfl,Nat.zero_le _,zac _ _,Stg.nil _ _⟩
 case round =>
  obtain ⟨j,rfl,hj,HG,HO⟩:=hrel
  by_cases hlt:j<n
  ·have hjl:j<V.length:=by rw[← uh HN];exact hlt
   obtain ⟨kb,ko',hko,hkc⟩:=(uh HC3).at j (by simpa[kyC] using hjl)
   subst hko
   obtain ⟨a,ha⟩:∃ a,a=(V[j]).1:=⟨_,rfl⟩
   have hke:(kyC V)[j]'(by simpa[kyC] using hjl) = .string (str a):=by simp[kyC,ha]
   rw[hke] at hkc
   have hkc2:=(uh HG).cell hkc (by simp)
   have hal:a.length≤96:=by rw[ha];exact uh HK _ (List.getElem_mem hjl)
   have hpx:=zl3 wr a pf
   obtain ⟨TK,hTK⟩:∃ T,T=str a:=⟨_,rfl⟩
   have HCS:=hide (show ∀ W,Calls Tryz.prog 43 #[.string TK] W fun e w'=>e = .returned (.string TK)∧W.grownBy w' none from fun W=>by rw[hTK];exact zhg W a (by omega))
   rw[← hTK,← uh HTP] at hpx
   rw[← hTK] at hkc2
   have hji:(j:Int)<(n:Int):=by omega
   have hjw:IntKind.i64.wrap ((j:Int)+1)=(j:Int)+1:=by rw[IntKind.wrap_i64];have:=uh HL;have:=uh HN;omega
   have htk:V.take (j+1)=V.take j++[V[j]]:=List.take_succ_eq_append_getElem hjl
   have hkp:zca (V.take (j+1)) pf=if Lib.hasPrefix a pf=true then zca (V.take j) pf++[a] else zca (V.take j) pf:=by
    unfold zca zao
    rw[htk,List.map_append,List.filter_append]
    simp only[List.map_cons,List.map_nil,← ha]
    by_cases hq:Lib.hasPrefix a pf=true
    ·rw[if_pos hq,List.filter_cons_of_pos (by simpa using hq),List.filter_nil]
    ·rw[if_neg hq,List.filter_cons_of_neg (by simpa using hq),List.filter_nil,List.append_nil]
   have HLN:=hide (show (zca (V.take j) pf).length≤1000000 by
    have h1:=zoy (V.take j) pf
    have h2:=uh HL
    rw[List.length_take] at h1
    omega)
   have HTK:=hide hTK
   clear hjl hkc hke ha hal hTK htk
   cases hq:Lib.hasPrefix a pf
   case false =>
    rw[hq] at hpx
    have HKP:=hide (show zca (V.take (j+1)) pf=zca (V.take j) pf by rw[hkp,hq];rfl)
    clear hkp hq
    go_wp2_with (go_at_call 42;refine hpx.mono ?_;rintro e w5 ⟨rfl,hw5⟩;have hw6:=hw5.symm;clear hw5;subst hw6;clear hpx)
    go_roundw
    case rel=>exact ⟨j+1,by go_num,by omega,uh HG,by rw[uh HKP];exact uh HO⟩
    case measure=>simp[intOf];omega
   case true =>
    rw[hq] at hpx
    have HKP:=hide (show zca (V.take (j+1)) pf=zca (V.take j) pf++[a] by rw[hkp,hq];rfl)
    clear hkp hq
    go_wp2_with (first
     | (go_at_call 42;refine hpx.mono ?_;rintro e w5 ⟨rfl,hw5⟩;have hw6:=hw5.symm;clear hw5;subst hw6;clear hpx)
     | (go_at_call 43;refine (uh HCS _).mono ?_;rintro e w7 ⟨rfl,g7⟩;obtain ⟨W8,hW8,hB8,g8⟩:=zah w7 9 [.string TK];have HW8:=hide (show W8=w7.alloc (.cells #[.string TK] 9) from hW8);have HS8:=hide ((uh HO).kept (tn g7 g8));have HG8:=hide (tn (uh HG) (tn g7 g8));have HC8:=hide (show W8.cell? ⟨w7.heap.size,0,none⟩=some (stv a) by rw[hB8.cell 0,uh HTK];rfl);clear g7 hW8 hB8 g8)
     | (rw[← uh HW8])
     | (refine ze7 rfl _ _ rfl w3.heap.size u5 (zca (V.take j) pf) a w7.heap.size rfl (uh HS8) rfl (uh HC8) (uh HLN) (uh HG8).size ?_;intro v9 w9 ho9 g9;have HO9:=hide ho9;have HG9:=hide (show w3.grownBy w9 none from zae (uh HG8) g9 (fun y hy=>Or.inl ((uh HS8).lt y hy).1));clear ho9 g9))
    go_roundw
    case rel=>exact ⟨j+1,by go_num,by omega,uh HG9,by rw[uh HKP];exact uh HO9⟩
    case measure=>simp[intOf];omega
  ·have hjn:j=n:=by omega
   have hji:¬ (j:Int)<(n:Int):=by omega
   have hAl:V.take j=V:=List.take_of_length_le (by rw[hjn,uh HN];exact Nat.le_refl _)
   rw[hAl] at HO
   obtain ⟨ao,c,hv5,hce,-⟩:=Cel.own (L:=(zca V pf).map stv) (by rw[List.length_map];exact uh HO) (fun u hu=>by obtain ⟨y,_,rfl⟩:=List.mem_map.1 hu;rfl)
   subst hv5
   have HCE:=hide hce
   clear hjn hAl hce HO
   go_wp2
   go_ret
   exact ⟨ao,c,rfl,uh HCE,tn (uh HG3) (uh HG)⟩
theorem StM.gb {u w:World} {F:List Nat} {s d m:Nat} {S:List (List UInt8)} {c g:Nat} {ls:List (List Chg)} {p:Nat} {rs:RSt} (h:StM u w F s d m S c g ls p rs):u.grownBy w none:=h.dw.gb
theorem zoz (V:World) (l:List UInt8) (mk:Nat × Nat) (h:l.length≤maxLen):Bts (V.alloc (.cells (l.map bv).toArray 5 mk)) (some ⟨V.heap.size,0,none⟩) l.length l:=by
 refine ⟨(fun e=>by cases e),Nat.le_refl _,h,(fun ad e _=>by cases e;rfl),(fun ad e i hi => ?_)⟩
 cases e
 show (V.alloc (.cells (l.map bv).toArray 5 mk)).cell? ⟨V.heap.size,0+i,none⟩=_
 rw[Nat.zero_add,cell_of_row _ _ i _ _ _ (heap_alloc_new V _)]
 simp[hi,bv]
def oneL:List Chg:=[⟨[97],[98],false⟩]
theorem zqj:MayC oneL:=⟨by decide,fun c hc=>by rw[List.mem_singleton.1 hc];exact ⟨by decide,by decide,by decide⟩⟩
theorem zsf:cmS ⟨[],4,2,0⟩ oneL=(⟨[([97],[98])],4,4,0⟩,0):=by
 unfold cmS
 rw[if_neg (fun e=>e zqj),if_neg (by simp[oneL]),if_pos (by decide)]
 rfl
set_option maxHeartbeats 4000000 in
theorem zo0 (w:World) (hT:Tabs w):Calls Tryz.prog 21 #[] w fun e w'=>e = .returned (.bool true)∧w.grownBy w' none:=by
 have cn:=lnew (zac w none) 8 (by decide) (by decide)
 rw[show ((8:Nat):Int)=8 from rfl] at cn
 have HT:=hide hT
 clear hT
 go_enter Tryz.func21,Tryz.ntmps21
 go_wp2_with (go_at_call 9;fail)
 refine cn.mono ?_
 rintro e w1 ⟨d,F,rfl,hd1,hF,g1⟩
 have co:=zlf hd1 (zfj 8) ((uh HT).kept0 g1) (by simp)
 clear cn hF
 go_wp2_with (go_at_call 10;fail)
 refine co.mono ?_
 rintro e w2 ⟨s,m,F',rfl,hs2,-,-,-,-⟩
 have cl:=zlb w2 s d _ _ _ _ _ _ _ hs2.blk (by simp) (by simp)
 rw[show ((0*(⟨[],(List.replicate 8 zsec).length / 2,2,0⟩:RSt).half+(⟨[],(List.replicate 8 zsec).length / 2,2,0⟩:RSt).half - 2:Nat):Int)=2 by simp] at cl
 have HS2:=hide hs2
 clear co hs2 hd1 g1
 go_upto_region 3 with fail
 refine zai fun O hO => ?_
 refine zab (by rw[hO];kernel_rfl) (.int .i64 0) (fun K9 hK9=>by go_simp;exact hK9) ?_
 (try simp only[pq])
 refine zab (by rw[hO];kernel_rfl) (.bool false) (fun K9 hK9=>by go_simp;exact hK9) ?_
 (try simp only[pq])
 refine zab (by rw[hO];kernel_rfl) (.bool false) (fun K9 hK9=>by go_simp;exact hK9) ?_
 (try simp only[pq])
 refine zab (by rw[hO];kernel_rfl) (.pointer (some ⟨s,0,none⟩)) (fun K9 hK9=>by go_simp;exact hK9) ?_
 (try simp only[pq])
 refine zab (by rw[hO];kernel_rfl) (.bool false) (fun K9 hK9=>by go_simp;exact hK9) ?_
 (try simp only[pq])
 refine zab (by rw[hO];kernel_rfl) (.bool false) (fun K9 hK9=>by go_simp;exact hK9) ?_
 (try simp only[pq])
 refine zab (by rw[hO];kernel_rfl) (.bool false) (fun K9 hK9=>by go_simp;exact hK9) ?_
 (try simp only[pq])
 refine zab (by rw[hO];kernel_rfl) (.pointer (some ⟨s,0,none⟩)) (fun K9 hK9=>by go_simp;exact hK9) ?_
 (try simp only[pq])
 refine zat (by rw[hO];kernel_rfl) fun K9 hK9 => ?_
 go_simp
 go_at_call 17
 refine (cl).mono ?_
 rintro e w9 ⟨rfl,g9⟩
 have HG9:=hide g9
 clear cl g9
 refine hK9 _ _ ?_
 clear hK9 K9
 (try simp only[pq])
 refine zab (by rw[hO];kernel_rfl) (.bool false) (fun K9 hK9=>by go_simp;exact hK9) ?_
 (try simp only[pq])
 refine zab (by rw[hO];kernel_rfl) (.bool false) (fun K9 hK9=>by go_simp;exact hK9) ?_
 (try simp only[pq])
 have hs9:=(uh HS2).nn (uh HG9)
 have HS9:=hide hs9
 obtain ⟨W3,hW3⟩:∃ W,W=w9.alloc (.cells #[.int .u8 98] 5 (1,2)):=⟨_,rfl⟩
 have g3:w9.grownBy W3 none:=by rw[hW3];exact zaf (zac _ _) _
 have hcv:(convert 53 53 (.slice (some ⟨w9.heap.size,0,none⟩) 1 1)).run Tryz.prog (w9.alloc (.cells #[.int .u8 98] 5)) = .ok (.slice (some ⟨w9.heap.size,0,none⟩) 1 1) W3:=by
  rw[hW3];exact Lib.run_convert_bytes_const (P:=Tryz.prog) w9 53 5 #[.int .u8 98] 1 1 Tryz.underlying53 Tryz.underlying5
 have hbx3:Bts W3 (some ⟨w9.heap.size,0,none⟩) 1 [98]:=by rw[hW3];exact zoz w9 [98] (1,2) (by unfold maxLen;decide)
 obtain ⟨W4,hW4,hB4,g4⟩:=zah W3 55 [.string ⟨#[97]⟩,.slice (some ⟨w9.heap.size,0,none⟩) 1 1,.bool false]
 have hx4:Rws W4 3 ciC (some ⟨W3.heap.size,0,none⟩) 1 [(⟨[97],some ⟨w9.heap.size,0,none⟩,1,[98],false⟩:ChI)]:=zjy (show Blk W4 W3.heap.size 55 (ciC ⟨[97],some ⟨w9.heap.size,0,none⟩,1,[98],false⟩) from hB4)
 have hbx:Bts W4 (some ⟨w9.heap.size,0,none⟩) 1 [98]:=hbx3.kept g4 (fun _ e=>by cases e)
 have hs4:=(hs9.nn g3).nn g4
 have hlow:∀ x∈m::s::F',x<w9.heap.size:=fun x hx=>by
  simp only[List.mem_cons] at hx
  rcases hx with rfl | rfl | hx
  ·exact hs9.vm.lt
  ·exact hs9.blk.lt
  ·exact (hs9.dw.lo x hx).2
 have hcs:CsG W4 (some ⟨W3.heap.size,0,none⟩) 1 [(⟨[97],some ⟨w9.heap.size,0,none⟩,1,[98],false⟩:ChI)] (m::s::F'):=by
  refine ⟨⟨hx4,fun x hx=>by rw[List.mem_singleton.1 hx];exact hbx⟩,fun ad e _ hm => ?_,fun x hx ad e _ hm => ?_⟩
  ·cases e
   have h1:=hlow _ hm
   have h2:=g3.size
   simp only at h1
   omega
  ·rw[List.mem_singleton.1 hx] at e
   cases e
   have h1:=hlow _ hm
   simp only at h1
   omega
 have hT4:=(uh HT).kept0 hs4.gb
 have cc:=zhj hs4 hT4 _ _ _ hcs (by simp) (by simp) (by simp)
 rw[show ([(⟨[97],some ⟨w9.heap.size,0,none⟩,1,[98],false⟩:ChI)]).map ChI.chg=oneL from rfl,show (⟨[],(List.replicate 8 zsec).length / 2,2,0⟩:RSt)=⟨[],4,2,0⟩ by simp,zsf,show ([(⟨[97],some ⟨w9.heap.size,0,none⟩,1,[98],false⟩:ChI)]).length=1 from rfl] at cc
 have HW4:=hide (show W4=W3.alloc (.cells #[.string ⟨#[97]⟩,.slice (some ⟨w9.heap.size,0,none⟩) 1 1,.bool false] 55) from hW4)
 clear hs9 hW3 hbx3 g3 hW4 hB4 g4 hx4 hbx hs4 hlow hcs hT4
 go_wp2_with (first
  | (rw[← uh HW4])
  | (go_at_call 15;fail))
 refine cc.mono ?_
 rintro e w5 ⟨rfl,F2,m2,S2,c2,g2,ls2,p2,hs5,-⟩
 have hn5:=hs5.hn
 simp only at hn5
 have co:=zox hs5.dw hs5.on ((uh HT).kept0 hs5.gb) hn5 (by omega)
 clear cc hs5 hn5
 go_wp2_with (go_at_call 10;fail)
 refine co.mono ?_
 rintro e w6 ⟨s6,m6,rfl,hs6,-⟩
 have cg:=zor w6 s6 d _ _ _ _ _ _ _ hs6.blk _ _ hs6.vm [97] (by simp[getK])
 rw[show (getK (⟨[([97],[98])],4,4,0⟩:RSt).V [97])=some [98] from rfl] at cg
 simp only[Option.getD_some,List.length_cons,List.length_nil,Option.isSome_some,Nat.zero_add] at cg
 rw[show str [97]=⟨#[97]⟩ from rfl] at cg
 have HS6:=hide hs6
 clear co hs6
 go_wp2_with (go_at_call 25;fail)
 refine cg.mono ?_
 rintro e w7 ⟨ga,gc,rfl,hb7,g7⟩
 have HCV:=hide (show (convert 53 9 (.slice ga 1 gc)).run Tryz.prog w7 = .ok (.string ⟨#[98]⟩) w7 from zb7 hb7)
 have HG7:=hide g7
 clear cg hb7 g7
 go_upto_region 8 with fail
 refine zai fun O hO => ?_
 refine zab (by rw[hO];kernel_rfl) (.int .i64 0) (fun K9 hK9=>by go_simp;exact hK9) ?_
 (try simp only[pq])
 refine zab (by rw[hO];kernel_rfl) (.bool true) (fun K9 hK9=>by go_simp;exact hK9) ?_
 (try simp only[pq])
 refine zab (by rw[hO];kernel_rfl) (.bool true) (fun K9 hK9=>by go_simp;exact hK9) ?_
 (try simp only[pq])
 refine zab (by rw[hO];kernel_rfl) (.int .i64 0) (fun K9 hK9=>by go_simp;exact hK9) ?_
 (try simp only[pq])
 refine zab (by rw[hO];kernel_rfl) (.bool true) (fun K9 hK9=>by go_simp;exact hK9) ?_
 (try simp only[pq])
 refine zab (by rw[hO];kernel_rfl) (.bool true) (fun K9 hK9=>by go_simp;exact hK9) ?_
 (try simp only[pq])
 refine zab (by rw[hO];kernel_rfl) (.bool true) (fun K9 hK9=>by go_simp;exact hK9) ?_
 (try simp only[pq])
 refine zab (by rw[hO];kernel_rfl) (.bool true) (fun K9 hK9=>by go_simp;exact hK9) ?_
 (try simp only[pq])
 refine zab (by rw[hO];kernel_rfl) (.bool true) (fun K9 hK9=>by go_simp;exact hK9) ?_
 (try simp only[pq])
 refine zab (by rw[hO];kernel_rfl) (.bool true) (fun K9 hK9=>by go_simp;exact hK9) ?_
 (try simp only[pq])
 refine zab (by rw[hO];kernel_rfl) (.slice ga 1 gc) (fun K9 hK9=>by go_simp;exact hK9) ?_
 (try simp only[pq])
 refine zab (by rw[hO];kernel_rfl) (.string ⟨#[98]⟩) (fun K9 hK9=>by have hv1:=uh HCV;go_simp;exact hK9) ?_
 (try simp only[pq])
 refine zab (by rw[hO];kernel_rfl) (.bool true) (fun K9 hK9=>by go_simp;exact hK9) ?_
 (try simp only[pq])
 refine zab (by rw[hO];kernel_rfl) (.bool true) (fun K9 hK9=>by go_simp;exact hK9) ?_
 (try simp only[pq])
 refine zab (by rw[hO];kernel_rfl) (.bool true) (fun K9 hK9=>by go_simp;exact hK9) ?_
 (try simp only[Act.put,pq1,pq2])
 go_wp2
 go_ret
 exact ⟨rfl,tn (uh HS6).gb (uh HG7)⟩
section
variable {u w:World} {F:List Nat} {s d m:Nat} {S:List (List UInt8)} {c g:Nat} {ls:List (List Chg)} {p:Nat} {rs:RSt} (h:StM u w F s d m S c g ls p rs)
include h
theorem zia:Calls Tryz.prog 17 #[.pointer (some ⟨s,0,none⟩)] w fun x w'=>x = .returned (.int .i64 ((rs.half - rs.used:Nat):Int))∧w.grownBy w' none:=by
 obtain ⟨b1,b2,b3,b4,b5,b6,b7⟩:=h.bnd
 have hle:c*rs.half≤1*rs.half:=Nat.mul_le_mul_right _ b3
 refine (zlb w s d _ _ _ _ _ _ _ h.blk (by omega) (by omega)).mono fun x w' q=>⟨?_,q.2⟩
 rw[q.1,show c*rs.half+rs.half - p=rs.half - rs.used by omega]
theorem zgn (hm:rs.moves≤1000000000):Calls Tryz.prog 18 #[.pointer (some ⟨s,0,none⟩)] w fun x w'=>x = .returned (.int .u64 (rs.moves:Int))∧w'=w:=by
 obtain ⟨b1,b2,b3,b4,b5,b6,b7⟩:=h.bnd
 refine (zoq w s d _ _ _ _ _ _ _ h.blk (by omega) (by omega)).mono fun x w' q=>⟨?_,q.2⟩
 rw[q.1,show g - 1=rs.moves by omega]
theorem zib:Calls Tryz.prog 19 #[.pointer (some ⟨s,0,none⟩)] w fun x w'=>x = .returned (.bool false)∧w'=w :=
 (zj6 w s d _ _ _ _ _ _ _ h.blk).mono fun _ _ q=>q
theorem zo1 (k:List UInt8):((getK rs.V k).getD []).length≤65536:=by
 have hk:=h.on.keys
 generalize rs.V=V at hk
 induction V with
 | nil=>simp[getK]
 | cons y V ih =>
   obtain ⟨a,x⟩:=y
   rw[getK]
   split
   ·exact (hk (a,x) (by simp)).2.2
   ·exact ih fun z hz=>hk z (by simp[hz])
theorem zrx (k:List UInt8):Calls Tryz.prog 25 #[.pointer (some ⟨s,0,none⟩),.string (str k)] w fun x w'=>∃ ao c,x = .returned (.tuple #[.slice ao ((getK rs.V k).getD []).length c,.bool (getK rs.V k).isSome])∧Bts w' ao c ((getK rs.V k).getD [])∧w.grownBy w' none :=
 zor w s d _ _ _ _ _ _ _ h.blk _ _ h.vm k (by have:=zo1 h k;omega)
theorem zic (pf:List UInt8) (hl:rs.V.length≤100000):Calls Tryz.prog 20 #[.pointer (some ⟨s,0,none⟩),.string (str pf)] w fun x w'=>∃ ao c,x = .returned (.slice ao (zca rs.V pf).length c)∧Cel w' ao c ((zca rs.V pf).map stv)∧w.grownBy w' none :=
 zqi w s d _ _ _ _ _ _ _ h.blk _ _ h.vm pf (fun y hy=>(h.on.keys y hy).2.1) hl
theorem zj8:∀ x∈m::s::F,u.heap.size≤x∧x<w.heap.size:=fun x hx=>by
 simp only[List.mem_cons] at hx
 rcases hx with rfl | rfl | hx
 ·exact ⟨h.mU,h.vm.lt⟩
 ·exact ⟨h.sU,h.blk.lt⟩
 ·exact h.dw.lo x hx
end
theorem ze8 {w:World} {b m m' s:Nat} {F F' : List Nat} (h:b∉m::s::F) (hb:b<w.heap.size) (hF:∀ y∈F',y∈F∨w.heap.size≤y) (hm:m'=m∨w.heap.size≤m'):b∉m'::s::F':=fun hx=>by
 simp only[List.mem_cons] at hx h
 rcases hx with rfl | rfl | hx
 ·rcases hm with e | e
  ·exact h (Or.inl e)
  ·omega
 ·exact h (Or.inr (Or.inl rfl))
 ·rcases hF _ hx with e | e
  ·exact h (Or.inr (Or.inr e))
  ·omega
structure AgI (rs:RSt) (h k:Nat):Prop where
 half:rs.half=h
 V:rs.V.length≤800*k
 moves:rs.moves≤k
theorem AgI.begin (h:Nat):AgI ⟨[],h,2,0⟩ h 0:=⟨rfl,by simp,by simp⟩
theorem AgI.step {rs:RSt} {h k:Nat} (a:AgI rs h k) {l:List Chg} (hl:l.length≤800):AgI (cmS rs l).1 h (k+1):=by
 obtain ⟨h1,h2,h3⟩:=zru rs l
 have h4:=a.V
 have h5:=a.moves
 exact ⟨by rw[h3];exact a.half,by omega,by omega⟩
theorem AgI.more {rs:RSt} {h k:Nat} (a:AgI rs h k):AgI rs h (k+1):=⟨a.half,by have:=a.V;omega,by have:=a.moves;omega⟩
theorem zjo (V:List (List UInt8 × List UInt8)):zca V []=zao V:=by
 unfold zca
 refine List.filter_eq_self.2 fun k _ => ?_
 cases k <;> rfl
set_option maxHeartbeats 8000000 in
theorem zgo {u w:World} {F:List Nat} {s d m:Nat} {S:List (List UInt8)} {c g:Nat} {ls:List (List Chg)} {p:Nat} {rs:RSt} (h:StM u w F s d m S c g ls p rs) (hl:rs.V.length≤100000) (ko:Option Addr) (kc:Nat) (vo:Option Addr) (vc:Nat) (hr:RsW w ko kc vo vc rs) :
  Calls Tryz.prog 16 #[.pointer (some ⟨s,0,none⟩),.agg (rsC ko kc vo vc rs).toArray] w fun e w'=>e = .returned (.int .i64 1)∧w.grownBy w' none:=by
 obtain ⟨nk,hnk⟩:∃ n,n=rs.V.length:=⟨_,rfl⟩
 obtain ⟨CS0,hCS0⟩:∃ C,C=rsC ko kc vo vc rs:=⟨_,rfl⟩
 rw[← hCS0]
 obtain ⟨W1,hW1,hB1,g1⟩:=zah w 32 CS0
 have h1:=h.nn g1
 have hr1:=hr.kept g1
 have ck:=zic h1 [] hl
 have hkl:(zca rs.V []).length=nk:=by rw[zjo];unfold zao;rw[List.length_map];exact hnk.symm
 rw[hkl,zjo,show str []=⟨#[]⟩ from rfl] at ck
 have c0:=hB1.cell 0
 have c1:=hB1.cell 1
 rw[hCS0] at c0 c1
 unfold rsC at c0 c1
 simp only[List.getElem?_cons_zero,List.getElem?_cons_succ] at c0 c1
 rw[← hnk] at c0 c1
 have hris:RisK rs.V:=h.on.ris
 have hn1:nk≤100000:=by omega
 obtain ⟨HW1,HS1,HR1,HC0,HC1,HG1⟩:=zh6 hW1 h1 hr1 c0 c1 g1
 obtain ⟨HNK,HRIS⟩:=zh2 hnk hris
 clear hW1 hB1 g1 h h1 hr hr1 c0 c1 hnk hris hkl hl hCS0
 go_enter Tryz.func16,Tryz.ntmps16
 go_wp2_with (first
  | (rw[← uh HW1])
  | (go_at_call 20;fail))
 refine ck.mono ?_
 rintro e w2 ⟨ao,c2,rfl,hcel,g2⟩
 have c0r:=g2.cell (uh HC0) (by simp)
 obtain ⟨HCEL,HG2⟩:=zh2 hcel g2
 clear ck hcel g2
 go_wp2
 go_loopw [6] (fun i wr=>∃ (j:Nat),i = .int .i64 j∧j≤nk∧Hid (w2.grownBy wr none)) (fun i _=>nk - (intOf i).toNat)
 case atStart=>exact ⟨0,rfl,Nat.zero_le _,hide (zac _ _)⟩
 case round =>
  clear c0r
  obtain ⟨j,rfl,hj,HJ⟩:=hrel
  by_cases hjn:j<nk
  ·have hji:(j:Int)<(nk:Int):=by omega
   have hjw:IntKind.i64.wrap ((j:Int)+1)=(j:Int)+1:=by rw[IntKind.wrap_i64];omega
   have hjl:j<rs.V.length:=by rw[← uh HNK];exact hjn
   obtain ⟨kj,hkj⟩:∃ k,k=rs.V[j].1:=⟨_,rfl⟩
   obtain ⟨va,hva⟩:∃ k,k=rs.V[j].2:=⟨_,rfl⟩
   obtain ⟨TK,hTK⟩:∃ T,T=str kj:=⟨_,rfl⟩
   obtain ⟨b1,o1,hao,hc1⟩:=(uh HCEL).at j (by unfold zao;rw[List.length_map,List.length_map];exact hjl)
   have hst:((zao rs.V).map stv)[j]'(by unfold zao;rw[List.length_map,List.length_map];exact hjl) = .string TK:=by unfold zao;rw[List.getElem_map,List.getElem_map,hTK,hkj];rfl
   rw[hst] at hc1
   obtain ⟨kb,kz,hko,hk⟩:=(uh HR1).keys.at j (by unfold kyC;rw[List.length_map];exact hjl)
   obtain ⟨vb,vz,hvo,hv⟩:=(uh HR1).vals.at j (by unfold vlC;rw[List.length_map];exact hjl)
   have hk2:W1.cell? ⟨kb,kz+j,none⟩=some (.string TK):=by rw[hk];unfold kyC;rw[List.getElem_map,hTK,hkj]
   have hv2:W1.cell? ⟨vb,vz+j,none⟩=some (.string (str va)):=by rw[hv];unfold vlC;rw[List.getElem_map,hva]
   have hget:getK rs.V kj=some va:=by rw[hkj,hva];exact zj4 (uh HRIS) j hjl
   obtain ⟨nv,hnv⟩:∃ n,n=va.length:=⟨_,rfl⟩
   have g1r:=tn (uh HG2) (uh HJ)
   have cg:=zrx ((uh HS1).nn g1r) kj
   rw[hget] at cg
   simp only[Option.getD_some,Option.isSome_some] at cg
   rw[← hnv,← hTK] at cg
   have c1r:=(uh HJ).cell hc1 (by simp)
   obtain ⟨HNV,HC1s,HK2,HV2,HG1r⟩:=zh5 hnv hc1 hk2 hv2 g1r
   clear hst hkj hva hTK hget hnv g1r hk hv hk2 hv2 hc1 hjl
   subst hao hko hvo
   go_wp2_with (go_at_call 25;fail)
   refine cg.mono ?_
   rintro e w3 ⟨ga,gc,rfl,hb3,g3⟩
   have HBA:=hide hb3
   have HG3:=hide (tn (uh HG1r) g3)
   have HC1s:=hide ((tn (uh HJ) g3).cell (uh HC1s) (by simp))
   have HK2:=hide ((uh HG3).cell (uh HK2) (by simp))
   have HV2:=hide ((uh HG3).cell (uh HV2) (by simp))
   have HC03:=hide ((uh HG3).cell (uh HC0) (by simp))
   have HC13:=hide ((uh HG3).cell (uh HC1) (by simp))
   have HJ3:=hide (tn (uh HJ) g3)
   clear cg hb3 g3 c1r
   go_upto_region 8 with fail
   refine wp_region_noPanic ?_
   refine wp_region_held_drew (S:=fun V=>w3.grownBy V none) (by kernel_rfl) (zaa (zac w3 none)) (fun _ => ?_)
   refine tq 0 32 (.move (.tmp 5)) ((.slice (some ⟨b1,o1,none⟩) nk c2)) (zaa (zac w3 none)) ?_
   refine tq 1 33 (.move (.tmp 6)) ((.int .i64 (j:Int))) (zaa (zac w3 none)) ?_
   refine tq 2 34 (.indexAddr 30 (.tmp 32) (.tmp 33)) ((.pointer (some ⟨b1,o1+j,none⟩))) (zaa (zac w3 none)) ?_
   refine tz 3 35 (.load 9 (.tmp 34)) ((.string TK)) (zaa (zac w3 none)) ?_ (y:=(Or.inl ⟨by rfl,fun V hV=>by (have hv1:=hV.cell (uh HC1s) (by simp);go_simp)⟩))
   (try simp only[pq])
   refine tq 4 36 (.fieldAddr 32 (.tmp 3) 0) ((.pointer (some ⟨w.heap.size,0,none⟩))) (zaa (zac w3 none)) ?_
   refine tz 5 37 (.load 30 (.tmp 36)) ((.slice (some ⟨kb,kz,none⟩) nk kc)) (zaa (zac w3 none)) ?_ (y:=(Or.inl ⟨by rfl,fun V hV=>by (have hv1:=hV.cell (uh HC03) (by simp);go_simp)⟩))
   refine tq 6 38 (.move (.tmp 6)) ((.int .i64 (j:Int))) (zaa (zac w3 none)) ?_
   refine tq 7 39 (.indexAddr 30 (.tmp 37) (.tmp 38)) ((.pointer (some ⟨kb,kz+j,none⟩))) (zaa (zac w3 none)) ?_
   (try simp only[pq])
   refine tz 8 40 (.load 9 (.tmp 39)) ((.string TK)) (zaa (zac w3 none)) ?_ (y:=(Or.inl ⟨by rfl,fun V hV=>by (have hv1:=hV.cell (uh HK2) (by simp);go_simp)⟩))
   refine tq 9 41 (.binOp .neq 9 (.tmp 35) (.tmp 40) 9) ((.bool false)) (zaa (zac w3 none)) ?_
   refine tq 10 42 (.move (.tmp 41)) ((.bool false)) (zaa (zac w3 none)) ?_
   refine tq 11 43 (.move (.tmp 8)) ((.bool true)) (zaa (zac w3 none)) ?_
   (try simp only[pq])
   refine tq 12 44 (.unOp .not 4 (.tmp 43)) ((.bool false)) (zaa (zac w3 none)) ?_
   refine tq 13 45 (.pick (.tmp 42) (.const (.bool true)) (.tmp 44)) ((.bool false)) (zaa (zac w3 none)) ?_
   refine tq 14 46 (.move (.tmp 45)) ((.bool false)) (zaa (zac w3 none)) ?_
   refine tq 15 47 (.move (.tmp 7)) ((.slice ga nv gc)) (zaa (zac w3 none)) ?_
   (try simp only[pq])
   refine tz 16 48 (.convert 53 9 (.tmp 47)) ((.string (str va))) (zaa (zac w3 none)) ?_ (y:=(Or.inl ⟨by rfl,fun V hV=>by (have hv1:=zp9 ((uh HBA).kept hV (fun _ e=>by cases e)) (uh HNV);go_simp)⟩))
   refine tq 17 49 (.fieldAddr 32 (.tmp 3) 1) ((.pointer (some ⟨w.heap.size,1,none⟩))) (zaa (zac w3 none)) ?_
   refine tz 18 50 (.load 30 (.tmp 49)) ((.slice (some ⟨vb,vz,none⟩) nk vc)) (zaa (zac w3 none)) ?_ (y:=(Or.inl ⟨by rfl,fun V hV=>by (have hv1:=hV.cell (uh HC13) (by simp);go_simp)⟩))
   refine tq 19 51 (.move (.tmp 6)) ((.int .i64 (j:Int))) (zaa (zac w3 none)) ?_
   (try simp only[pq])
   refine tq 20 52 (.indexAddr 30 (.tmp 50) (.tmp 51)) ((.pointer (some ⟨vb,vz+j,none⟩))) (zaa (zac w3 none)) ?_
   refine tz 21 53 (.load 9 (.tmp 52)) ((.string (str va))) (zaa (zac w3 none)) ?_ (y:=(Or.inl ⟨by rfl,fun V hV=>by (have hv1:=hV.cell (uh HV2) (by simp);go_simp)⟩))
   refine tq 22 54 (.binOp .neq 9 (.tmp 48) (.tmp 53) 9) ((.bool false)) (zaa (zac w3 none)) ?_
   refine tq 23 55 (.pick (.tmp 46) (.const (.bool true)) (.tmp 54)) ((.bool false)) (zaa (zac w3 none)) ?_
   (try simp only[pq])
   refine wpAnyH_done (by kernel_rfl) ?_ _
   refine NoPanic.normal ?_
   go_wp2
   go_roundw
   case rel=>exact ⟨j+1,by go_num,by omega,hide (zaa (uh HJ3))⟩
   case measure=>simp[intOf];omega
  ·have hji:¬ (j:Int)<(nk:Int):=by omega
   have HF:=hide (tn (uh HG1) (tn (uh HG2) (uh HJ)))
   go_wp2
   go_ret
   exact ⟨rfl,uh HF⟩
theorem VmW.off {w a:World} {m:Nat} {G:List Nat} {V:List (List UInt8 × List UInt8)} {b:Nat} {t:TypeId} {cs:List Value} (h:VmW w m G V) (hb:Blk w b t cs) (hc:∀ v∈cs,∀ z,v ≠ .int .u8 z) (g:w.grownBy a (some b)):VmW a m G V:=by
 obtain ⟨h0,K,h1,h2,h3⟩:=h
 refine ⟨h0,K,h1.kept g (fun e=>h1.blk hb (by cases e;rfl)),fun p hp => ?_,h3⟩
 obtain ⟨ao,c,x,e,hx,hv,hg⟩:=h2 p hp
 refine ⟨ao,c,x,e,⟨hx.zip,hx.fits,hx.most,hx.shape,fun ad e2 i hi=>g.cell (hx.cell ad e2 i hi) (fun e3 => ?_)⟩,hv,hg⟩
 injection e3 with e3
 simp only at e3
 have h8:=hx.cell ad e2 i hi
 have h9:=hb.cell (ad.off+i)
 rw[show (⟨ad.block,ad.off+i,none⟩:Addr)=⟨b,ad.off+i,none⟩ by rw[e3]] at h8
 rw[h8] at h9
 exact hc _ (List.mem_of_getElem? h9.symm) _ rfl
theorem StM.off {u w a:World} {F:List Nat} {s d m:Nat} {S:List (List UInt8)} {c g:Nat} {ls:List (List Chg)} {p:Nat} {rs:RSt} (h:StM u w F s d m S c g ls p rs) {b:Nat} {t:TypeId} {cs:List Value} (hb:Blk w b t cs) (hc:∀ v∈cs,∀ z,v ≠ .int .u8 z) (hF:b∉m::s::F) (hu:u.heap.size≤b) (g9:w.grownBy a (some b)):StM u a F s d m S c g ls p rs:=by
 simp only[List.mem_cons,not_or] at hF
 obtain ⟨hm,hs,hF⟩:=hF
 exact ⟨h.dw.fr (Fr.of (F:=[b]) g9 (fun x e=>by cases e;exact Or.inl (by simp))) (fun x hx=>by rw[List.mem_singleton.1 hx];exact hu) (fun x hx e=>hF (by rw[← List.mem_singleton.1 e];exact hx)),h.blk.kept g9 (fun e=>hs (by cases e;rfl)),h.vm.off hb hc g9,h.on,h.sF,h.sU,h.mF,h.mU,h.hn⟩
theorem zqk (ko:Option Addr) (kc:Nat) (vo:Option Addr) (vc:Nat) (s:RSt):∀ v∈rsC ko kc vo vc s,∀ z,v ≠ .int .u8 z:=by
 intro v hv z e
 simp only[rsC,List.mem_cons,List.not_mem_nil,or_false] at hv
 rcases hv with rfl | rfl | rfl | rfl | rfl <;> cases e
theorem Cel.fr {w a:World} {ao:Option Addr} {c:Nat} {L:List Value} {F:List Nat} (h:Cel w ao c L) (g:Fr w a F) (hF:∀ ad,ao=some ad→ad.block∉F):Cel a ao c L :=
 ⟨⟨h.1.zip,h.1.fits,h.1.most,h.1.spot,fun ad e i hi j v hv=>g.cell (h.1.row ad e i hi j v hv) (hF ad e)⟩,h.2⟩
theorem zj9 {w a:World} {ko:Option Addr} {kc:Nat} {vo:Option Addr} {vc:Nat} {s:RSt} {b:Nat} {t:TypeId} {cs:List Value} (h:RsW w ko kc vo vc s) (hb:Blk w b t cs) (hc:∀ v∈cs,∀ z,v ≠ .string z) (g:w.grownBy a (some b)):RsW a ko kc vo vc s:=by
 have hk:=h.keys
 have hv:=h.vals
 rw[zcg] at hk
 rw[zcv] at hv
 exact ⟨by rw[zcg];exact hk.off hb hc g,by rw[zcv];exact hv.off hb hc g⟩
structure PlS (u w:World) (B:Nat) (F:List Nat) (s d m:Nat) (S:List (List UInt8)) (c g:Nat) (ls:List (List Chg)) (p:Nat) (rs:RSt) (ko:Option Addr) (kc:Nat) (vo:Option Addr) (vc:Nat) (hf k:Nat):Prop where
 st:StM u w F s d m S c g ls p rs
 ag:AgI rs hf k
 rw:RsW w ko kc vo vc rs
 bx:Blk w B 32 (rsC ko kc vo vc rs)
 bU:u.heap.size≤B
 bF:B∉m::s::F
 kF:∀ ad,ko=some ad→ad.block<w.heap.size∧ad.block∉m::s::F
 vF:∀ ad,vo=some ad→ad.block<w.heap.size∧ad.block∉m::s::F
section
variable {u w w' : World} {B:Nat} {F:List Nat} {s d m:Nat} {S:List (List UInt8)} {c g:Nat} {ls:List (List Chg)} {p:Nat} {rs:RSt} {ko:Option Addr} {kc:Nat} {vo:Option Addr} {vc:Nat} {hf k:Nat}
theorem PlS.nn (h:PlS u w B F s d m S c g ls p rs ko kc vo vc hf k) (g9:w.grownBy w' none):PlS u w' B F s d m S c g ls p rs ko kc vo vc hf k :=
 ⟨h.st.nn g9,h.ag,h.rw.kept g9,h.bx.kept g9 (by simp),h.bU,h.bF,fun ad e=>⟨Nat.lt_of_lt_of_le (h.kF ad e).1 g9.size,(h.kF ad e).2⟩,fun ad e=>⟨Nat.lt_of_lt_of_le (h.vF ad e).1 g9.size,(h.vF ad e).2⟩⟩
theorem PlS.step (h:PlS u w B F s d m S c g ls p rs ko kc vo vc hf k):PlS u w B F s d m S c g ls p rs ko kc vo vc hf (k+1):=⟨h.st,h.ag.more,h.rw,h.bx,h.bU,h.bF,h.kF,h.vF⟩
theorem PlS.again (h:PlS u w B F s d m S c g ls p rs ko kc vo vc hf k) (g9:w.grownBy w' none) {s' m' : Nat} (h2:StM u w' F s' d m' S c g ls p rs) (hs:w.heap.size≤s') (hm:w.heap.size≤m'):PlS u w' B F s' d m' S c g ls p rs ko kc vo vc hf k:=by
 have key:∀ x,x<w.heap.size→x∉m::s::F→x∉m'::s'::F:=fun x hx hn hy=>by
  simp only[List.mem_cons,not_or] at hy hn
  rcases hy with rfl | rfl | hy
  ·omega
  ·omega
  ·exact hn.2.2 hy
 exact ⟨h2,h.ag,h.rw.kept g9,h.bx.kept g9 (by simp),h.bU,key B h.bx.lt h.bF,fun ad e=>⟨Nat.lt_of_lt_of_le (h.kF ad e).1 g9.size,key _ (h.kF ad e).1 (h.kF ad e).2⟩,fun ad e=>⟨Nat.lt_of_lt_of_le (h.vF ad e).1 g9.size,key _ (h.vF ad e).1 (h.vF ad e).2⟩⟩
theorem PlS.made (h:PlS u w B F s d m S c g ls p rs ko kc vo vc hf k) {w5:World} {F' : List Nat} {m' : Nat} {S' : List (List UInt8)} {c' g' : Nat} {ls' : List (List Chg)} {p' : Nat} {l:List Chg} (hl:l.length≤800)
  {w1:World} (g1:w.grownBy w1 none) {ko' : Option Addr} {kc' : Nat} {vo' : Option Addr} {vc' : Nat} (hr:RsW w1 ko' kc' vo' vc' (cmS rs l).1) (hk:Fre w w1 ko ko') (hv:Fre w w1 vo vo') {q:Nat} (hq:Blk w1 q 32 (rsC ko' kc' vo' vc' (cmS rs l).1)) (hqn:w.heap.size≤q)
  (hs:StM u w5 F' s d m' S' c' g' ls' p' (cmS rs l).1) (hF:∀ y∈F',y∈F∨w1.heap.size≤y) (hm:m'=m∨w1.heap.size≤m') (hfr:Fr w1 w5 (m::s::F)) :
  Blk w5 q 32 (rsC ko' kc' vo' vc' (cmS rs l).1)∧Blk w5 B 32 (rsC ko kc vo vc rs)∧PlS u (w5.setRow B (rsC ko' kc' vo' vc' (cmS rs l).1).toArray) B F' s d m' S' c' g' ls' p' (cmS rs l).1 ko' kc' vo' vc' hf (k+1):=by
 have low:=zj8 h.st
 have hsz:=g1.size
 have hqF:q∉m::s::F:=fun hx=>by have:=(low q hx).2;omega
 have hbB:=h.bx.lt
 have hB5:Blk w5 B 32 (rsC ko kc vo vc rs):=hfr.blk (h.bx.kept g1 (by simp)) h.bF
 have newk:∀ a a',(∀ ad,a=some ad→ad.block<w.heap.size∧ad.block∉m::s::F)→Fre w w1 a a'→∀ ad,a'=some ad→ad.block<w1.heap.size∧ad.block∉m::s::F:=fun a a' ha hfe ad e=>by
  rcases hfe ad e with h1 | h1
  ·exact ⟨Nat.lt_of_lt_of_le (ha ad h1).1 hsz,(ha ad h1).2⟩
  ·exact ⟨h1.2,fun hx=>by have:=(low _ hx).2;omega⟩
 have k1:=newk ko ko' h.kF hk
 have v1:=newk vo vo' h.vF hv
 have hk5:Cel w5 ko' kc' (kyC (cmS rs l).1.V):=hr.keys.fr hfr (fun ad e=>(k1 ad e).2)
 have hv5:Cel w5 vo' vc' (vlC (cmS rs l).1.V):=hr.vals.fr hfr (fun ad e=>(v1 ad e).2)
 rw[zcg] at hk5
 rw[zcv] at hv5
 have gs:w5.grownBy (w5.setRow B (rsC ko' kc' vo' vc' (cmS rs l).1).toArray) (some B):=zaj (zac _ _) _ (Or.inr rfl)
 have hB9:B∉m'::s::F':=ze8 h.bF (by omega:B<w1.heap.size) hF hm
 refine ⟨hfr.blk hq hqF,hB5,hs.off hB5 (zqk _ _ _ _ _) hB9 h.bU gs,h.ag.step hl,⟨?_,?_⟩,hB5.row _,h.bU,hB9,fun ad e=>⟨?_,ze8 (k1 ad e).2 (k1 ad e).1 hF hm⟩,fun ad e=>⟨?_,ze8 (v1 ad e).2 (v1 ad e).1 hF hm⟩⟩
 ·rw[zcg];exact hk5.off hB5 (zd5 _ _ _ _ _) gs
 ·rw[zcv];exact hv5.off hB5 (zd5 _ _ _ _ _) gs
 ·exact Nat.lt_of_lt_of_le (Nat.lt_of_lt_of_le (k1 ad e).1 hfr.size) gs.size
 ·exact Nat.lt_of_lt_of_le (Nat.lt_of_lt_of_le (v1 ad e).1 hfr.size) gs.size
end
theorem zo2 {α:Type} (p:α→Bool) (l:List α) (j:Nat) (hj:j<l.length) (hp:p l[j]=true):∃ h:((l.take j).filter p).length<(l.filter p).length,(l.filter p)[((l.take j).filter p).length]'h=l[j]:=by
 have e:l.filter p=(l.take j).filter p++l[j]::(l.drop (j+1)).filter p:=by
  conv=>lhs;rw[← List.take_append_drop j l,List.drop_eq_getElem_cons hj,List.filter_append,List.filter_cons]
  rw[if_pos hp]
 have h1:((l.take j).filter p).length<(l.filter p).length:=by rw[e,List.length_append,List.length_cons];omega
 refine ⟨h1,?_⟩
 have:(l.filter p)[((l.take j).filter p).length]? = some l[j]:=by rw[e];simp
 rw[List.getElem?_eq_getElem h1] at this
 exact Option.some.inj this
theorem zlg {α:Type} (p:α→Bool) (l:List α) (j:Nat) (hj:j<l.length) (hp:p l[j]=true):((l.take (j+1)).filter p).length=((l.take j).filter p).length+1:=by
 rw[List.take_succ_eq_append_getElem hj,List.filter_append,List.length_append,List.filter_cons,if_pos hp]
 rfl
theorem zid {α:Type} (p:α→Bool) (l:List α) (j:Nat) (hj:j<l.length) (hp:p l[j]=false):((l.take (j+1)).filter p).length=((l.take j).filter p).length:=by
 rw[List.take_succ_eq_append_getElem hj,List.filter_append,List.length_append,List.filter_cons,if_neg (by simp[hp])]
 rfl
theorem zo3 (k pf:List UInt8):Lib.hasPrefix k pf=(decide (pf.length≤k.length) && decide (k.take pf.length=pf)):=by
 unfold Lib.hasPrefix
 rw[Bool.eq_iff_iff,List.isPrefixOf_iff_prefix,List.prefix_iff_eq_take]
 constructor
 ·intro h
  have h2:pf.length≤k.length:=by rw[h];exact List.length_take_le' _ _
  simp[h2,h.symm]
 ·intro h
  simp at h
  exact h.2.symm
end Go.Proofs.YtoilcpdhhlcidaaGreatDoor
