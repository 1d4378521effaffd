/- Lemmas. -/
import Derived.Test.YtegbbkgmiklhcaaGreatDoorRTree
namespace Go.Proofs.YtegbbkgmiklhcaaGreatDoor
open Go.RowKit
def rcC (c:ChgL) (po:Option Addr) (pc:Nat):List Value:=[.string (str c.tree),.slice po c.pars.length pc,.int .u64 (c.time:Int),.string (str c.author),.string (str c.text)]
theorem znm (ps:List (List UInt8)) (j:Nat) (hj:j<ps.length):zf5 ps j = !((ps.take j).contains ps[j]):=by
 unfold zf5
 rw[show ps.getD j []=ps[j] by simp[hj]]
theorem zeo (ps:List (List UInt8)) (x:List UInt8) (j:Nat) (hj:j<ps.length):(ps.take (j+1)).contains x=((ps.take j).contains x || (x == ps[j])):=by
 rw[List.take_succ_eq_append_getElem hj,Bool.eq_iff_iff]
 simp only[List.contains_iff_mem,List.mem_append,List.mem_singleton,Bool.or_eq_true,beq_iff_eq]
theorem zhk {ps:List (List UInt8)} {x:List UInt8} {a b:Nat} (h:(ps.take a).contains x=true) (hab:a≤b):(ps.take b).contains x=true:=by
 simp only[List.contains_iff_mem] at h ⊢
 have:ps.take a=(ps.take b).take a:=by rw[List.take_take,Nat.min_eq_left hab]
 rw[this] at h
 exact List.mem_of_mem_take h
theorem zrz (ps:List (List UInt8)) (M:Nat) (hid:∀ x∈ps,x.length≤M):∀ j,j≤ps.length→((ps.take j).flatten).length≤j*M:=by
 intro j
 induction j with
 | zero=>intro _;simp
 | succ j ih =>
  intro hj
  have h1:=ih (by omega)
  have h2:=hid _ (List.getElem_mem (l:=ps) (n:=j) (by omega))
  rw[List.take_succ_eq_append_getElem (by omega),List.flatten_append,List.length_append,Nat.succ_mul,show ([ps[j]]:List (List UInt8)).flatten=ps[j] by simp]
  omega
set_option maxRecDepth 100000 in
set_option maxHeartbeats 8000000 in
theorem znn (w:World) (c:ChgL) (po:Option Addr) (pc base:Nat) (hP:Stl w base po pc c.pars) (ht:c.tree.length≤100000) (hid:∀ x∈c.pars,x.length≤100000) (hm:c.pars.length≤1000000) (htm:c.time<18446744073709551616) (ha:c.author.length≤1000000) (hx:c.text.length≤1000000) :
  Calls Tryz.prog 72 #[.agg (rcC c po pc).toArray] w fun e w'=>zjp w w' 3 (zce c) e:=by
 obtain ⟨tree,ps,time,author,text⟩:=c
 simp only at hP ht hid hm htm ha hx
 show Calls Tryz.prog 72 #[.agg #[.string (str tree),.slice po ps.length pc,.int .u64 (time:Int),.string (str author),.string (str text)]] w _
 obtain ⟨n,hln⟩:∃ n,n=ps.length:=⟨_,rfl⟩
 rw[← hln]
 obtain ⟨TT,hTT⟩:∃ T,T=str tree:=⟨_,rfl⟩
 obtain ⟨TA,hTA⟩:∃ T,T=str author:=⟨_,rfl⟩
 obtain ⟨TX,hTX⟩:∃ T,T=str text:=⟨_,rfl⟩
 obtain ⟨C,hC⟩:∃ C:List Value,C=[.string TT,.slice po n pc,.int .u64 (time:Int),.string TA,.string TX]:=⟨_,rfl⟩
 obtain ⟨W0,hW0,hB0,g0⟩:∃ W1,W1=w.alloc (.cells #[.string TT,.slice po n pc,.int .u64 (time:Int),.string TA,.string TX] 100)∧Blk W1 w.heap.size 100 C∧w.grownBy W1 none:=by rw[hC];exact zag w _ _
 obtain ⟨S0,hS0⟩:∃ S,S=str []:=⟨_,rfl⟩
 have hzv:=zfd
 rw[← hS0] at hzv
 obtain ⟨W1,hW1,hB1,g1⟩:∃ W1,W1=W0.alloc (.cells #[.int .i64 0,.string S0] 44)∧Blk W1 W0.heap.size 44 [.int .i64 0,.string S0]∧W0.grownBy W1 none:=zag W0 _ _
 have hs0:W0.heap.size=w.heap.size+1:=by rw[hW0];simp
 rw[hs0] at hB1
 have hBo:=hB0.kept g1 (by simp)
 have G1:=tn g0 g1
 have hW:W1=(w.alloc (.cells #[.string TT,.slice po n pc,.int .u64 (time:Int),.string TA,.string TX] 100)).alloc (.cells #[.int .i64 0,.string S0] 44):=by rw[hW1,hW0]
 have cell5:∀ V:World,Blk V w.heap.size 100 C→V.cell? ⟨w.heap.size,0,none⟩=some (.string TT)∧V.cell? ⟨w.heap.size,1,none⟩=some (.slice po n pc)∧V.cell? ⟨w.heap.size,2,none⟩=some (.int .u64 (time:Int))∧V.cell? ⟨w.heap.size,3,none⟩=some (.string TA)∧V.cell? ⟨w.heap.size,4,none⟩=some (.string TX):=fun V h=>by
  refine ⟨?_,?_,?_,?_,?_⟩ <;> rw[h.cell,hC] <;> rfl
 obtain ⟨c0,c1,c2,c3,c4⟩:=cell5 _ hBo
 obtain ⟨HW,HB1,HBO,HG1,HS0,HC5⟩:=zh6 hW hB1 hBo G1 hS0 cell5
 rw[← hTT,← hTA,← hTX]
 have hza:=zaj author
 have hzx:=zaj text
 rw[← hTA] at hza
 rw[← hTX] at hzx
 obtain ⟨na,hna⟩:∃ n,n=author.length:=⟨_,rfl⟩
 obtain ⟨nx,hnx⟩:∃ n,n=text.length:=⟨_,rfl⟩
 rw[← hna] at hza
 rw[← hnx] at hzx
 obtain ⟨R,hR⟩:∃ R,R=zce ⟨tree,ps,time,author,text⟩:=⟨_,rfl⟩
 have hof:R=(if 4<ps.length then (3,[]) else if zdp ps ps.length=true then fitB (chgB ⟨tree,ps,time,author,text⟩) else (2,[])):=hR
 rw[← hR]
 obtain ⟨HOF,HTT,HTA,HTX⟩:=zh4 hof hTT hTA hTX
 clear hW hW0 hW1 hB0 hB1 g0 g1 hs0 G1 hS0 hBo hof hR hC cell5 hTT hTA hTX
 by_cases hn:4<ps.length
 ·have hn2:(4:Int)<(n:Int):=by omega
  have hres:R=(3,[]):=by rw[uh HOF,if_pos hn]
  have HRS:=hide hres
  have hBr:=uh HB1
  have hf0:=hBr.fz 0
  have hf1:=hBr.fz 1
  have hd0:=hBr.cell 0
  have hd1:=hBr.cell 1
  simp only[List.getElem?_cons_zero,List.getElem?_cons_succ] at hd0 hd1
  clear hln hn hres hP ht hid hm htm ha hx hza hzx hna hnx
  go_enter Tryz.func72,Tryz.ntmps72
  go_wp2_with (rw[← uh HW])
  refine bodyPost_ret (zaf rfl _ _ _ _ _ _ _ rfl ((hBr.set 0 (.int .i64 0)).set 1 _) Tryz.underlying44 rfl zb3) rfl ?_
  refine ⟨by rw[uh HRS,uh HS0];rfl,zab (zab (uh HG1) _ _ (Or.inl (Nat.le_succ _))) _ _ (Or.inl (Nat.le_succ _))⟩
 ·have hn2:¬ (4:Int)<(n:Int):=by omega
  have hn3:n≤4:=by omega
  have hcv:IntKind.u64.wrap (n:Int)=(n:Int):=by rw[IntKind.wrap_u64];omega
  have hsum:=zrz ps 100000 hid
  have cp:∀ V,Calls Tryz.prog 27 #[.string TT,.int .u64 (n:Int),.int .i64 1] V fun e w'=>e = .returned (.string (str (tree++lb n 1)))∧V.grownBy w' none:=fun V=>by
   have h1:=zdz V tree n 1 (by omega) (by omega)
   rw[show nb 1=1 from by decide,← uh HTT] at h1
   exact h1
  obtain ⟨P,hPd⟩:∃ P:Nat→List UInt8,∀ j,P j=(tree++lb n 1)++(ps.take j).flatten:=⟨_,fun _=>rfl⟩
  have hP0:P 0=tree++lb n 1:=by rw[hPd];simp
  rw[← hP0] at cp
  have hPS:∀ j (hj:j<ps.length),P (j+1)=P j++ps[j]:=by
   intro j hj
   rw[hPd,hPd,List.take_succ_eq_append_getElem hj,List.flatten_append]
   simp
  have hPl:∀ j,j≤ps.length→(P j).length≤600000:=by
   intro j hj
   have h1:=hsum j hj
   rw[hPd,List.length_append,List.length_append,zbc]
   have:j*100000≤4*100000:=Nat.mul_le_mul (by omega) (Nat.le_refl _)
   omega
  have hPn:chgB ⟨tree,ps,time,author,text⟩=((P n++lb time 8)++layS author)++layS text:=by
   rw[hPd,hln,List.take_of_length_le (Nat.le_refl _)]
   simp[chgB]
  obtain ⟨Q0,hQ0⟩:∃ Q,Q=P n++lb time 8:=⟨_,rfl⟩
  obtain ⟨Q1,hQ1⟩:∃ Q,Q=Q0++layS author:=⟨_,rfl⟩
  obtain ⟨Q2,hQ2⟩:∃ Q,Q=Q1++layS text:=⟨_,rfl⟩
  rw[← hQ0,← hQ1,← hQ2] at hPn
  have hpn:=hPl n (by omega)
  have hq0:Q0.length≤700000:=by rw[hQ0,List.length_append,zbc];omega
  have hq1:Q1.length≤2000000:=by rw[hQ1,List.length_append,zbg];omega
  have hq2:Q2.length≤4000000:=by rw[hQ2,List.length_append,zbg];omega
  have cs0:∀ V,Calls Tryz.prog 27 #[.string (str (P n)),.int .u64 (time:Int),.int .i64 8] V fun e w'=>e = .returned (.string (str Q0))∧V.grownBy w' none:=fun V=>by
   have h1:=zdz V (P n) time 8 htm (by omega)
   rw[show nb 8=8 from by decide,← hQ0] at h1
   exact h1
  have cs1:∀ V,Calls Tryz.prog 52 #[.string (str Q0),.string TA] V fun e w'=>e = .returned (.string (str Q1))∧V.grownBy w' none:=fun V=>by rw[hQ1,uh HTA];exact zc8 V Q0 author (by omega)
  have cs2:∀ V,Calls Tryz.prog 52 #[.string (str Q1),.string TX] V fun e w'=>e = .returned (.string (str Q2))∧V.grownBy w' none:=fun V=>by rw[hQ2,uh HTX];exact zc8 V Q1 text (by omega)
  have cf:∀ V,Calls Tryz.prog 105 #[.int .i64 3,.string (str Q2)] V fun e w'=>zjp V w' 3 (fitB Q2) e:=fun V=>ziv V 3 Q2 (by omega)
  have hbig:fitB Q2=(3,[])∨(na≤16384∧nx≤16384):=by
   by_cases h:na≤16384∧nx≤16384
   ·exact Or.inr h
   ·left
    have:16384<Q2.length:=by rw[hQ2,List.length_append,zbg,hQ1,List.length_append,zbg];omega
    simp[fitB,this]
  obtain ⟨T0,hT0⟩:∃ T,T=str Q0:=⟨_,rfl⟩
  obtain ⟨T1,hT1⟩:∃ T,T=str Q1:=⟨_,rfl⟩
  obtain ⟨T2,hT2⟩:∃ T,T=str Q2:=⟨_,rfl⟩
  rw[← hT0] at cs0 cs1
  rw[← hT1] at cs1 cs2
  rw[← hT2] at cs2 cf
  obtain ⟨HBIG,HPN,HPS,HPL⟩:=zh4 hbig hPn hPS hPl
  have HN:Hid (¬ 4<ps.length):=hn
  obtain ⟨HL,HP,HCS0,HCS1,HCS2,HCF⟩:=zh6 hln hP cs0 cs1 cs2 cf
  have cpw:=cp W1
  clear hln hn hP ht hid hm htm ha hx hna hnx hsum cp hPd hP0 hPS hPl hPn hQ0 hQ1 hQ2 hpn hq0 hq1 hq2 hbig hT0 hT1 hT2 cs0 cs1 cs2 cf
  go_enter Tryz.func72,Tryz.ntmps72
  go_wp2_with (rw[← uh HW])
  refine cpw.mono ?_
  rintro e w1 ⟨rfl,g1⟩
  have HB2:=hide ((uh HB1).kept g1 (by simp))
  have HBO2:=hide ((uh HBO).kept g1 (by simp))
  have HG2:=hide (tn (uh HG1) g1)
  obtain ⟨b0,b1,b2,b3,b4⟩:=uh HC5 _ (uh HBO2)
  clear cpw c0 c1 c2 c3 c4 g1
  go_wp2
  go_loopw [4,5] (fun t i wr=>∃ j:Nat,i = .int .i64 j∧t = .string (str (P j))∧j≤n∧Hid (zdp ps j=true)∧w1.grownBy wr none) (fun _ i _=>n - (intOf i).toNat)
  case atStart=>exact ⟨0,rfl,rfl,Nat.zero_le _,rfl,zaa _ _⟩
  case round =>
   obtain ⟨j,rfl,rfl,hj,HG,hg⟩:=hrel
   by_cases hlt:j<n
   ·have hlt' : j<ps.length:=by have:=uh HL;omega
    have d1:=hg.cell b1 (by simp)
    have hgd:=znm ps j hlt'
    have hcs:=zeo ps
    have HGD:=hide hgd
    clear hgd
    go_wp2
    go_loopw [6] (fun i wr=>∃ k:Nat,i = .int .i64 k∧k≤j∧Hid ((ps.take k).contains ps[j]=false)∧w1.grownBy wr none) (fun i _=>j - (intOf i).toNat)
    case atStart=>exact ⟨0,rfl,Nat.zero_le _,rfl,hg⟩
    case round =>
     obtain ⟨k,rfl,hk,HC,hgi⟩:=hrel
     have hne0:j<ps.length:=hlt'
     obtain ⟨b,hpo,hcj⟩:=(uh HP).at j hlt'
     have hcE:=(uh HG2).cell hcj (by simp)
     have hpl:=uh HPL j (by omega)
     have hpl2:=uh HPL (j+1) (by omega)
     have hps:=uh HPS j hlt'
     obtain ⟨E,hEE⟩:∃ E,E=ps[j]:=⟨_,rfl⟩
     rw[← hEE] at hcE hps
     obtain ⟨TE,hTE⟩:∃ T,T=str E:=⟨_,rfl⟩
     rw[← hTE] at hcE
     by_cases hkj:k<j
     ·have hk' : k<ps.length:=by omega
      obtain ⟨b',hpo',hck⟩:=(uh HP).at k hk'
      have hbb:b'=b:=by rw[hpo] at hpo';injection hpo' with h;injection h with h;exact h.symm
      subst hbb
      have hcF:=(uh HG2).cell hck (by simp)
      have hsn:=zeo ps E k hk'
      obtain ⟨F,hFF⟩:∃ E,E=ps[k]:=⟨_,rfl⟩
      rw[← hFF] at hcF hsn
      obtain ⟨TF,hTF⟩:∃ T,T=str F:=⟨_,rfl⟩
      rw[← hTF] at hcF
      have hLE:TE.toList=E:=by rw[hTE,zaz]
      have hLF:TF.toList=F:=by rw[hTF,zaz]
      have h0:w1.grownBy _ none:=zam hgi
      obtain ⟨HEE,HSN⟩:=zh2 hEE hsn
      have hkn:k<n:=by omega
      subst hpo
      by_cases hFE:F=E
      ·have hTT2:TF=TE:=by rw[hTF,hTE,hFE]
       have hcon:(ps.take j).contains ps[j]=true:=by
        rw[← hEE]
        refine zhk (a:=k+1) ?_ (by omega)
        rw[hsn,hFE]
        simp
       have hgf:zf5 ps j=false:=by rw[uh HGD,hcon];rfl
       have hres:R=(2,[]):=by
        have h1:zdp ps ps.length=false:=zfp hlt' hgf
        rw[uh HOF,if_neg (uh HN),if_neg (by rw[h1];decide)]
       have HRS:=hide hres
       subst hTT2
       clear hcon hgf hres hLE hLF hTE hTF hEE hFF hFE hpl hpl2 hps hsn hck hcj hpo' hcs
       go_upto_region 10 with fail
       refine wp_region_noPanic ?_
       refine wp_region_held_drew (S:=fun V=>w1.grownBy V none) (by kernel_rfl) h0 (fun _ => ?_)
       refine tq 0 31 (.fieldAddr 100 (.tmp 1) 1) (.pointer (some ⟨w.heap.size,1,none⟩)) h0 ?_
       refine tz 1 32 (.load 67 (.tmp 31)) (.slice (some ⟨b',0,none⟩) n pc) h0 ?_ (y:=(Or.inl ⟨by rfl,fun V hV=>by (have q9:=hV.cell b1 (by simp);go_simp)⟩))
       refine tq 2 33 (.move (.tmp 6)) (.int .i64 (k:Int)) h0 ?_
       refine tq 3 34 (.indexAddr 67 (.tmp 32) (.tmp 33)) (.pointer (some ⟨b',k,none⟩)) h0 ?_
       (try simp only[pq])
       refine tz 4 35 (.load 9 (.tmp 34)) (.string TF) h0 ?_ (y:=(Or.inl ⟨by rfl,fun V hV=>by (have q9:=hV.cell hcF (by simp);go_simp)⟩))
       refine tq 5 36 (.fieldAddr 100 (.tmp 1) 1) (.pointer (some ⟨w.heap.size,1,none⟩)) h0 ?_
       refine tz 6 37 (.load 67 (.tmp 36)) (.slice (some ⟨b',0,none⟩) n pc) h0 ?_ (y:=(Or.inl ⟨by rfl,fun V hV=>by (have q9:=hV.cell b1 (by simp);go_simp)⟩))
       refine tq 7 38 (.move (.tmp 5)) (.int .i64 (j:Int)) h0 ?_
       (try simp only[pq])
       refine tq 8 39 (.indexAddr 67 (.tmp 37) (.tmp 38)) (.pointer (some ⟨b',j,none⟩)) h0 ?_
       refine tz 9 40 (.load 9 (.tmp 39)) (.string TF) h0 ?_ (y:=(Or.inl ⟨by rfl,fun V hV=>by (have q9:=hV.cell hcE (by simp);go_simp)⟩))
       refine tq 10 41 (.binOp .eql 9 (.tmp 35) (.tmp 40) 9) (.bool true) h0 ?_
       (try simp only[pq])
       refine wpAnyH_done (by kernel_rfl) ?_ _
       refine NoPanic.normal ?_
       have hB9:=(uh HB2).kept hgi (by simp)
       have hBr:=hB9.drew
       have hf0:=hB9.fz 0
       have hf1:=hB9.fz 1
       have hd0:=hB9.cell 0
       have hd1:=hB9.cell 1
       simp only[List.getElem?_cons_zero,List.getElem?_cons_succ] at hd0 hd1
       go_wp2
       refine bodyPost_ret (zaf rfl _ _ _ _ _ _ _ rfl ((hBr.set 0 (.int .i64 0)).set 1 _) Tryz.underlying44 rfl zb3) rfl ?_
       refine ⟨by rw[uh HRS,uh HS0];rfl,zab (zab (tn (uh HG2) (zam hgi)) _ _ (Or.inl (Nat.le_succ _))) _ _ (Or.inl (Nat.le_succ _))⟩
      ·have hne:¬ TF.toList=TE.toList:=by rw[hLF,hLE];exact hFE
       have hne2:(F == E)=false:=by simpa using hFE
       have hnew:(ps.take (k+1)).contains E=false:=by
        rw[hsn,show (ps.take k).contains E=false by rw[hEE];exact uh HC]
        simpa using fun h=>hFE h.symm
       have HNW:Hid ((ps.take (k+1)).contains ps[j]=false):=by rw[← hEE];exact hnew
       clear hTE hTF hEE hFF hpl hpl2 hps hsn hck hcj hpo' hcs hnew
       go_upto_region 10 with fail
       refine wp_region_noPanic ?_
       refine wp_region_held_drew (S:=fun V=>w1.grownBy V none) (by kernel_rfl) h0 (fun _ => ?_)
       refine tq 0 31 (.fieldAddr 100 (.tmp 1) 1) (.pointer (some ⟨w.heap.size,1,none⟩)) h0 ?_
       refine tz 1 32 (.load 67 (.tmp 31)) (.slice (some ⟨b',0,none⟩) n pc) h0 ?_ (y:=(Or.inl ⟨by rfl,fun V hV=>by (have q9:=hV.cell b1 (by simp);go_simp)⟩))
       refine tq 2 33 (.move (.tmp 6)) (.int .i64 (k:Int)) h0 ?_
       refine tq 3 34 (.indexAddr 67 (.tmp 32) (.tmp 33)) (.pointer (some ⟨b',k,none⟩)) h0 ?_
       (try simp only[pq])
       refine tz 4 35 (.load 9 (.tmp 34)) (.string TF) h0 ?_ (y:=(Or.inl ⟨by rfl,fun V hV=>by (have q9:=hV.cell hcF (by simp);go_simp)⟩))
       refine tq 5 36 (.fieldAddr 100 (.tmp 1) 1) (.pointer (some ⟨w.heap.size,1,none⟩)) h0 ?_
       refine tz 6 37 (.load 67 (.tmp 36)) (.slice (some ⟨b',0,none⟩) n pc) h0 ?_ (y:=(Or.inl ⟨by rfl,fun V hV=>by (have q9:=hV.cell b1 (by simp);go_simp)⟩))
       refine tq 7 38 (.move (.tmp 5)) (.int .i64 (j:Int)) h0 ?_
       (try simp only[pq])
       refine tq 8 39 (.indexAddr 67 (.tmp 37) (.tmp 38)) (.pointer (some ⟨b',j,none⟩)) h0 ?_
       refine tz 9 40 (.load 9 (.tmp 39)) (.string TE) h0 ?_ (y:=(Or.inl ⟨by rfl,fun V hV=>by (have q9:=hV.cell hcE (by simp);go_simp)⟩))
       refine tq 10 41 (.binOp .eql 9 (.tmp 35) (.tmp 40) 9) (.bool false) h0 ?_
       (try simp only[pq])
       refine wpAnyH_done (by kernel_rfl) ?_ _
       refine NoPanic.normal ?_
       go_wp2
       go_roundw
       case rel=>exact ⟨k+1,by go_num,by omega,HNW,zam hgi⟩
       case measure=>simp[intOf];omega
     ·have hkj2:k=j:=by omega
      have hcon:(ps.take j).contains ps[j]=false:=by have:=uh HC;rwa [hkj2] at this
      have hgt:zdp ps (j+1)=true:=by rw[zgw,uh HG,uh HGD,hcon];rfl
      have HGT:=hide hgt
      have hcEr:=hgi.cell hcE (by simp)
      have d1r:=hgi.cell b1 (by simp)
      obtain ⟨T0a,hT0a⟩:∃ T,T=str (P j):=⟨_,rfl⟩
      have hcat:T0a++TE=str (P (j+1)):=by rw[hT0a,hTE,hps,zcf]
      have hz1:T0a.size=(P j).length:=by rw[hT0a,zaj]
      have hz2:TE.size=E.length:=by rw[hTE,zaj]
      have hEl:E.length≤600000:=by rw[hps,List.length_append] at hpl2;omega
      obtain ⟨z1,hz1'⟩:∃ z,z=(P j).length:=⟨_,rfl⟩
      obtain ⟨z2,hz2'⟩:∃ z,z=E.length:=⟨_,rfl⟩
      rw[← hz1'] at hz1
      rw[← hz2'] at hz2
      have hzz:¬ 9223372036854775807<z1+z2:=by omega
      rw[← hT0a]
      obtain ⟨T3,hT3⟩:∃ T,T=str (P (j+1)):=⟨_,rfl⟩
      rw[← hT3] at hcat
      have HT3:=hide hT3
      clear hcon hgt hcs hkj2 hT0a hTE hps hpl hpl2 hEl hz1' hz2' hT3 hEE hcE hcj d1 HC HGD HG
      subst hpo
      go_wp2
      go_roundw
      case rel=>exact ⟨j+1,by go_num,by rw[← uh HT3],by omega,HGT,hgi⟩
      case measure=>simp[intOf];omega
   ·have hjn:j=ps.length:=by have:=uh HL;omega
    have hjn2:j=n:=by omega
    have hone:zdp ps ps.length=true:=by rw[← hjn];exact uh HG
    have hres:R=fitB Q2:=by rw[uh HOF,if_neg (uh HN),if_pos hone,uh HPN]
    have HRS:=hide hres
    have HB3:=hide ((uh HB2).kept hg (by simp))
    have hBo3:=(uh HBO2).kept hg (by simp)
    obtain ⟨e0,e1,e2,e3,e4⟩:=uh HC5 _ hBo3
    have G3:=tn (uh HG2) hg
    have cs0:=uh HCS0
    rw[← hjn2] at cs0
    have hBr:=uh HB3
    have hf0:=hBr.fz 0
    have hf1:=hBr.fz 1
    have hd0:=hBr.cell 0
    have hd1:=hBr.cell 1
    simp only[List.getElem?_cons_zero,List.getElem?_cons_succ] at hd0 hd1
    obtain ⟨TP,hTP⟩:∃ T,T=str (P j):=⟨_,rfl⟩
    rw[← hTP] at cs0 ⊢
    clear hjn hone hres hTP HG b0 b1 b2 b3 b4
    by_cases hna1:na≤16384
    ·have hna2:¬ (16384:Int)<(na:Int):=by omega
     by_cases hnx1:nx≤16384
     ·have hnx2:¬ (16384:Int)<(nx:Int):=by omega
      clear hna1 hnx1 hd0 hd1 hf0 hf1
      have h0:w.grownBy wr.drew none∧Blk wr.drew w.heap.size 100 C:=⟨zam G3,hBo3.drew⟩
      have cs1:=uh HCS1
      have cs2:=uh HCS2
      have cf:=uh HCF
      go_upto_region 15 with fail
      refine wp_region_noPanic ?_
      refine wp_region_held_drew (S:=fun V=>w.grownBy V none∧Blk V w.heap.size 100 C) (by kernel_rfl) h0 (fun _ => ?_)
      refine tq 0 61 (.move (.tmp 4)) (.string TP) h0 ?_
      refine tq 1 62 (.fieldAddr 100 (.tmp 1) 2) (.pointer (some ⟨w.heap.size,2,none⟩)) h0 ?_
      refine tz 2 63 (.load 64 (.tmp 62)) (.int .u64 (time:Int)) h0 ?_ (y:=(Or.inl ⟨by rfl,fun V hV=>by (have q9:=(uh HC5 V hV.2).2.2.1;go_simp)⟩))
      refine tq 4 65 (.fieldAddr 100 (.tmp 1) 3) (.pointer (some ⟨w.heap.size,3,none⟩)) h0 ?_
      (try simp only[pq])
      refine tz 5 66 (.load 9 (.tmp 65)) (.string TA) h0 ?_ (y:=(Or.inl ⟨by rfl,fun V hV=>by (have q9:=(uh HC5 V hV.2).2.2.2.1;go_simp)⟩))
      refine tq 7 68 (.fieldAddr 100 (.tmp 1) 4) (.pointer (some ⟨w.heap.size,4,none⟩)) h0 ?_
      refine tz 8 69 (.load 9 (.tmp 68)) (.string TX) h0 ?_ (y:=(Or.inl ⟨by rfl,fun V hV=>by (have q9:=(uh HC5 V hV.2).2.2.2.2;go_simp)⟩))
      (try simp only[pq])
      refine rdq 3 (some 64) (.call { callee := .value (.func 27),args := #[(.tmp 61),(.tmp 63),.const (.int .i64 8)],argTypes := #[9,64,3] }) (fun K9 hK9 => ?_)
      go_simp
      go_at_call 27
      refine (cs0 _).mono ?_
      rintro e w2 ⟨rfl,g2a⟩
      have h2:w.grownBy w2 none∧Blk w2 w.heap.size 100 C:=⟨tn h0.1 g2a,h0.2.kept g2a (by simp)⟩
      go_wp2_with fail
      refine hK9.out _ _ h2 (fun _ => ?_)
      clear hK9 K9
      (try simp only[pq])
      refine rdq 6 (some 67) (.call { callee := .value (.func 52),args := #[(.tmp 64),(.tmp 66)],argTypes := #[9,9] }) (fun K9 hK9 => ?_)
      go_simp
      go_at_call 52
      refine (cs1 _).mono ?_
      rintro e w3 ⟨rfl,g3a⟩
      have h3:w.grownBy w3 none∧Blk w3 w.heap.size 100 C:=⟨tn h2.1 g3a,h2.2.kept g3a (by simp)⟩
      go_wp2_with fail
      refine hK9.out _ _ h3 (fun _ => ?_)
      clear hK9 K9
      (try simp only[pq])
      refine rdq 9 (some 70) (.call { callee := .value (.func 52),args := #[(.tmp 67),(.tmp 69)],argTypes := #[9,9] }) (fun K9 hK9 => ?_)
      go_simp
      go_at_call 52
      refine (cs2 _).mono ?_
      rintro e w4 ⟨rfl,g4a⟩
      have h4:w.grownBy w4 none∧Blk w4 w.heap.size 100 C:=⟨tn h3.1 g4a,h3.2.kept g4a (by simp)⟩
      go_wp2_with fail
      refine hK9.out _ _ h4 (fun _ => ?_)
      clear hK9 K9
      (try simp only[pq])
      refine rdq 10 (some 71) (.call { callee := .value (.func 105),args := #[.const (.int .i64 3),(.tmp 70)],argTypes := #[3,9] }) (fun K9 hK9 => ?_)
      go_simp
      go_at_call 105
      refine (cf _).mono ?_
      rintro e w5 ⟨rfl,g5a⟩
      have h5:w.grownBy w5 none∧Blk w5 w.heap.size 100 C:=⟨tn h4.1 g5a,h4.2.kept g5a (by simp)⟩
      obtain ⟨K,hK⟩:∃ K:Int,K=(if (fitB Q2).1=0 then 3 else 0):=⟨_,rfl⟩
      obtain ⟨x,hx⟩:∃ x:Int,x=(fitB Q2).1:=⟨_,rfl⟩
      obtain ⟨SS,hSS⟩:∃ S,S=str (fitB Q2).2:=⟨_,rfl⟩
      rw[← hK,← hx,← hSS]
      obtain ⟨HK,HX,HSS⟩:=zh3 hK hx hSS
      clear hK hx hSS
      go_wp2_with fail
      refine hK9.out _ _ h5 (fun _ => ?_)
      clear hK9 K9
      (try simp only[pq])
      have hR5:=(((hBr.drew.kept g2a (by simp)).kept g3a (by simp)).kept g4a (by simp)).kept g5a (by simp)
      have k0:=hR5.cell 0
      have k1:=hR5.cell 1
      have z0:=hR5.fz 0
      have z1:=hR5.fz 1
      simp only[List.getElem?_cons_zero,List.getElem?_cons_succ] at k0 k1
      clear g2a g3a g4a g5a
      refine tq 11 72 (.extract (.tmp 71) 0) (.agg #[.int .i64 K,.string SS]) h5 ?_
      refine tq 12 73 (.extract (.tmp 71) 1) (.int .i64 x) h5 ?_
      (try simp only[pq])
      have h6:w.grownBy ((w5.setCell ⟨w.heap.size+1,0,none⟩ (.int .i64 K)).setCell ⟨w.heap.size+1,1,none⟩ (.string SS)) none∧Blk ((w5.setCell ⟨w.heap.size+1,0,none⟩ (.int .i64 K)).setCell ⟨w.heap.size+1,1,none⟩ (.string SS)) w.heap.size 100 C:=⟨zab (zab h5.1 _ _ (Or.inl (Nat.le_succ _))) _ _ (Or.inl (Nat.le_succ _)),(h5.2.other _ _ (by simp)).other _ _ (by simp)⟩
      refine rdq 13 none (.store 44 (.tmp 2) (.tmp 72)) (fun K9 hK9 => ?_)
      go_simp
      refine hK9.out _ _ h6 (fun _ => ?_)
      clear hK9 K9
      refine tq 14 3 (.assign (.tmp 73)) (.int .i64 x) h6 ?_
      (try simp only[pq])
      refine wpAnyH_done (by kernel_rfl) ?_ _
      refine NoPanic.normal ?_
      clear k0 k1 z0 z1 h6
      go_wp2
      refine bodyPost_ret (zaf rfl _ _ _ _ _ _ _ rfl ((hR5.set 0 (.int .i64 K)).set 1 (.string SS)) Tryz.underlying44 rfl zb3) rfl ?_
      refine ⟨?_,zab (zab h5.1 _ _ (Or.inl (Nat.le_succ _))) _ _ (Or.inl (Nat.le_succ _))⟩
      rw[uh HRS,← uh HK,← uh HX,← uh HSS]
      rfl
     ·have hnx2:(16384:Int)<(nx:Int):=by omega
      have hres3:R=(3,[]):=by
       rw[uh HRS]
       rcases uh HBIG with h | h
       ·exact h
       ·exact absurd h.2 hnx1
      have HR3:=hide hres3
      clear hna1 hnx1 hres3
      go_wp2
      refine bodyPost_ret (zaf rfl _ _ _ _ _ _ _ rfl ((hBr.set 0 (.int .i64 0)).set 1 _) Tryz.underlying44 rfl zb3) rfl ?_
      refine ⟨by rw[uh HR3,uh HS0];rfl,zab (zab G3 _ _ (Or.inl (Nat.le_succ _))) _ _ (Or.inl (Nat.le_succ _))⟩
    ·have hna2:(16384:Int)<(na:Int):=by omega
     have hres3:R=(3,[]):=by
      rw[uh HRS]
      rcases uh HBIG with h | h
      ·exact h
      ·exact absurd h.1 hna1
     have HR3:=hide hres3
     clear hna1 hres3
     go_wp2
     refine bodyPost_ret (zaf rfl _ _ _ _ _ _ _ rfl ((hBr.set 0 (.int .i64 0)).set 1 _) Tryz.underlying44 rfl zb3) rfl ?_
     refine ⟨by rw[uh HR3,uh HS0];rfl,zab (zab G3 _ _ (Or.inl (Nat.le_succ _))) _ _ (Or.inl (Nat.le_succ _))⟩
end Go.Proofs.YtegbbkgmiklhcaaGreatDoor
