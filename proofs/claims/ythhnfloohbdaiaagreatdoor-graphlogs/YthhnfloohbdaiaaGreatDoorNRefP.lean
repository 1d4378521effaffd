/- Lemmas. -/
import Derived.Test.YthhnfloohbdaiaaGreatDoorMTk
import Derived.Test.YthhnfloohbdaiaaGreatDoorNPartR
import Derived.Deep.CutBlock
import Derived.Deep.DeepCutAuto
namespace Go.Proofs.YthhnfloohbdaiaaGreatDoor
open Go.RowKit
theorem Stg.at {w:World} {base:Nat} {v:Value} {D:List (List UInt8)} {C:List UInt8} (h:Stg w base v (D++[C])):∃ g cap,v = .slice (some ⟨g,0,none⟩) (D.length+1) cap∧base≤g∧D.length+1≤cap∧w.cell? ⟨g,D.length,none⟩=some (.string (str C))∧w.frozen? ⟨g,D.length,none⟩=false ∧
  ∀ x:List UInt8,Stg (w.setCell ⟨g,D.length,none⟩ (.string (str x))) base v (D++[x]):=by
 rcases h.2 with ⟨_,h2⟩ | ⟨g,cap,cur,hv,hg,hh,h3,h4,h5,h6⟩
 ·simp at h2
 ·have hl:(D++[C]).length=D.length+1:=by simp
  rw[hl] at hv h3 h6
  refine ⟨g,cap,hv,hg,h3,?_,?_,fun x => ?_⟩
  ·have h7:(cur.toList.take ((D.length+1)*1))[D.length]? = ((D++[C]).map stv)[D.length]? := by rw[h6]
   rw[List.getElem?_take_of_lt (by omega)] at h7
   simp[World.cell?,hh,stv] at h7 ⊢
   exact h7
  ·simp[World.frozen?,hh]
  ·refine ⟨by simp,Or.inr ⟨g,cap,cur.setIfInBounds D.length (.string (str x)),by rw[hv];simp,hg,?_,by simpa using h3,h4,by simpa using h5,?_⟩⟩
   ·simp[World.setCell,Array.getElem?_modify,hh]
   ·rw[Array.toList_setIfInBounds,List.take_set,show ((D++[x]).length*1)=(D.length+1)*1 by simp,h6]
    simp[stv]
set_option maxRecDepth 100000 in
set_option maxHeartbeats 2000000 in
theorem zpa (w:World) (l:List UInt8) (hl:l.length≤100000):Calls Tryz.prog 173 #[.string (str l)] w fun e w'=>∃ v,e = .returned v∧Stg w' w.heap.size v (za2 l)∧w.grownBy w' none:=by
 obtain ⟨S,hS⟩:∃ S,S=str l:=⟨_,rfl⟩
 obtain ⟨n,hn⟩:∃ n,n=l.length:=⟨_,rfl⟩
 have hsz:S.size=n:=by rw[hS,zao,hn]
 have sl:∀ lo hi:Nat,lo≤hi→hi≤l.length→∀ W,(Instr.slice 9 (.string S) (some (.int .i64 (lo:Int))) (some (.int .i64 (hi:Int))) none).run Tryz.prog W = .ok (.string (str ((l.drop lo).take (hi - lo)))) W:=fun lo hi h1 h2 W=>by rw[hS];exact zfz l lo hi h1 h2 W
 have ix:∀ (p:Nat) (hp:p<l.length) (n:Nat),n=l[p].toNat→∀ W,(Instr.index 9 (.string S) (.int .i64 (p:Int))).run Tryz.prog W = .ok (.int .u8 (n:Int)) W:=fun p hp n hn W=>by rw[hS];exact zhv l p n hp hn W
 rw[← hS]
 obtain ⟨HN,HL,SL,IX⟩:=zh4 hn hl sl ix
 clear hS hn hl sl ix
 have h00:Stg (w.alloc (.cells #[.string ⟨#[]⟩] 9)) w.heap.size (.slice (some ⟨w.heap.size,0,none⟩) 1 1) [[]]:=by
  refine ⟨rfl,Or.inr ⟨w.heap.size,1,#[.string ⟨#[]⟩],rfl,Nat.le_refl _,heap_alloc_new w _,Nat.le_refl _,by unfold maxLen;decide,rfl,rfl⟩⟩
 have H00:=hide h00
 clear h00
 go_enter Tryz.func173,Tryz.ntmps173
 go_wp2
 go_loopw [3,4] (fun v i wr=>∃ pos:Nat,pos≤n∧i = .int .i64 pos∧Stg wr w.heap.size v ((cutS (l.take pos)).1++[(cutS (l.take pos)).2])∧w.grownBy wr none) (fun _ i _=>n - (intOf i).toNat)
 case atStart=>exact ⟨0,Nat.zero_le _,rfl,uh H00,zah (zab _ _) _⟩
 case round =>
  clear H00
  obtain ⟨pos,hpn,rfl,hown,hg⟩:=hrel
  by_cases hlt:pos<n
  ·have hpl:pos<l.length:=by rw[← uh HN];exact hlt
   have hpl0:pos≤l.length:=Nat.le_of_lt hpl
   have HK:=hide (show pos+1≤n from hlt)
   have hpi:(pos:Int)<(n:Int):=by omega
   have hp0:(0:Int)≤(pos:Int):=by omega
   have hpm:(pos:Int)+1<9223372036854775807:=by have:=uh HL;omega
   have hcut:=zk2 (l.take pos) l[pos]
   rw[← List.take_succ_eq_append_getElem hpl] at hcut
   obtain ⟨x,hx⟩:∃ x,x=l[pos].toNat:=⟨_,rfl⟩
   have ix:=uh IX pos hpl x hx
   have sl:=uh SL pos (pos+1) (by omega) hpl
   rw[show (l.drop pos).take (pos+1 - pos)=[l[pos]] by rw[Nat.add_sub_cancel_left,List.drop_eq_getElem_cons hpl];rfl] at sl
   obtain ⟨c,hc⟩:∃ c,c=l[pos]:=⟨_,rfl⟩
   rw[← hc] at hcut hx sl
   have hcnt:=zda (l.take pos)
   rw[← zf0,List.length_append,List.length_take_of_le hpl0] at hcnt
   have hcl:=(zno (l.take pos)).1
   rw[List.length_take_of_le hpl0] at hcl
   obtain ⟨D,hD⟩:∃ D,D=(cutS (l.take pos)).1:=⟨_,rfl⟩
   obtain ⟨C,hC⟩:∃ C,C=(cutS (l.take pos)).2:=⟨_,rfl⟩
   rw[← hD,← hC] at hown
   rw[← hD] at hcnt
   rw[← hC] at hcl
   rw[show cutS (l.take pos)=(D,C) by rw[hD,hC]] at hcut
   have hq6:D.length+1≤1000000:=by have:=uh HL;simp at hcnt;omega
   have hC6:C.length+1≤1000000:=by have:=uh HL;omega
   clear hc hD hC hcnt hcl
   by_cases h47:x=47
   ·subst h47
    have hc47:c=47:=UInt8.toNat_inj.1 (by rw[← hx];rfl)
    have hcut2:cutS (l.take (pos+1))=(D++[C],[]):=by rw[hcut];simp[zcc,hc47]
    obtain ⟨Wa,hWa,hca,ga⟩:=zia wr []
    have hownA:=hown.kept ga
    have hgA:=tn hg ga
    obtain ⟨HW,HC⟩:=zh2 hWa hcut2
    have hDn:(D++[C]).length≤1000000:=by simp;omega
    obtain ⟨E,hE⟩:∃ E,E=D++[C]:=⟨_,rfl⟩
    rw[← hE] at hDn hownA
    obtain ⟨HD,HE⟩:=zh2 hDn hE
    clear hWa hcut hcut2 hown hDn hE sl hx hc47 hC6
    go_wp2_with (at_builtin;refine zb4 rfl _ _ rfl w.heap.size _ E [] wr.heap.size rfl (show Stg (wr.alloc (.cells #[.string ⟨#[]⟩] 9)) w.heap.size _ E from (uh HW) ▸ hownA) rfl ((uh HW) ▸ hca) (uh HD) ((uh HW) ▸ hgA.size) ?_)
    intro v' w3 hown3 g3
    have hg3:w.grownBy w3 none:=by
     have hgB:w.grownBy (wr.alloc (.cells #[.string ⟨#[]⟩] 9)) none:=(uh HW) ▸ hgA
     exact zae hgB g3 (fun x e=>Or.inl (hownA.lt x e).1)
    go_wp2
    go_roundw
    case rel=>exact ⟨pos+1,uh HK,by go_num,by rw[uh HC,← uh HE];exact hown3,hg3⟩
    case measure=>have:=uh HK;simp[intOf];omega
   ·have hc47:¬ c=47:=fun e=>h47 (by rw[hx,e];rfl)
    have hcut2:cutS (l.take (pos+1))=(D,C++[c]):=by rw[hcut];simp[zcc,hc47]
    have q1:((x:Int) == 47)=false:=by simp;omega
    obtain ⟨g,cap,rfl,hgb,hcp,hce,hfz,hset⟩:=hown.at
    obtain ⟨q,hq⟩:∃ q,q=D.length:=⟨_,rfl⟩
    rw[← hq] at hce hfz hset hcp hq6 ⊢
    have happ:str C++str [c]=str (C++[c]):=zc3 C [c]
    have hs1:(str C).size+1≤1000000:=by rw[zao];exact hC6
    have hs2:(str [c]).size=1:=zao _
    have hset':=(hset (C++[c])).kept (zak (zab _ _))
    obtain ⟨SC,hSC⟩:∃ s,s=str C:=⟨_,rfl⟩
    obtain ⟨SD,hSD⟩:∃ s,s=str [c]:=⟨_,rfl⟩
    obtain ⟨SN,hSN⟩:∃ s,s=str (C++[c]):=⟨_,rfl⟩
    rw[← hSC,← hSD,← hSN] at happ
    rw[← hSC] at hce hs1
    rw[← hSD] at hs2
    rw[← hSN] at hset'
    simp only[← hSD] at sl
    have HSET:=hide hset'
    have HC:=hide hcut2
    have hlim:SC.size+1≤9223372036854775807:=by omega
    obtain ⟨p,hp⟩:∃ p,p=q+1:=⟨_,rfl⟩
    obtain ⟨r,hr⟩:∃ r,r=pos+1:=⟨_,rfl⟩
    have hw1:IntKind.i64.wrap (q:Int)=(q:Int):=by rw[IntKind.wrap_i64];omega
    have hw2:(p:Int) - 1=(q:Int):=by omega
    have hw3:IntKind.i64.wrap (r:Int)=(r:Int):=by rw[IntKind.wrap_i64];omega
    have hw4:(pos:Int)+1=(r:Int):=by omega
    have hq0:(0:Int)≤(q:Int):=by omega
    have hq1:(q:Int)<(p:Int):=by omega
    rw[← hr] at sl
    rw[← hp] at HSET hcp ⊢
    have HR:=hide hr
    have hgG:w.grownBy ((wr.setCell ⟨g,q,none⟩ (.string SN)).drew) none:=zak (zad hg _ _ (Or.inl hgb))
    have HGG:=hide hgG
    clear hcut hcut2 hset hset' hown hSC hSD hSN hq hc47 h47 hC6 hx hgG hgb hp hr hq6
    have hS0:wr.heap.size≤wr.drew.heap.size:=Nat.le_refl _
    go_upto_region 7 with fail
    refine wp_region_noPanic ?_
    refine wp_region_held_drew (S:=fun V=>wr.heap.size≤V.heap.size) (by kernel_rfl) hS0 (fun _ => ?_)
    refine tq 0 19 (.move (.tmp 3)) (.slice (some ⟨g,0,none⟩) p cap) hS0 ?_
    refine tq 1 20 (.move (.tmp 3)) (.slice (some ⟨g,0,none⟩) p cap) hS0 ?_
    refine tq 2 21 (.call { callee := .builtin .len,args := #[(.tmp 20)],argTypes := #[25] }) (.int .i64 (p:Int)) hS0 ?_
    refine tq 3 22 (.binOp .sub 3 (.tmp 21) (.const (.int .i64 1)) 3) (.int .i64 (q:Int)) hS0 ?_
    (try simp only[pq])
    refine tq 4 23 (.move (.tmp 3)) (.slice (some ⟨g,0,none⟩) p cap) hS0 ?_
    refine tq 5 24 (.move (.tmp 3)) (.slice (some ⟨g,0,none⟩) p cap) hS0 ?_
    refine tq 6 25 (.call { callee := .builtin .len,args := #[(.tmp 24)],argTypes := #[25] }) (.int .i64 (p:Int)) hS0 ?_
    refine tq 7 26 (.binOp .sub 3 (.tmp 25) (.const (.int .i64 1)) 3) (.int .i64 (q:Int)) hS0 ?_
    (try simp only[pq])
    refine tq 8 27 (.indexAddr 25 (.tmp 23) (.tmp 26)) (.pointer (some ⟨g,q,none⟩)) hS0 ?_
    refine tq 10 29 (.move (.tmp 0)) (.string S) hS0 ?_
    refine tq 11 30 (.move (.tmp 4)) (.int .i64 (pos:Int)) hS0 ?_
    refine tq 12 31 (.move (.tmp 4)) (.int .i64 (pos:Int)) hS0 ?_
    (try simp only[pq])
    refine tq 13 32 (.binOp .add 3 (.tmp 31) (.const (.int .i64 1)) 3) (.int .i64 (r:Int)) hS0 ?_
    refine tq 14 33 (.slice 9 (.tmp 29) (some (.tmp 30)) (some (.tmp 32)) none) (.string SD) hS0 ?_
    (try simp only[pq])
    refine rd 9 (some 28) (.load 9 (.tmp 27)) (fun K9 hK9 => ?_)
    go_simp
    refine hK9.out _ _ hS0 (fun _ => ?_)
    clear hK9 K9
    refine tq 15 34 (.binOp .add 9 (.tmp 28) (.tmp 33) 9) (.string SN) hS0 ?_
    refine tq 16 35 (.indexAddr 25 (.tmp 19) (.tmp 22)) (.pointer (some ⟨g,q,none⟩)) hS0 ?_
    (try simp only[pq])
    refine rd 17 none (.store 9 (.tmp 35) (.tmp 34)) (fun K9 hK9 => ?_)
    go_simp
    refine hK9.out _ _ (by simp[World.setCell,World.drew]) (fun _ => ?_)
    clear hK9 K9
    (try simp only[pq])
    refine wpAnyH_done (by kernel_rfl) ?_ _
    refine NoPanic.normal ?_
    go_wp2
    go_roundw
    case rel =>
     obtain rfl:=uh HR
     exact ⟨pos+1,uh HK,rfl,by rw[uh HC];exact uh HSET,uh HGG⟩
    case measure=>have:=uh HK;have:=uh HR;simp[intOf];omega
  ·have hpe:pos=l.length:=by have:=uh HN;omega
   rw[hpe,List.take_length,zf0] at hown
   have hpi:¬ (pos:Int)<(n:Int):=by omega
   clear hpe
   go_wp2
   go_ret
   exact ⟨_,rfl,hown,hg⟩
end Go.Proofs.YthhnfloohbdaiaaGreatDoor
