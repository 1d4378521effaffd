/- Lemmas. -/
import Derived.Test.YthhnfloohbdaiaaGreatDoorNLetR
import Derived.Lib.OthersKept
import Derived.Test.YthhnfloohbdaiaaGreatDoorRGHas
namespace Go.Proofs.YthhnfloohbdaiaaGreatDoor
open Go.RowKit
set_option maxRecDepth 100000
theorem zf7 {w a:World} {r:Option Nat} (h:w.grownBy a r) (k:Nat) (s:ByteArray) (p:Nat) (hk:w.heap.size≤k∨r=some k):w.grownBy (a.iterAt k s p) r :=
 zae h (s:=some k) ⟨rfl,rfl,rfl,by simp[World.iterAt],fun j _ hne=>Lib.iterAt_other a k j s p (fun e=>hne (by rw[e]))⟩ (fun x e=>by cases e;exact hk)
def zcg (c:UInt8):Bool := !(c == 47) && !(c == 0)
theorem zo4 {c:UInt8} (h:128≤c.toNat):zcg c=true:=by
 have h1:¬ c=47:=fun e=>by subst e;revert h;decide
 have h2:¬ c=0:=fun e=>by subst e;revert h;decide
 simp[zcg,h1,h2]
theorem zla (c:UInt8):zcg c=(!(((c.toNat:Nat):Int) == 47) && !(((c.toNat:Nat):Int) == 0)):=by
 have h1:(c == 47)=(((c.toNat:Nat):Int) == 47):=by
  rw[Bool.eq_iff_iff];simp only[beq_iff_eq]
  rw[← UInt8.toNat_inj,show (47:UInt8).toNat=47 from rfl];omega
 have h2:(c == 0)=(((c.toNat:Nat):Int) == 0):=by
  rw[Bool.eq_iff_iff];simp only[beq_iff_eq]
  rw[← UInt8.toNat_inj,show (0:UInt8).toNat=0 from rfl];omega
 rw[zcg,h1,h2]
theorem znv (p:List UInt8):zce p=(!(p == []) && decide (p.length≤64) && !(p == [46]) && !(p == [46,46]) && p.all zcg):=rfl
theorem znw {l:List UInt8} {f:UInt8→Bool} {k:Nat} (h:k<l.length):(l.drop k).all f=(f l[k] && (l.drop (k+1)).all f):=by
 rw[List.drop_eq_getElem_cons h,List.all_cons]
theorem zup {l:List UInt8} {k n:Nat} (h:∀ c∈(l.drop k).take n,128≤c.toNat):(l.drop k).all zcg=(l.drop (k+n)).all zcg:=by
 conv=>lhs;rw[← List.take_append_drop n (l.drop k)]
 rw[List.all_append,List.drop_drop]
 have:((l.drop k).take n).all zcg=true:=List.all_eq_true.2 fun c hc=>zo4 (h c hc)
 rw[this,Bool.true_and]
set_option maxHeartbeats 1000000 in
theorem zuq (w:World) (l:List UInt8) (hl:l.length≤100000):Calls Tryz.prog 94 #[.string (str l)] w fun e w'=>e = .returned (.bool (zce l))∧w.grownBy w' none:=by
 obtain ⟨S,hS⟩:∃ S,S=str l:=⟨_,rfl⟩
 obtain ⟨n,hn⟩:∃ n,n=l.length:=⟨_,rfl⟩
 have hsz:S.size=n:=by rw[hS,zao,hn]
 obtain ⟨b1,hb1⟩:∃ b,b=(l == []):=⟨_,rfl⟩
 obtain ⟨b2,hb2⟩:∃ b,b=(l == [46]):=⟨_,rfl⟩
 obtain ⟨b3,hb3⟩:∃ b,b=(l == [46,46]):=⟨_,rfl⟩
 obtain ⟨LL,hLL⟩:∃ L,L=S.toList:=⟨_,rfl⟩
 have hLl:LL=l:=by rw[hLL,hS,za5]
 have e1:LL.isEmpty=b1:=by rw[hLl,hb1];cases l <;> rfl
 have e2:(LL == [46])=b2:=by rw[hLl,hb2]
 have e3:(LL == [46,46])=b3:=by rw[hLl,hb3]
 have hP:zce l=(!b1 && decide (n≤64) && !b2 && !b3 && l.all zcg):=by rw[znv,hb1,hb2,hb3,hn]
 rw[← hS]
 have hT:=hLL.symm
 obtain ⟨HS,HN,HL,HP⟩:=zh4 hS hn hl hP
 clear hS hn hl hb1 hb2 hb3 hLL hLl hP
 cases b1
 ·have n1:¬ LL=[]:=by simpa using e1
  by_cases h64:n≤64
  ·have h64i:¬ (64:Int)<(n:Int):=by omega
   cases b2
   ·have n2:¬ LL=[46]:=by simpa using e2
    cases b3
    ·have n3:¬ LL=[46,46]:=by simpa using e3
     have hP2:zce l=l.all zcg:=by rw[uh HP];simp[h64]
     have HP2:=hide hP2
     clear HP hP2
     go_enter Tryz.func94,Tryz.ntmps94
     go_wp2
     clear n1 n2 n3 e1 e2 e3 hT
     go_loopw [4] (fun _ wr=>∃ pos:Nat,pos≤n∧Hid ((l.drop pos).all zcg=l.all zcg)∧wr.heap[w.heap.size]? = some (.stringIter S pos)∧w.grownBy wr none) (fun _ wr=>n - wr.iterPos w.heap.size)
     case atStart=>exact ⟨0,Nat.zero_le _,by exact rfl,World.iter_heap _ _ _,zah (zab _ _) _⟩
     case round =>
      obtain ⟨pos,hpn,hD,hit,hg⟩:=hrel
      by_cases hlt:pos<n
      ·have hpl:pos<l.length:=by rw[← uh HN];exact hlt
       have hnx:∀ ty,(Instr.next (.pointer (some ⟨w.heap.size,0,none⟩)) true ty).run Tryz.prog wr=_:=fun ty=>Lib.run_next_any_at wr w.heap.size S pos ty hit (by rw[hsz];exact hlt)
       obtain ⟨x,hx⟩:∃ x,x=(Utf8.decode S pos).1:=⟨_,rfl⟩
       obtain ⟨m,hm⟩:∃ m,m=(Utf8.decode S pos).2:=⟨_,rfl⟩
       rw[← hx,← hm] at hnx
       have hat:=zhw l pos hpl
       rw[← uh HS,← hx,← hm] at hat
       have hgo:1≤m∧pos+m≤n:=by
        rcases hat with ⟨_,e⟩ | ⟨_,_,h3,h4,_⟩
        ·have:(Utf8.decode S pos).2=1:=by rw[e]
         omega
        ·have:=uh HN;omega
       have hxx:((l.drop pos).all zcg=false∧(x=47∨x=0))∨((l.drop pos).all zcg=(l.drop (pos+m)).all zcg∧x≠47∧x≠0):=by
        rcases hat with ⟨h1,e⟩ | ⟨_,h2,_,_,h5⟩
        ·have e1:x=l[pos].toNat:=by rw[hx,e]
         have e2:m=1:=by rw[hm,e]
         subst e2
         rw[znw hpl,zla,← e1]
         by_cases h47:x=47
         ·left;exact ⟨by rw[h47];rfl,Or.inl h47⟩
         ·by_cases h0:x=0
          ·left;exact ⟨by rw[h0];rfl,Or.inr h0⟩
          ·right
           refine ⟨?_,h47,h0⟩
           have q1:((x:Int) == 47)=false:=by simp;omega
           have q2:((x:Int) == 0)=false:=by simp;omega
           rw[q1,q2];rfl
        ·right
         exact ⟨zup h5,by omega,by omega⟩
       have hit2:=Lib.iterAt_heap wr w.heap.size S pos (pos+m) hit
       have hg2:=zf7 hg w.heap.size S (pos+m) (Or.inl (Nat.le_refl _))
       obtain ⟨HG,HI,HI0⟩:=zh3 hgo hit2 hit
       clear hat hx hm hgo hit hit2
       rcases hxx with ⟨hf,hx⟩ | ⟨hf,hx1,hx2⟩
       ·have HR:Hid (zce l=false):=by rw[uh HP2,← hD.out,hf];exact rfl
        clear hf hD
        rcases hx with rfl | rfl
        all_goals
         go_wp2
         go_ret
         exact ⟨by rw[uh HR];rfl,hg2⟩
       ·have q1:((x:Int) == 47)=false:=by simp;omega
        have q2:((x:Int) == 0)=false:=by simp;omega
        have HF:Hid ((l.drop (pos+m)).all zcg=l.all zcg):=by rw[← hf];exact hD
        clear hf hx1 hx2 hD
        go_wp2
        go_roundw
        case rel=>exact ⟨pos+m,(uh HG).2,HF,uh HI,hg2⟩
        case measure =>
         have h1:=(uh HG).1
         have h2:=uh HI
         have h3:=uh HI0
         simp only[World.iterPos,h2,h3]
         omega
      ·have hnx:∀ ty,(Instr.next (.pointer (some ⟨w.heap.size,0,none⟩)) true ty).run Tryz.prog wr=_:=fun ty=>Lib.run_next_end_at wr w.heap.size S pos ty hit (by rw[hsz];exact hlt)
       have HR:Hid (zce l=true):=by
        rw[uh HP2,← hD.out,List.drop_eq_nil_of_le (by rw[← uh HN];omega)]
        exact rfl
       clear hD
       go_wp2
       go_ret
       exact ⟨by rw[uh HR];rfl,hg⟩
    ·have n3:LL=[46,46]:=by simpa using e3
     have HR:=hide (show zce l=false by rw[uh HP];simp)
     clear HP
     go_enter Tryz.func94,Tryz.ntmps94
     go_wp2
     go_ret
     exact ⟨by rw[uh HR];rfl,zab _ _⟩
   ·have HR:=hide (show zce l=false by rw[uh HP];simp)
    have n2:LL=[46]:=by simpa using e2
    clear HP
    go_enter Tryz.func94,Tryz.ntmps94
    go_wp2
    go_ret
    exact ⟨by rw[uh HR];rfl,zab _ _⟩
  ·have h64i:(64:Int)<(n:Int):=by omega
   have HR:=hide (show zce l=false by rw[uh HP];simp[h64])
   clear HP
   go_enter Tryz.func94,Tryz.ntmps94
   go_wp2
   go_ret
   exact ⟨by rw[uh HR];rfl,zab _ _⟩
 ·have HR:Hid (zce l=false):=by rw[uh HP];exact rfl
  have n1:LL=[]:=by simpa using e1
  clear HP
  go_enter Tryz.func94,Tryz.ntmps94
  go_wp2
  go_ret
  exact ⟨by rw[uh HR];rfl,zab _ _⟩
theorem znx {a:World} {base:Nat} {v:Value} {L:List (List UInt8)} (h:Stg a base v L) {k:Nat} {s:ByteArray} {p:Nat} (hk:a.heap[k]? = some (.stringIter s p)):v.ownBlock≠some k:=by
 rcases h.2 with ⟨rfl,_⟩ | ⟨g,cap,cur,rfl,_,hh,_⟩
 ·simp[Value.ownBlock]
 ·intro e
  simp[Value.ownBlock] at e
  subst e
  rw[hh] at hk
  cases hk
theorem zo5 (a:World) (k:Nat) (s:ByteArray) (q:Nat):a.grownBy (a.iterAt k s q) (some k):=zf7 (zab a (some k)) k s q (Or.inr rfl)
theorem Stg.iterAt {a:World} {base:Nat} {v:Value} {L:List (List UInt8)} (h:Stg a base v L) {k:Nat} {s:ByteArray} {p:Nat} (hk:a.heap[k]? = some (.stringIter s p)) (q:Nat):Stg (a.iterAt k s q) base v L :=
 World.ownsRow.kept h (zo5 a k s q) (Or.inr (znx h hk))
theorem Stg.lower {w:World} {b1 b2:Nat} {v:Value} {L:List (List UInt8)} (h:Stg w b1 v L) (hb:b2≤b1):Stg w b2 v L:=by
 refine ⟨h.1,?_⟩
 rcases h.2 with h1 | ⟨g,cap,cur,h1,h2,h3⟩
 ·exact Or.inl h1
 ·exact Or.inr ⟨g,cap,cur,h1,Nat.le_trans hb h2,h3⟩
theorem zia (w:World) (x:List UInt8):∃ W,W=w.alloc (.cells #[.string (str x)] 9)∧W.cell? ⟨w.heap.size,0,none⟩=some (stv x)∧w.grownBy W none:=by
 refine ⟨_,rfl,?_,zah (zab _ _) _⟩
 have:=heap_alloc_new w (.cells #[.string (str x)] 9)
 unfold World.cell?
 rw[this]
 rfl
set_option maxHeartbeats 2000000 in
theorem zo6 (w:World) (l:List UInt8) (hl:l.length≤100000):Calls Tryz.prog 154 #[.string (str l)] w fun e w'=>∃ v,e = .returned v∧Stg w' w.heap.size v (za2 l)∧w.grownBy w' none:=by
 obtain ⟨S,hS⟩:∃ S,S=str l:=⟨_,rfl⟩
 obtain ⟨n,hn⟩:∃ n,n=l.length:=⟨_,rfl⟩
 have hsz:S.size=n:=by rw[hS,zao,hn]
 have sl:∀ lo hi:Nat,lo≤hi→hi≤l.length→∀ W,(Instr.slice 9 (.string S) (some (.int .i64 (lo:Int))) (some (.int .i64 (hi:Int))) none).run Tryz.prog W = .ok (.string (str ((l.drop lo).take (hi - lo)))) W:=fun lo hi h1 h2 W=>by rw[hS];exact zfz l lo hi h1 h2 W
 have sf:∀ lo:Nat,lo≤l.length→∀ W,(Instr.slice 9 (.string S) (some (.int .i64 (lo:Int))) none none).run Tryz.prog W = .ok (.string (str (l.drop lo))) W:=fun lo h2 W=>by rw[hS];exact zff l lo h2 W
 rw[← hS]
 obtain ⟨HS,HN,HL,SL,SF⟩:=zh5 hS hn hl sl sf
 clear hS hn hl sl sf
 go_enter Tryz.func154,Tryz.ntmps154
 go_wp2
 go_loopw [3,4] (fun v f wr=>∃ pos fr:Nat,pos≤n∧f = .int .i64 fr∧Hid (fr+(cutS (l.take pos)).2.length=pos)∧Stg wr w.heap.size v (cutS (l.take pos)).1∧wr.heap[w.heap.size]? = some (.stringIter S pos)∧w.grownBy wr none) (fun _ _ wr=>n - wr.iterPos w.heap.size)
 case atStart=>exact ⟨0,0,Nat.zero_le _,rfl,by exact rfl,Stg.nil _ _,World.iter_heap _ _ _,zah (zab _ _) _⟩
 case round =>
  obtain ⟨pos,fr,hpn,rfl,hF,hown,hit,hg⟩:=hrel
  have hfr:fr≤pos:=by have:=hF.out;omega
  have hpl0:pos≤l.length:=by rw[← uh HN];exact hpn
  have hcl:=zno (l.take pos)
  have hlast:(l.drop fr).take (pos - fr)=(cutS (l.take pos)).2:=by
   rw[List.length_take_of_le hpl0,show pos - (cutS (l.take pos)).2.length=fr by have:=hF.out;omega] at hcl
   rw[← List.drop_take]
   exact hcl.2
  by_cases hlt:pos<n
  ·have hpl:pos<l.length:=by rw[← uh HN];exact hlt
   have hnx:∀ ty,(Instr.next (.pointer (some ⟨w.heap.size,0,none⟩)) true ty).run Tryz.prog wr=_:=fun ty=>Lib.run_next_any_at wr w.heap.size S pos ty hit (by rw[hsz];exact hlt)
   obtain ⟨x,hx⟩:∃ x,x=(Utf8.decode S pos).1:=⟨_,rfl⟩
   obtain ⟨m,hm⟩:∃ m,m=(Utf8.decode S pos).2:=⟨_,rfl⟩
   rw[← hx,← hm] at hnx
   have hat:=zhw l pos hpl
   rw[← uh HS,← hx,← hm] at hat
   have hgo:1≤m∧pos+m≤n:=by
    rcases hat with ⟨_,e⟩ | ⟨_,_,h3,h4,_⟩
    ·have:(Utf8.decode S pos).2=1:=by rw[e]
     omega
    ·have:=uh HN;omega
   have hxx:(x=47∧m=1∧l[pos]=47)∨(x≠47∧∀ c∈(l.drop pos).take m,c≠47):=by
    rcases hat with ⟨h1,e⟩ | ⟨_,h2,_,_,h5⟩
    ·have e1:x=l[pos].toNat:=by rw[hx,e]
     have e2:m=1:=by rw[hm,e]
     subst e2
     by_cases h47:x=47
     ·left;exact ⟨h47,rfl,UInt8.toNat_inj.1 (by rw[← e1,h47];rfl)⟩
     ·right
      refine ⟨h47,fun c hc => ?_⟩
      rw[List.drop_eq_getElem_cons hpl] at hc
      obtain rfl:c=l[pos]:=List.mem_singleton.1 hc
      intro e3
      rw[e1,e3] at h47
      exact h47 rfl
    ·right
     refine ⟨by omega,fun c hc e3 => ?_⟩
     have:=h5 c hc
     rw[e3] at this
     revert this;decide
   have hit2:=Lib.iterAt_heap wr w.heap.size S pos (pos+m) hit
   have hg2:=zf7 hg w.heap.size S (pos+m) (Or.inl (Nat.le_refl _))
   have hown2:=hown.iterAt hit (pos+m)
   obtain ⟨HG,HI,HI0⟩:=zh3 hgo hit2 hit
   have hp0:(0:Int)≤(pos:Int):=by omega
   have hpm:(pos:Int)+1<9223372036854775807:=by have:=uh HL;omega
   clear hat hx hm hgo hit hit2 hcl hown
   rcases hxx with ⟨rfl,rfl,hc⟩ | ⟨hx1,hc⟩
   ·have sl:=uh SL fr pos hfr hpl0
    rw[hlast] at sl
    have hcut:cutS (l.take (pos+1))=((cutS (l.take pos)).1++[(cutS (l.take pos)).2],[]):=by
     rw[List.take_succ_eq_append_getElem hpl,hc,zk2];rfl
    obtain ⟨D,hD⟩:∃ D,D=(cutS (l.take pos)).1:=⟨_,rfl⟩
    obtain ⟨C,hC⟩:∃ C,C=(cutS (l.take pos)).2:=⟨_,rfl⟩
    have hDn:D.length≤1000000:=by
     have h1:=zda (l.take pos)
     rw[← zf0,← hD,List.length_append,List.length_take_of_le hpl0] at h1
     have:=uh HL
     omega
    rw[← hC] at sl
    rw[← hD] at hown2
    rw[← hD,← hC] at hcut
    obtain ⟨HD,HC⟩:=zh2 hDn hcut
    obtain ⟨WI,hWI⟩:∃ WI,WI=wr.iterAt w.heap.size S (pos+1):=⟨_,rfl⟩
    rw[← hWI] at hnx hg2 hown2 HI
    obtain ⟨Wa,hWa,hca,ga⟩:=zia WI C
    have hownA:=hown2.kept ga
    have hgA:=tn hg2 ga
    clear hlast hC hD hcut hDn hF hc hown2
    obtain ⟨HW,HWI⟩:=zh2 hWa hWI
    clear hWa hWI
    go_wp2_with (at_builtin;rw[← uh HW];refine zb4 rfl _ _ rfl w.heap.size _ D C WI.heap.size rfl hownA rfl hca (uh HD) hgA.size ?_)
    intro v' w3 hown3 g3
    have hit3:w3.heap[w.heap.size]? = some (.stringIter S (pos+1)):=by
     have h1:=uh HI
     have hlt2:w.heap.size<WI.heap.size:=(Array.getElem?_eq_some_iff.1 h1).1
     have h2:Wa.heap[w.heap.size]? = some (.stringIter S (pos+1)):=by rw[ga.block _ hlt2 (by simp)];exact h1
     rw[g3.block _ (Nat.lt_of_lt_of_le hlt2 ga.size) (fun e=>znx hownA h2 e.symm)]
     exact h2
    have hg3:w.grownBy w3 none:=zae hgA g3 (fun x e=>Or.inl (hownA.lt x e).1)
    go_wp2
    go_roundw
    case rel=>exact ⟨pos+1,pos+1,(uh HG).2,by go_num,by rw[uh HC];exact rfl,by rw[uh HC];exact hown3,hit3,hg3⟩
    case measure =>
     have h3:=uh HI0
     simp only[World.iterPos,hit3,h3]
     omega
   ·have hcut:cutS (l.take (pos+m))=((cutS (l.take pos)).1,(cutS (l.take pos)).2++(l.drop pos).take m):=by
     rw[zq1,zos _ _ hc]
    have hml:((l.drop pos).take m).length=m:=by
     have h1:=(uh HG).2
     have h2:=uh HN
     rw[List.length_take,List.length_drop];omega
    have q1:((x:Int) == 47)=false:=by simp;omega
    obtain ⟨HC,HM⟩:=zh2 hcut hml
    clear hcut hml hc hx1 hlast
    go_wp2
    go_roundw
    case rel =>
     refine ⟨pos+m,fr,(uh HG).2,rfl,?_,by rw[uh HC];exact hown2,uh HI,hg2⟩
     rw[uh HC,List.length_append,uh HM,← Nat.add_assoc,hF.out]
     exact rfl
    case measure =>
     have h1:=(uh HG).1
     have h2:=uh HI
     have h3:=uh HI0
     simp only[World.iterPos,h2,h3]
     omega
  ·have hnx:∀ ty,(Instr.next (.pointer (some ⟨w.heap.size,0,none⟩)) true ty).run Tryz.prog wr=_:=fun ty=>Lib.run_next_end_at wr w.heap.size S pos ty hit (by rw[hsz];exact hlt)
   have hpe:pos=l.length:=by have:=uh HN;omega
   have sf:=uh SF fr (by omega)
   have htk:l.take pos=l:=by rw[hpe,List.take_length]
   have hC:l.drop fr=(cutS l).2:=by
    rw[htk] at hlast
    rw[← hlast,List.take_of_length_le (by rw[List.length_drop];omega)]
   rw[htk] at hown
   rw[hC] at sf
   have hcp:=zf0 l
   obtain ⟨D,hD⟩:∃ D,D=(cutS l).1:=⟨_,rfl⟩
   obtain ⟨C,hC2⟩:∃ C,C=(cutS l).2:=⟨_,rfl⟩
   rw[← hD,← hC2] at hcp
   rw[← hD] at hown
   rw[← hC2] at sf
   have hDn:D.length≤1000000:=by
    have h1:=zda l
    rw[← hcp,List.length_append] at h1
    have:=uh HL
    omega
   obtain ⟨HD,HC⟩:=zh2 hDn hcp
   obtain ⟨Wa,hWa,hca,ga⟩:=zia wr C
   have hownA:=hown.kept ga
   have hgA:=tn hg ga
   have HW:=hide hWa
   clear hWa hlast hcl hF hpe htk hC hcp hD hC2 hDn hown
   go_wp2_with (at_builtin;rw[← uh HW];refine zb4 rfl _ _ rfl w.heap.size _ D C wr.heap.size rfl hownA rfl hca (uh HD) hgA.size ?_)
   intro v' w3 hown3 g3
   have hg3:w.grownBy w3 none:=zae hgA g3 (fun x e=>Or.inl (hownA.lt x e).1)
   go_wp2
   go_ret
   exact ⟨_,rfl,by rw[← uh HC];exact hown3,hg3⟩
set_option maxHeartbeats 1000000 in
theorem zrg (w:World) (l:List UInt8) (hl:l.length≤100000):Calls Tryz.prog 157 #[.string (str l)] w fun e w'=>e = .returned (.bool (zce l))∧w.grownBy w' none:=by
 obtain ⟨S,hS⟩:∃ S,S=str l:=⟨_,rfl⟩
 obtain ⟨n,hn⟩:∃ n,n=l.length:=⟨_,rfl⟩
 have hsz:S.size=n:=by rw[hS,zao,hn]
 obtain ⟨b1,hb1⟩:∃ b,b=(l == []):=⟨_,rfl⟩
 obtain ⟨b2,hb2⟩:∃ b,b=(l == [46]):=⟨_,rfl⟩
 obtain ⟨b3,hb3⟩:∃ b,b=(l == [46,46]):=⟨_,rfl⟩
 obtain ⟨LL,hLL⟩:∃ L,L=S.toList:=⟨_,rfl⟩
 have hLl:LL=l:=by rw[hLL,hS,za5]
 have e1:LL.isEmpty=b1:=by rw[hLl,hb1];cases l <;> rfl
 have e2:(LL == [46])=b2:=by rw[hLl,hb2]
 have e3:(LL == [46,46])=b3:=by rw[hLl,hb3]
 have hP:zce l=(!b1 && decide (n≤64) && !b2 && !b3 && l.all zcg):=by rw[znv,hb1,hb2,hb3,hn]
 have ix:∀ (p:Nat) (hp:p<l.length) (n:Nat),n=l[p].toNat→∀ W,(Instr.index 9 (.string S) (.int .i64 (p:Int))).run Tryz.prog W = .ok (.int .u8 (n:Int)) W:=fun p hp n hn W=>by rw[hS];exact zhv l p n hp hn W
 rw[← hS]
 have hT:=hLL.symm
 obtain ⟨HN,HL,HP,IX⟩:=zh4 hn hl hP ix
 clear hS hn hl hb1 hb2 hb3 hLL hLl hP ix
 cases b1
 ·have n1:¬ LL=[]:=by simpa using e1
  cases b2
  ·have n2:¬ LL=[46]:=by simpa using e2
   cases b3
   ·have n3:¬ LL=[46,46]:=by simpa using e3
    by_cases h64:n≤64
    ·have h64i:¬ (64:Int)<(n:Int):=by omega
     have hP2:zce l=l.all zcg:=by rw[uh HP];simp[h64]
     have HP2:=hide hP2
     clear HP hP2
     go_enter Tryz.func157,Tryz.ntmps157
     go_wp2
     clear n1 n2 n3 e1 e2 e3 hT
     go_loop [3] (fun i=>∃ pos:Nat,pos≤n∧i = .int .i64 pos∧Hid ((l.drop pos).all zcg=l.all zcg)) (fun i=>n - (intOf i).toNat)
     case atStart=>exact ⟨0,Nat.zero_le _,rfl,by exact rfl⟩
     case round =>
      obtain ⟨pos,hpn,rfl,hD⟩:=hrel
      by_cases hlt:pos<n
      ·have hpl:pos<l.length:=by rw[← uh HN];exact hlt
       obtain ⟨x,hx⟩:∃ x,x=l[pos].toNat:=⟨_,rfl⟩
       have ix:=uh IX pos hpl x hx
       have hlti:(pos:Int)<(n:Int):=by omega
       have hf:=znw (f:=zcg) hpl
       rw[zla,← hx,hD.out] at hf
       clear hx hD
       by_cases h47:x=47
       ·subst h47
        have HR:=hide (show zce l=false by rw[uh HP2,hf];rfl)
        clear hf
        go_wp2
        go_ret
        exact ⟨by rw[uh HR];rfl,zab _ _⟩
       ·have q1:((x:Int) == 47)=false:=by simp;omega
        by_cases h0:x=0
        ·subst h0
         have HR:=hide (show zce l=false by rw[uh HP2,hf];rfl)
         clear hf
         go_wp2
         go_ret
         exact ⟨by rw[uh HR];rfl,zab _ _⟩
        ·have q2:((x:Int) == 0)=false:=by simp;omega
         have HF:=hide (show (l.drop (pos+1)).all zcg=l.all zcg by rw[hf,q1,q2];rfl)
         clear hf h47 h0
         go_wp2
         go_round
         case rel=>exact ⟨pos+1,by omega,by go_num,HF⟩
         case measure=>simp[intOf];omega
      ·have hlti:¬ (pos:Int)<(n:Int):=by omega
       have HR:=hide (show zce l=true by rw[uh HP2,← hD.out,List.drop_eq_nil_of_le (by rw[← uh HN];omega)];rfl)
       clear hD
       go_wp2
       go_ret
       exact ⟨by rw[uh HR];rfl,zab _ _⟩
    ·have h64i:(64:Int)<(n:Int):=by omega
     have HR:=hide (show zce l=false by rw[uh HP];simp[h64])
     clear HP
     go_enter Tryz.func157,Tryz.ntmps157
     go_wp2
     go_ret
     exact ⟨by rw[uh HR];rfl,zab _ _⟩
   ·have n3:LL=[46,46]:=by simpa using e3
    have HR:=hide (show zce l=false by rw[uh HP];simp)
    clear HP
    go_enter Tryz.func157,Tryz.ntmps157
    go_wp2
    go_ret
    exact ⟨by rw[uh HR];rfl,zab _ _⟩
  ·have HR:=hide (show zce l=false by rw[uh HP];simp)
   have n2:LL=[46]:=by simpa using e2
   clear HP
   go_enter Tryz.func157,Tryz.ntmps157
   go_wp2
   go_ret
   exact ⟨by rw[uh HR];rfl,zab _ _⟩
 ·have HR:=hide (show zce l=false by rw[uh HP];rfl)
  have n1:LL=[]:=by simpa using e1
  clear HP
  go_enter Tryz.func157,Tryz.ntmps157
  go_wp2
  go_ret
  exact ⟨by rw[uh HR];rfl,zab _ _⟩
end Go.Proofs.YthhnfloohbdaiaaGreatDoor
