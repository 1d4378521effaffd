/- Lemmas. -/
import Derived.Test.YtlifmipnoeioaaaGreatDoorNLetR
import Derived.Test.YtlifmipnoeioaaaGreatDoorMBlk
import Derived.Test.YtlifmipnoeioaaaGreatDoorMGrd
import Derived.Lib.OthersKept
namespace Go.Proofs.YtlifmipnoeioaaaGreatDoor
open Go.RowKit
theorem gb_iterAt {w a:World} {r:Option Nat} (h:w.grownBy a r) (k:Nat) (s:ByteArray) (p:Nat) (hk:w.heap.size≤k∨r=some k):w.grownBy (a.iterAt k s p) r :=
 gb_trans h (s:=some k) ⟨rfl,rfl,rfl,by simp [World.iterAt],fun j _ hne=>Lib.iterAt_other a k j s p (fun e=>hne (by rw [e]))⟩ (fun x e=>by cases e;exact hk)
def plainB (c:UInt8):Bool := !(c == 47) && !(c == 0)
theorem plain_wide {c:UInt8} (h:128≤c.toNat):plainB c=true:=by
 have h1:¬ c=47:=fun e=>by subst e;revert h;decide
 have h2:¬ c=0:=fun e=>by subst e;revert h;decide
 simp [plainB,h1,h2]
theorem plain_nat (c:UInt8):plainB c=(!(((c.toNat:Nat):Int) == 47) && !(((c.toNat:Nat):Int) == 0)):=by
 have h1:(c == 47)=(((c.toNat:Nat):Int) == 47):=by
  rw [Bool.eq_iff_iff];simp only [beq_iff_eq]
  rw [← UInt8.toNat_inj,show (47:UInt8).toNat=47 from rfl];omega
 have h2:(c == 0)=(((c.toNat:Nat):Int) == 0):=by
  rw [Bool.eq_iff_iff];simp only [beq_iff_eq]
  rw [← UInt8.toNat_inj,show (0:UInt8).toNat=0 from rfl];omega
 rw [plainB,h1,h2]
theorem partB_eq (p:List UInt8):partB p=(!(p == []) && decide (p.length≤64) && !(p == [46]) && !(p == [46,46]) && p.all plainB):=rfl
theorem all_drop {l:List UInt8} {f:UInt8→Bool} {k:Nat} (h:k<l.length):(l.drop k).all f=(f l[k] && (l.drop (k+1)).all f):=by
 rw [List.drop_eq_getElem_cons h,List.all_cons]
theorem all_wide {l:List UInt8} {k n:Nat} (h:∀ c∈(l.drop k).take n,128≤c.toNat):(l.drop k).all plainB=(l.drop (k+n)).all plainB:=by
 conv=>lhs;rw [← List.take_append_drop n (l.drop k)]
 rw [List.all_append,List.drop_drop]
 have:((l.drop k).take n).all plainB=true:=List.all_eq_true.2 fun c hc=>plain_wide (h c hc)
 rw [this,Bool.true_and]
set_option maxRecDepth 100000 in
set_option maxHeartbeats 1000000 in
theorem part_any (w:World) (l:List UInt8) (hl:l.length≤100000):Calls Tryz.prog 92 #[.string (str l)] w fun e w'=>e = .returned (.bool (partB l))∧w.grownBy w' none:=by
 obtain ⟨S,hS⟩:∃ S,S=str l:=⟨_,rfl⟩
 obtain ⟨n,hn⟩:∃ n,n=l.length:=⟨_,rfl⟩
 have hsz:S.size=n:=by rw [hS,str_size,hn]
 obtain ⟨b1,hb1⟩:∃ b,b=(l == []):=⟨_,rfl⟩
 obtain ⟨b2,hb2⟩:∃ b,b=(l == [46]):=⟨_,rfl⟩
 obtain ⟨b3,hb3⟩:∃ b,b=(l == [46,46]):=⟨_,rfl⟩
 obtain ⟨LL,hLL⟩:∃ L,L=S.toList:=⟨_,rfl⟩
 have hLl:LL=l:=by rw [hLL,hS,str_list]
 have e1:LL.isEmpty=b1:=by rw [hLl,hb1];cases l <;> rfl
 have e2:(LL == [46])=b2:=by rw [hLl,hb2]
 have e3:(LL == [46,46])=b3:=by rw [hLl,hb3]
 have hP:partB l=(!b1 && decide (n≤64) && !b2 && !b3 && l.all plainB):=by rw [partB_eq,hb1,hb2,hb3,hn]
 rw [← hS]
 have hT:=hLL.symm
 obtain ⟨HS,HN,HL,HP⟩:=zh4 hS hn hl hP
 clear hS hn hl hb1 hb2 hb3 hLL hLl hP
 cases b1
 ·have n1:¬ LL=[]:=by simpa using e1
  by_cases h64:n≤64
  ·have h64i:¬ (64:Int)<(n:Int):=by omega
   cases b2
   ·have n2:¬ LL=[46]:=by simpa using e2
    cases b3
    ·have n3:¬ LL=[46,46]:=by simpa using e3
     have hP2:partB l=l.all plainB:=by rw [uh HP];simp [h64]
     have HP2:=hide hP2
     clear HP hP2
     go_enter Tryz.func92,Tryz.ntmps92
     go_wp2
     clear n1 n2 n3 e1 e2 e3 hT
     go_loopw [4] (fun _ wr=>∃ pos:Nat,pos≤n∧Hid ((l.drop pos).all plainB=l.all plainB)∧wr.heap[w.heap.size]? = some (.stringIter S pos)∧w.grownBy wr none) (fun _ wr=>n - wr.iterPos w.heap.size)
     case atStart=>exact ⟨0,Nat.zero_le _,by exact rfl,World.iter_heap _ _ _,gb_alloc (gb_refl _ _) _⟩
     case round =>
      obtain ⟨pos,hpn,hD,hit,hg⟩:=hrel
      by_cases hlt:pos<n
      ·have hpl:pos<l.length:=by rw [← uh HN];exact hlt
       have hnx:∀ ty,(Instr.next (.pointer (some ⟨w.heap.size,0,none⟩)) true ty).run Tryz.prog wr=_:=fun ty=>Lib.run_next_any_at wr w.heap.size S pos ty hit (by rw [hsz];exact hlt)
       obtain ⟨x,hx⟩:∃ x,x=(Utf8.decode S pos).1:=⟨_,rfl⟩
       obtain ⟨m,hm⟩:∃ m,m=(Utf8.decode S pos).2:=⟨_,rfl⟩
       rw [← hx,← hm] at hnx
       have hat:=letter_at l pos hpl
       rw [← uh HS,← hx,← hm] at hat
       have hgo:1≤m∧pos+m≤n:=by
        rcases hat with ⟨_,e⟩ | ⟨_,_,h3,h4,_⟩
        ·have:(Utf8.decode S pos).2=1:=by rw [e]
         omega
        ·have:=uh HN;omega
       have hxx:((l.drop pos).all plainB=false∧(x=47∨x=0))∨((l.drop pos).all plainB=(l.drop (pos+m)).all plainB∧x≠47∧x≠0):=by
        rcases hat with ⟨h1,e⟩ | ⟨_,h2,_,_,h5⟩
        ·have e1:x=l[pos].toNat:=by rw [hx,e]
         have e2:m=1:=by rw [hm,e]
         subst e2
         rw [all_drop hpl,plain_nat,← e1]
         by_cases h47:x=47
         ·left;exact ⟨by rw [h47];rfl,Or.inl h47⟩
         ·by_cases h0:x=0
          ·left;exact ⟨by rw [h0];rfl,Or.inr h0⟩
          ·right
           refine ⟨?_,h47,h0⟩
           have q1:((x:Int) == 47)=false:=by simp;omega
           have q2:((x:Int) == 0)=false:=by simp;omega
           rw [q1,q2];rfl
        ·right
         exact ⟨all_wide h5,by omega,by omega⟩
       have hit2:=Lib.iterAt_heap wr w.heap.size S pos (pos+m) hit
       have hg2:=gb_iterAt hg w.heap.size S (pos+m) (Or.inl (Nat.le_refl _))
       obtain ⟨HG,HI,HI0⟩:=zh3 hgo hit2 hit
       clear hat hx hm hgo hit hit2
       rcases hxx with ⟨hf,hx⟩ | ⟨hf,hx1,hx2⟩
       ·have HR:Hid (partB l=false):=by rw [uh HP2,← hD.out,hf];exact rfl
        clear hf hD
        rcases hx with rfl | rfl
        all_goals
         go_wp2
         go_ret
         exact ⟨by rw [uh HR];rfl,hg2⟩
       ·have q1:((x:Int) == 47)=false:=by simp;omega
        have q2:((x:Int) == 0)=false:=by simp;omega
        have HF:Hid ((l.drop (pos+m)).all plainB=l.all plainB):=by rw [← hf];exact hD
        clear hf hx1 hx2 hD
        go_wp2
        go_roundw
        case rel=>exact ⟨pos+m,(uh HG).2,HF,uh HI,hg2⟩
        case measure =>
         have h1:=(uh HG).1
         have h2:=uh HI
         have h3:=uh HI0
         simp only [World.iterPos,h2,h3]
         omega
      ·have hnx:∀ ty,(Instr.next (.pointer (some ⟨w.heap.size,0,none⟩)) true ty).run Tryz.prog wr=_:=fun ty=>Lib.run_next_end_at wr w.heap.size S pos ty hit (by rw [hsz];exact hlt)
       have HR:Hid (partB l=true):=by
        rw [uh HP2,← hD.out,List.drop_eq_nil_of_le (by rw [← uh HN];omega)]
        exact rfl
       clear hD
       go_wp2
       go_ret
       exact ⟨by rw [uh HR];rfl,hg⟩
    ·have n3:LL=[46,46]:=by simpa using e3
     have HR:=hide (show partB l=false by rw [uh HP];simp)
     clear HP
     go_enter Tryz.func92,Tryz.ntmps92
     go_wp2
     go_ret
     exact ⟨by rw [uh HR];rfl,gb_refl _ _⟩
   ·have HR:=hide (show partB l=false by rw [uh HP];simp)
    have n2:LL=[46]:=by simpa using e2
    clear HP
    go_enter Tryz.func92,Tryz.ntmps92
    go_wp2
    go_ret
    exact ⟨by rw [uh HR];rfl,gb_refl _ _⟩
  ·have h64i:(64:Int)<(n:Int):=by omega
   have HR:=hide (show partB l=false by rw [uh HP];simp [h64])
   clear HP
   go_enter Tryz.func92,Tryz.ntmps92
   go_wp2
   go_ret
   exact ⟨by rw [uh HR];rfl,gb_refl _ _⟩
 ·have HR:Hid (partB l=false):=by rw [uh HP];exact rfl
  have n1:LL=[]:=by simpa using e1
  clear HP
  go_enter Tryz.func92,Tryz.ntmps92
  go_wp2
  go_ret
  exact ⟨by rw [uh HR];rfl,gb_refl _ _⟩
end Go.Proofs.YtlifmipnoeioaaaGreatDoor

/- Lemmas. -/
namespace Go.Proofs.YtlifmipnoeioaaaGreatDoor
open Go.RowKit
set_option maxRecDepth 100000 in
set_option maxHeartbeats 1000000 in
theorem rpart_any (w:World) (l:List UInt8) (hl:l.length≤100000):Calls Tryz.prog 153 #[.string (str l)] w fun e w'=>e = .returned (.bool (partB l))∧w.grownBy w' none:=by
 obtain ⟨S,hS⟩:∃ S,S=str l:=⟨_,rfl⟩
 obtain ⟨n,hn⟩:∃ n,n=l.length:=⟨_,rfl⟩
 have hsz:S.size=n:=by rw [hS,str_size,hn]
 obtain ⟨b1,hb1⟩:∃ b,b=(l == []):=⟨_,rfl⟩
 obtain ⟨b2,hb2⟩:∃ b,b=(l == [46]):=⟨_,rfl⟩
 obtain ⟨b3,hb3⟩:∃ b,b=(l == [46,46]):=⟨_,rfl⟩
 obtain ⟨LL,hLL⟩:∃ L,L=S.toList:=⟨_,rfl⟩
 have hLl:LL=l:=by rw [hLL,hS,str_list]
 have e1:LL.isEmpty=b1:=by rw [hLl,hb1];cases l <;> rfl
 have e2:(LL == [46])=b2:=by rw [hLl,hb2]
 have e3:(LL == [46,46])=b3:=by rw [hLl,hb3]
 have hP:partB l=(!b1 && decide (n≤64) && !b2 && !b3 && l.all plainB):=by rw [partB_eq,hb1,hb2,hb3,hn]
 have ix:∀ (p:Nat) (hp:p<l.length) (n:Nat),n=l[p].toNat→∀ W,(Instr.index 9 (.string S) (.int .i64 (p:Int))).run Tryz.prog W = .ok (.int .u8 (n:Int)) W:=fun p hp n hn W=>by rw [hS];exact idx_str l p n hp hn W
 rw [← hS]
 have hT:=hLL.symm
 obtain ⟨HN,HL,HP,IX⟩:=zh4 hn hl hP ix
 clear hS hn hl hb1 hb2 hb3 hLL hLl hP ix
 cases b1
 ·have n1:¬ LL=[]:=by simpa using e1
  cases b2
  ·have n2:¬ LL=[46]:=by simpa using e2
   cases b3
   ·have n3:¬ LL=[46,46]:=by simpa using e3
    by_cases h64:n≤64
    ·have h64i:¬ (64:Int)<(n:Int):=by omega
     have hP2:partB l=l.all plainB:=by rw [uh HP];simp [h64]
     have HP2:=hide hP2
     clear HP hP2
     go_enter Tryz.func153,Tryz.ntmps153
     go_wp2
     clear n1 n2 n3 e1 e2 e3 hT
     go_loop [3] (fun i=>∃ pos:Nat,pos≤n∧i = .int .i64 pos∧Hid ((l.drop pos).all plainB=l.all plainB)) (fun i=>n - (intOf i).toNat)
     case atStart=>exact ⟨0,Nat.zero_le _,rfl,by exact rfl⟩
     case round =>
      obtain ⟨pos,hpn,rfl,hD⟩:=hrel
      by_cases hlt:pos<n
      ·have hpl:pos<l.length:=by rw [← uh HN];exact hlt
       obtain ⟨x,hx⟩:∃ x,x=l[pos].toNat:=⟨_,rfl⟩
       have ix:=uh IX pos hpl x hx
       have hlti:(pos:Int)<(n:Int):=by omega
       have hf:=all_drop (f:=plainB) hpl
       rw [plain_nat,← hx,hD.out] at hf
       clear hx hD
       by_cases h47:x=47
       ·subst h47
        have HR:=hide (show partB l=false by rw [uh HP2,hf];rfl)
        clear hf
        go_wp2
        go_ret
        exact ⟨by rw [uh HR];rfl,gb_refl _ _⟩
       ·have q1:((x:Int) == 47)=false:=by simp;omega
        by_cases h0:x=0
        ·subst h0
         have HR:=hide (show partB l=false by rw [uh HP2,hf];rfl)
         clear hf
         go_wp2
         go_ret
         exact ⟨by rw [uh HR];rfl,gb_refl _ _⟩
        ·have q2:((x:Int) == 0)=false:=by simp;omega
         have HF:=hide (show (l.drop (pos+1)).all plainB=l.all plainB by rw [hf,q1,q2];rfl)
         clear hf h47 h0
         go_wp2
         go_round
         case rel=>exact ⟨pos+1,by omega,by go_num,HF⟩
         case measure=>simp [intOf];omega
      ·have hlti:¬ (pos:Int)<(n:Int):=by omega
       have HR:=hide (show partB l=true by rw [uh HP2,← hD.out,List.drop_eq_nil_of_le (by rw [← uh HN];omega)];rfl)
       clear hD
       go_wp2
       go_ret
       exact ⟨by rw [uh HR];rfl,gb_refl _ _⟩
    ·have h64i:(64:Int)<(n:Int):=by omega
     have HR:=hide (show partB l=false by rw [uh HP];simp [h64])
     clear HP
     go_enter Tryz.func153,Tryz.ntmps153
     go_wp2
     go_ret
     exact ⟨by rw [uh HR];rfl,gb_refl _ _⟩
   ·have n3:LL=[46,46]:=by simpa using e3
    have HR:=hide (show partB l=false by rw [uh HP];simp)
    clear HP
    go_enter Tryz.func153,Tryz.ntmps153
    go_wp2
    go_ret
    exact ⟨by rw [uh HR];rfl,gb_refl _ _⟩
  ·have HR:=hide (show partB l=false by rw [uh HP];simp)
   have n2:LL=[46]:=by simpa using e2
   clear HP
   go_enter Tryz.func153,Tryz.ntmps153
   go_wp2
   go_ret
   exact ⟨by rw [uh HR];rfl,gb_refl _ _⟩
 ·have HR:=hide (show partB l=false by rw [uh HP];rfl)
  have n1:LL=[]:=by simpa using e1
  clear HP
  go_enter Tryz.func153,Tryz.ntmps153
  go_wp2
  go_ret
  exact ⟨by rw [uh HR];rfl,gb_refl _ _⟩
end Go.Proofs.YtlifmipnoeioaaaGreatDoor
