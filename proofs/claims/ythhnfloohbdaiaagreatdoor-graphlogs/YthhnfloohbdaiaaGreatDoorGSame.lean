/- Lemmas. -/
import Derived.Test.YthhnfloohbdaiaaGreatDoorMTk
import Derived.Test.YthhnfloohbdaiaaGreatDoorRGHas
import Derived.Deep.RegionHeld3
import Derived.Deep.DrawnRows
import Derived.Deep.DeepCutAuto
namespace Go.Proofs.YthhnfloohbdaiaaGreatDoor
open Go.RowKit
set_option maxRecDepth 100000 in
set_option maxHeartbeats 4000000 in
theorem ztu (w:World) (a0 b0:Nat) (ao bo:Option Addr) (ac bc:Nat) (A B:List (List UInt8)) (hA:Stl w a0 ao ac A) (hB:Stl w b0 bo bc B) (hm:A.length≤1000000):Calls Tryz.prog 17 #[.slice ao A.length ac,.slice bo B.length bc] w fun e w'=>e = .returned (.bool (decide (A=B)))∧w.grownBy w' none:=by
 obtain ⟨n,hn⟩:∃ n,n=A.length:=⟨_,rfl⟩
 obtain ⟨m,hmm⟩:∃ n,n=B.length:=⟨_,rfl⟩
 obtain ⟨R,hR⟩:∃ R,R=decide (A=B):=⟨_,rfl⟩
 rw[← hn,← hmm,← hR]
 by_cases hl:n=m
 ·have HA:=hide hA
  obtain ⟨HB,HN⟩:=zh2 hB hn
  have HM:Hid (n=B.length):=by rw[hl];exact hmm
  have HR:=hide hR
  have hn9:n≤1000000:=by omega
  clear hA hB hn hmm hR hm
  subst hl
  go_enter Tryz.func17,Tryz.ntmps17
  go_wp2
  go_loopw [5] (fun i wr=>∃ j:Nat,i = .int .i64 j∧j≤n∧Hid (A.take j=B.take j)∧w.grownBy wr none) (fun i _=>n - (intOf i).toNat)
  case atStart=>exact ⟨0,rfl,Nat.zero_le _,rfl,zab _ _⟩
  case round =>
   obtain ⟨j,rfl,hj,HE,hg⟩:=hrel
   by_cases hlt:j<n
   ·have hla:j<A.length:=by have:=uh HN;omega
    have hlb:j<B.length:=by have:=uh HM;omega
    obtain ⟨x,hxo,hcx⟩:=(uh HA).at j hla
    obtain ⟨y,hyo,hcy⟩:=(uh HB).at j hlb
    have hta:=List.take_succ_eq_append_getElem hla
    have htb:=List.take_succ_eq_append_getElem hlb
    have hne:A[j]≠B[j]→A≠B:=fun h e=>h (by subst e;rfl)
    obtain ⟨F,hF⟩:∃ F,F=A[j]:=⟨_,rfl⟩
    obtain ⟨G,hG⟩:∃ F,F=B[j]:=⟨_,rfl⟩
    rw[← hF] at hcx hta hne
    rw[← hG] at hcy htb hne
    obtain ⟨TF,hTF⟩:∃ T,T=str F:=⟨_,rfl⟩
    obtain ⟨TG,hTG⟩:∃ T,T=str G:=⟨_,rfl⟩
    rw[← hTF] at hcx
    rw[← hTG] at hcy
    have hLF:TF.toList=F:=by rw[hTF,za5]
    have hLG:TG.toList=G:=by rw[hTG,za5]
    have h0:w.grownBy wr.drew none:=zak hg
    subst hxo hyo
    by_cases hFG:F=G
    ·have hTT:TF=TG:=by rw[hTF,hTG,hFG]
     have hnew:A.take (j+1)=B.take (j+1):=by rw[hta,htb,uh HE,hFG]
     have HNW:=hide hnew
     subst hTT
     clear hLF hLG hTF hTG hta htb hne hFG hnew hF hG hla hlb
     go_upto_region 6 with fail
     refine wp_region_noPanic ?_
     refine wp_region_held_drew (S:=fun V=>w.grownBy V none) (by kernel_rfl) h0 (fun _ => ?_)
     refine tq 0 17 (.move (.tmp 0)) (.slice (some ⟨x,0,none⟩) n ac) h0 ?_
     refine tq 1 18 (.move (.tmp 5)) (.int .i64 (j:Int)) h0 ?_
     refine tq 2 19 (.indexAddr 25 (.tmp 17) (.tmp 18)) (.pointer (some ⟨x,j,none⟩)) h0 ?_
     refine tz 3 20 (.load 9 (.tmp 19)) (.string TF) h0 ?_ (y:=(Or.inl ⟨by rfl,fun V hV=>by (have q9:=hV.cell hcx (by simp);go_simp)⟩))
     (try simp only[pq])
     refine tq 4 21 (.move (.tmp 1)) (.slice (some ⟨y,0,none⟩) n bc) h0 ?_
     refine tq 5 22 (.move (.tmp 5)) (.int .i64 (j:Int)) h0 ?_
     refine tq 6 23 (.indexAddr 25 (.tmp 21) (.tmp 22)) (.pointer (some ⟨y,j,none⟩)) h0 ?_
     refine tz 7 24 (.load 9 (.tmp 23)) (.string TF) h0 ?_ (y:=(Or.inl ⟨by rfl,fun V hV=>by (have q9:=hV.cell hcy (by simp);go_simp)⟩))
     (try simp only[pq])
     refine tq 8 25 (.binOp .neq 9 (.tmp 20) (.tmp 24) 9) (.bool false) h0 ?_
     (try simp only[pq])
     refine wpAnyH_done (by kernel_rfl) ?_ _
     refine NoPanic.normal ?_
     go_wp2
     go_roundw
     case rel=>exact ⟨j+1,by go_num,by omega,HNW,h0⟩
     case measure=>simp[intOf];omega
    ·have h1:¬ TF.toList=TG.toList:=by rw[hLF,hLG];exact hFG
     have h2:(F == G)=false:=by simpa using hFG
     have hRf:R=false:=by rw[uh HR];exact decide_eq_false (hne hFG)
     subst hRf
     clear hTF hTG hta htb hne hF hG hla hlb
     go_upto_region 6 with fail
     refine wp_region_noPanic ?_
     refine wp_region_held_drew (S:=fun V=>w.grownBy V none) (by kernel_rfl) h0 (fun _ => ?_)
     refine tq 0 17 (.move (.tmp 0)) (.slice (some ⟨x,0,none⟩) n ac) h0 ?_
     refine tq 1 18 (.move (.tmp 5)) (.int .i64 (j:Int)) h0 ?_
     refine tq 2 19 (.indexAddr 25 (.tmp 17) (.tmp 18)) (.pointer (some ⟨x,j,none⟩)) h0 ?_
     refine tz 3 20 (.load 9 (.tmp 19)) (.string TF) h0 ?_ (y:=(Or.inl ⟨by rfl,fun V hV=>by (have q9:=hV.cell hcx (by simp);go_simp)⟩))
     (try simp only[pq])
     refine tq 4 21 (.move (.tmp 1)) (.slice (some ⟨y,0,none⟩) n bc) h0 ?_
     refine tq 5 22 (.move (.tmp 5)) (.int .i64 (j:Int)) h0 ?_
     refine tq 6 23 (.indexAddr 25 (.tmp 21) (.tmp 22)) (.pointer (some ⟨y,j,none⟩)) h0 ?_
     refine tz 7 24 (.load 9 (.tmp 23)) (.string TG) h0 ?_ (y:=(Or.inl ⟨by rfl,fun V hV=>by (have q9:=hV.cell hcy (by simp);go_simp)⟩))
     (try simp only[pq])
     refine tq 8 25 (.binOp .neq 9 (.tmp 20) (.tmp 24) 9) (.bool true) h0 ?_
     (try simp only[pq])
     refine wpAnyH_done (by kernel_rfl) ?_ _
     refine NoPanic.normal ?_
     go_wp2
     go_ret
     exact ⟨rfl,h0⟩
   ·have hRt:R=true:=by
     rw[uh HR]
     have h1:=uh HE
     rw[List.take_of_length_le (by have:=uh HN;omega),List.take_of_length_le (by have:=uh HM;omega)] at h1
     exact decide_eq_true h1
    subst hRt
    go_wp2
    go_ret
    exact ⟨rfl,hg⟩
 ·have hRf:R=false:=by rw[hR];exact decide_eq_false (fun e=>hl (by rw[hn,hmm,e]))
  have h1:¬ (n:Int)=(m:Int):=by omega
  have h2:((n:Int) == (m:Int))=false:=by simpa using h1
  subst hRf
  clear hR hn hmm hA hB
  go_enter Tryz.func17,Tryz.ntmps17
  go_wp2
  go_ret
  exact ⟨rfl,zab _ _⟩
end Go.Proofs.YthhnfloohbdaiaaGreatDoor
