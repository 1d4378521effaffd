/- Lemmas. -/
import Derived.Test.YtlifmipnoeioaaaGreatDoorNKind
import Derived.Test.YtlifmipnoeioaaaGreatDoorNGoodR
import Derived.Test.YtlifmipnoeioaaaGreatDoorNRefP
namespace Go.Proofs.YtlifmipnoeioaaaGreatDoor
open Go.RowKit
set_option maxRecDepth 100000 in
set_option maxHeartbeats 2000000 in
theorem rkind_any (w:World) (l:List UInt8) (hl:l.length≤100000):Calls Tryz.prog 155 #[.string (str l)] w fun e w'=>e = .returned (.int .i64 (kindL l))∧w.grownBy w' none:=by
 have c1:=rparts_any w l hl
 have hcnt:=slashL_count l
 have hple:=slashL_len l
 obtain ⟨n,hn⟩:∃ n,n=l.length:=⟨_,rfl⟩
 have hsz:(str l).size=n:=by rw [str_size,hn]
 have hK:kindL l=if n≤64∧(slashL l).all goodL=true then (if (decide (1<(slashL l).length) && ((slashL l).getD 0 [] == headsL))=true then 1 else if (decide (1<(slashL l).length) && ((slashL l).getD 0 [] == tagsL))=true then 2 else 0) else 0:=by
  rw [hn,← kind_pre l headsL (by decide),← kind_pre l tagsL (by decide)];rfl
 obtain ⟨S,hS⟩:∃ S,S=str l:=⟨_,rfl⟩
 obtain ⟨L,hL⟩:∃ L,L=slashL l:=⟨_,rfl⟩
 rw [← hS] at c1 hsz ⊢
 rw [← hL] at c1 hcnt hple hK
 obtain ⟨HK,HL,HCN,HPL⟩:=zh4 hK hl hcnt hple
 clear hS hl hcnt hple hL hK hn
 by_cases h64:n≤64
 ·have h64i:¬ (64:Int)<(n:Int):=by omega
  go_enter Tryz.func155,Tryz.ntmps155
  go_wp2_with fail
  refine c1.mono ?_
  rintro e w1 ⟨v1,rfl,hv1,g1⟩
  clear c1
  obtain ⟨ao,c,rfl,hs1⟩:=hv1.open
  obtain ⟨q,hq⟩:∃ q,q=L.length:=⟨_,rfl⟩
  rw [← hq]
  have hq6:q≤1000000:=by have h1:=uh HCN;have h2:=uh HL;omega
  have HQ:=hide hq
  clear hq hv1
  go_wp2
  go_loopw [4] (fun i wr=>∃ k:Nat,k≤q∧i = .int .i64 k∧Hid ((L.take k).all goodL=true)∧w1.grownBy wr none) (fun i _=>q - (intOf i).toNat)
  case atStart=>exact ⟨0,Nat.zero_le _,rfl,by exact rfl,gb_refl _ _⟩
  case round =>
   obtain ⟨k,hk,rfl,hA,hg⟩:=hrel
   by_cases hlt:k<q
   ·have hkL:k<L.length:=by rw [← uh HQ];exact hlt
    have hki:(k:Int)<(q:Int):=by omega
    have HKK:=hide (show k+1≤q from hlt)
    have hk0:(0:Int)≤(k:Int):=by omega
    obtain ⟨b,rfl,hc⟩:=(hs1.kept hg).at k hkL
    have hxl:L[k].length≤100000:=Nat.le_trans (uh HPL _ (List.getElem_mem hkL)) (uh HL)
    have htk:L.take (k+1)=L.take k++[L[k]]:=List.take_succ_eq_append_getElem hkL
    have hex:goodL L[k]=false→L.all goodL=false:=fun h=>by
     rw [← Bool.not_eq_true]
     intro h2
     have:=List.all_eq_true.1 h2 _ (List.getElem_mem hkL)
     rw [h] at this
     cases this
    obtain ⟨x,hx⟩:∃ x,x=L[k]:=⟨_,rfl⟩
    rw [← hx] at hc hxl htk hex
    have c2:=fun V=>rgood_any V x hxl
    obtain ⟨HT,HE⟩:=zh2 htk hex
    clear hx hxl htk hex
    cases hp:goodL x with
    | false =>
     rw [hp] at c2
     have HR:=hide (show kindL l=0 by rw [uh HK,if_neg (fun e=>by rw [uh HE hp] at e;cases e.2)])
     go_wp2_with fail
     refine (c2 _).mono ?_
     rintro e w2 ⟨rfl,g2⟩
     clear c2
     go_wp2
     go_ret
     exact ⟨by rw [uh HR];rfl,tn (tn g1 hg) g2⟩
    | true =>
     rw [hp] at c2
     go_wp2_with fail
     refine (c2 _).mono ?_
     rintro e w2 ⟨rfl,g2⟩
     clear c2
     have hA2:Hid ((L.take (k+1)).all goodL=true):=by
      rw [uh HT,List.all_append,hA.out,List.all_cons,hp]
      exact rfl
     have g12:=tn hg g2
     clear hc HT HE
     go_wp2
     go_roundw
     case rel=>exact ⟨k+1,uh HKK,by go_num,hA2,g12⟩
     case measure=>have:=uh HKK;simp [intOf];omega
   ·obtain rfl:k=q:=by omega
    have hki:¬ (k:Int)<(k:Int):=by omega
    have hall:L.all goodL=true:=by
     have:=hA.out
     rw [uh HQ,List.take_length] at this
     exact this
    have hK2:=uh HK
    rw [if_pos ⟨h64,hall⟩,← uh HQ] at hK2
    have G:=tn g1 hg
    clear hA hall HK
    by_cases h1:1<k
    ·have h1i:(1:Int)<(k:Int):=by omega
     have h0i:(0:Int)<(k:Int):=by omega
     have h0L:0<L.length:=by have:=uh HQ;omega
     obtain ⟨b,rfl,hc⟩:=(hs1.kept hg).at 0 h0L
     rw [show L.getD 0 []=L[0] by simp [List.getD,h0L],show decide (1<k)=true by simp [h1],Bool.true_and,Bool.true_and] at hK2
     obtain ⟨x,hx⟩:∃ x,x=L[0]:=⟨_,rfl⟩
     rw [← hx] at hc hK2
     obtain ⟨X,hX⟩:∃ X,X=str x:=⟨_,rfl⟩
     obtain ⟨LX,hLX⟩:∃ s,s=X.toList:=⟨_,rfl⟩
     have hLx:LX=x:=by rw [hLX,hX,str_list]
     rw [← hX] at hc
     rw [← hLx] at hK2
     have hTX:=hLX.symm
     clear hx hX hLX hLx
     cases b1:(LX == headsL)
     ·have n1:¬ LX=[104,101,97,100,115]:=by simpa [headsL] using b1
      cases b2:(LX == tagsL)
      ·have n2:¬ LX=[116,97,103,115]:=by simpa [tagsL] using b2
       have HR:=hide (show kindL l=0 by rw [hK2,b1,b2];rfl)
       have b1' : (LX == [104,101,97,100,115])=false:=b1
       have b2' : (LX == [116,97,103,115])=false:=b2
       clear hK2 b1 b2
       go_wp2
       go_ret
       exact ⟨by rw [uh HR];rfl,G⟩
      ·have n2:LX=[116,97,103,115]:=by simpa [tagsL] using b2
       have HR:=hide (show kindL l=2 by rw [hK2,b1,b2];rfl)
       clear hK2 b1 b2
       subst n2
       go_wp2
       go_ret
       exact ⟨by rw [uh HR];rfl,G⟩
     ·have n1:LX=[104,101,97,100,115]:=by simpa [headsL] using b1
      have HR:=hide (show kindL l=1 by rw [hK2,b1];rfl)
      clear hK2 b1
      subst n1
      go_wp2
      go_ret
      exact ⟨by rw [uh HR];rfl,G⟩
    ·have h1i:¬ (1:Int)<(k:Int):=by omega
     rw [show decide (1<k)=false by simp;omega,Bool.false_and,Bool.false_and] at hK2
     have HR:=hide (show kindL l=0 by rw [hK2];rfl)
     clear hK2
     go_wp2
     go_ret
     exact ⟨by rw [uh HR];rfl,G⟩
 ·have h64i:(64:Int)<(n:Int):=by omega
  have HR:=hide (show kindL l=0 by rw [uh HK,if_neg (fun e=>h64 e.1)])
  clear HK c1
  go_enter Tryz.func155,Tryz.ntmps155
  go_wp2
  go_ret
  exact ⟨by rw [uh HR];rfl,gb_refl _ _⟩
end Go.Proofs.YtlifmipnoeioaaaGreatDoor
