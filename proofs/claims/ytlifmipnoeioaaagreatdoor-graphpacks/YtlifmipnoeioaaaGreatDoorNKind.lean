/- Lemmas. -/
import Derived.Test.YtlifmipnoeioaaaGreatDoorNGood
import Derived.Test.YtlifmipnoeioaaaGreatDoorNPtd
namespace Go.Proofs.YtlifmipnoeioaaaGreatDoor
open Go.RowKit
theorem kind_pre (l a:List UInt8) (ha:∀ c∈a,c≠47):Lib.hasPrefix l (a++[47])=(decide (1<(slashL l).length) && ((slashL l).getD 0 [] == a)):=by
 rw [Bool.eq_iff_iff]
 unfold Lib.hasPrefix
 simp only [List.isPrefixOf_iff_prefix,Bool.and_eq_true,decide_eq_true_eq,beq_iff_eq]
 constructor
 ·rintro ⟨m,rfl⟩
  rw [List.append_assoc,List.singleton_append,slashL_app,slashL_plain a ha]
  have:=slashL_ne m
  refine ⟨?_,rfl⟩
  cases h:slashL m with
  | nil=>exact absurd h this
  | cons p ps=>simp
 ·rintro ⟨h1,h2⟩
  cases h:slashL l with
  | nil=>rw [h] at h1;simp at h1
  | cons x r =>
   cases r with
   | nil=>rw [h] at h1;simp at h1
   | cons y ps =>
    obtain ⟨m,hm⟩:=slashL_two l x y ps h
    rw [h] at h2
    simp at h2
    subst h2
    exact ⟨m,by rw [hm];simp⟩
set_option maxRecDepth 100000 in
set_option maxHeartbeats 2000000 in
theorem allref_any (w:World) (l:List UInt8) (hl:l.length≤100000):Calls Tryz.prog 122 #[.string (str l)] w fun e w'=>e = .returned (.bool ((slashL l).all goodL))∧w.grownBy w' none:=by
 have c1:=parted_any w l hl
 have hcnt:=slashL_count l
 have hple:=slashL_len l
 obtain ⟨S,hS⟩:∃ S,S=str l:=⟨_,rfl⟩
 obtain ⟨L,hL⟩:∃ L,L=slashL l:=⟨_,rfl⟩
 rw [← hS] at c1 ⊢
 rw [← hL] at c1 hcnt hple ⊢
 obtain ⟨HL,HCN,HPL⟩:=zh3 hl hcnt hple
 clear hS hl hcnt hple hL
 go_enter Tryz.func122,Tryz.ntmps122
 go_wp2_with fail
 refine c1.mono ?_
 rintro e w1 ⟨v1,rfl,hv1,g1⟩
 clear c1
 obtain ⟨ao,c,rfl,hs1⟩:=hv1.open
 obtain ⟨q,hq⟩:∃ q,q=L.length:=⟨_,rfl⟩
 rw [← hq]
 have hq6:q≤1000000:=by have h1:=uh HCN;have h2:=uh HL;omega
 have HQ:=hide hq
 clear hq hv1
 go_wp2
 go_loopw [8] (fun i wr=>∃ k:Nat,k≤q∧i = .int .i64 k∧Hid ((L.take k).all goodL=true)∧w1.grownBy wr none) (fun i _=>q - (intOf i).toNat)
 case atStart=>exact ⟨0,Nat.zero_le _,rfl,by exact rfl,gb_refl _ _⟩
 case round =>
  obtain ⟨k,hk,rfl,hA,hg⟩:=hrel
  by_cases hlt:k<q
  ·have hkL:k<L.length:=by rw [← uh HQ];exact hlt
   have hki:(k:Int)<(q:Int):=by omega
   have HK:=hide (show k+1≤q from hlt)
   have hk0:(0:Int)≤(k:Int):=by omega
   obtain ⟨b,rfl,hc⟩:=(hs1.kept hg).at k hkL
   have hxl:L[k].length≤100000:=Nat.le_trans (uh HPL _ (List.getElem_mem hkL)) (uh HL)
   have htk:L.take (k+1)=L.take k++[L[k]]:=List.take_succ_eq_append_getElem hkL
   have hex:goodL L[k]=false→L.all goodL=false:=fun h=>by
    rw [← Bool.not_eq_true]
    intro h2
    have:=List.all_eq_true.1 h2 _ (List.getElem_mem hkL)
    rw [h] at this
    cases this
   obtain ⟨x,hx⟩:∃ x,x=L[k]:=⟨_,rfl⟩
   rw [← hx] at hc hxl htk hex
   have c2:=fun V=>refpart_any V x hxl
   obtain ⟨HT,HE⟩:=zh2 htk hex
   clear hx hxl htk hex
   cases hp:goodL x with
   | false =>
    rw [hp] at c2
    go_wp2_with fail
    refine (c2 _).mono ?_
    rintro e w2 ⟨rfl,g2⟩
    clear c2
    have hall:=uh HE hp
    go_wp2
    go_ret
    exact ⟨by first | rfl | (rw [hall];rfl),tn (tn g1 hg) g2⟩
   | true =>
    rw [hp] at c2
    go_wp2_with fail
    refine (c2 _).mono ?_
    rintro e w2 ⟨rfl,g2⟩
    clear c2
    have hA2:Hid ((L.take (k+1)).all goodL=true):=by
     rw [uh HT,List.all_append,hA.out,List.all_cons,hp]
     exact rfl
    have g12:=tn hg g2
    clear hc HT HE
    go_wp2
    go_roundw
    case rel=>exact ⟨k+1,uh HK,by go_num,hA2,g12⟩
    case measure=>have:=uh HK;simp [intOf];omega
  ·obtain rfl:k=q:=by omega
   have hki:¬ (k:Int)<(k:Int):=by omega
   have hall:L.all goodL=true:=by
    have:=hA.out
    rw [uh HQ,List.take_length] at this
    exact this
   have HA:=hide hall
   clear hA hall
   go_wp2
   go_ret
   exact ⟨by rw [uh HA];rfl,tn g1 hg⟩
set_option maxRecDepth 100000 in
set_option maxHeartbeats 1000000 in
theorem kind_any (w:World) (l:List UInt8) (hl:l.length≤100000):Calls Tryz.prog 95 #[.string (str l)] w fun e w'=>e = .returned (.int .i64 (kindL l))∧w.grownBy w' none:=by
 have c1:=allref_any w l hl
 have c2:=fun V=>prefix_any V l (headsL++[47])
 have c3:=fun V=>prefix_any V l (tagsL++[47])
 obtain ⟨n,hn⟩:∃ n,n=l.length:=⟨_,rfl⟩
 have hsz:(str l).size=n:=by rw [str_size,hn]
 have hK:kindL l=if n≤64∧(slashL l).all goodL=true then (if Lib.hasPrefix l (headsL++[47])=true then 1 else if Lib.hasPrefix l (tagsL++[47])=true then 2 else 0) else 0:=by rw [hn];rfl
 obtain ⟨S,hS⟩:∃ S,S=str l:=⟨_,rfl⟩
 obtain ⟨b1,hb1⟩:∃ b,b=(slashL l).all goodL:=⟨_,rfl⟩
 obtain ⟨b2,hb2⟩:∃ b,b=Lib.hasPrefix l (headsL++[47]):=⟨_,rfl⟩
 obtain ⟨b3,hb3⟩:∃ b,b=Lib.hasPrefix l (tagsL++[47]):=⟨_,rfl⟩
 rw [← hS] at c1 hsz ⊢
 rw [← hb1] at c1 hK
 rw [← hb2,← hb3] at hK
 simp only [← hS,← hb2] at c2
 simp only [← hS,← hb3] at c3
 have HK:=hide hK
 clear hn hl hK hS hb1 hb2 hb3
 by_cases h64:n≤64
 ·have h64i:¬ (64:Int)<(n:Int):=by omega
  cases b1
  ·have HR:=hide (show kindL l=0 by rw [uh HK,if_neg (fun e=>by cases e.2)])
   clear HK c2 c3
   go_enter Tryz.func95,Tryz.ntmps95
   go_wp2_with (go_at_call 122;refine c1.mono ?_;rintro e w1 ⟨rfl,g1⟩;clear c1)
   go_ret
   exact ⟨by rw [uh HR];rfl,g1⟩
  ·cases b2
   ·cases b3
    ·have HR:=hide (show kindL l=0 by rw [uh HK,if_pos ⟨h64,rfl⟩];rfl)
     clear HK
     go_enter Tryz.func95,Tryz.ntmps95
     go_wp2_with (first
      | (go_at_call 122;refine c1.mono ?_;rintro e w1 ⟨rfl,g1⟩;clear c1)
      | (go_at_call 123;refine (c2 _).mono ?_;rintro e w2 ⟨rfl,hw2⟩;subst w2;clear c2))
     go_wp2_with (go_at_call 123;refine (c3 _).mono ?_;rintro e w2 ⟨rfl,hw2⟩;subst w2;clear c3)
     go_ret
     exact ⟨by rw [uh HR];rfl,g1⟩
    ·have HR:=hide (show kindL l=2 by rw [uh HK,if_pos ⟨h64,rfl⟩];rfl)
     clear HK
     go_enter Tryz.func95,Tryz.ntmps95
     go_wp2_with (first
      | (go_at_call 122;refine c1.mono ?_;rintro e w1 ⟨rfl,g1⟩;clear c1)
      | (go_at_call 123;refine (c2 _).mono ?_;rintro e w2 ⟨rfl,hw2⟩;subst w2;clear c2))
     go_wp2_with (go_at_call 123;refine (c3 _).mono ?_;rintro e w2 ⟨rfl,hw2⟩;subst w2;clear c3)
     go_ret
     exact ⟨by rw [uh HR];rfl,g1⟩
   ·have HR:=hide (show kindL l=1 by rw [uh HK,if_pos ⟨h64,rfl⟩];rfl)
    clear HK c3
    go_enter Tryz.func95,Tryz.ntmps95
    go_wp2_with (first
     | (go_at_call 122;refine c1.mono ?_;rintro e w1 ⟨rfl,g1⟩;clear c1)
     | (go_at_call 123;refine (c2 _).mono ?_;rintro e w2 ⟨rfl,hw2⟩;subst w2;clear c2))
    go_ret
    exact ⟨by rw [uh HR];rfl,g1⟩
 ·have h64i:(64:Int)<(n:Int):=by omega
  have HR:=hide (show kindL l=0 by rw [uh HK,if_neg (fun e=>h64 e.1)])
  clear HK c1 c2 c3
  go_enter Tryz.func95,Tryz.ntmps95
  go_wp2
  go_ret
  exact ⟨by rw [uh HR];rfl,gb_refl _ _⟩
end Go.Proofs.YtlifmipnoeioaaaGreatDoor
