/- Lemmas. -/
import Derived.Shelf.Strings.Prefix
import Derived.Test.YtegbbkgmiklhcaaGreatDoorNPtd
namespace Go.Proofs.YtegbbkgmiklhcaaGreatDoor
open Go.RowKit Go.Shelf
set_option maxRecDepth 100000
def preR:Ren :=
 ⟨fun n=>if n=99 then 148 else if n=206 then 151 else if n=100 then 152 else if n=207 then 154 else n,
 fun n=>if n=3 then 3 else if n=4 then 4 else if n=9 then 9 else n,
 fun n=>n⟩
theorem zq2:Lays.n99 Tryz.prog preR:=by constructor <;> (intros;kernel_rfl)
theorem zql:Lays.n100 Tryz.prog preR:=by constructor <;> (intros;kernel_rfl)
theorem zee (w:World) (s p:List UInt8):Calls Tryz.prog 148 #[.string (str s),.string (str p)] w fun e w'=>e = .returned (.bool (Lib.hasPrefix s p))∧w'=w :=
 Any.strings_HasPrefix zq2 (str s) (str p) w
theorem zkl (w:World) (s p:List UInt8) (hs:s.length≤100000):Calls Tryz.prog 152 #[.string (str s),.string (str p)] w fun e w'=>e = .returned (.bool (Lib.hasSuffix s p))∧w'=w :=
 Any.strings_HasSuffix zql (str s) (str p) w (by rw[zba];omega)
end Go.Proofs.YtegbbkgmiklhcaaGreatDoor

/- Lemmas. -/
namespace Go.Proofs.YtegbbkgmiklhcaaGreatDoor
open Go.RowKit
set_option maxRecDepth 100000
theorem zfj {x:Int} (h:128≤x):zbq x=false:=zls (by omega)
theorem zpj (l:List UInt8) (k:Nat) (b:Bool) (h:k<l.length):scan b (l.drop k)=(ze9 l[k] && !(l[k] == 46 && b) && scan (l[k] == 46) (l.drop (k+1))):=by
 rw[List.drop_eq_getElem_cons h];rfl
theorem zpk (c:UInt8):(c == 46)=(((c.toNat:Nat):Int) == 46):=by
 rw[Bool.eq_iff_iff];simp only[beq_iff_eq]
 rw[← UInt8.toNat_inj,show (46:UInt8).toNat=46 from rfl];omega
set_option maxHeartbeats 2000000 in
theorem zij (w:World) (l:List UInt8) (hl:l.length≤100000):Calls Tryz.prog 150 #[.string (str l)] w fun e w'=>e = .returned (.bool (zcy l))∧w.grownBy w' none:=by
 obtain ⟨S,hS⟩:∃ S,S=str l:=⟨_,rfl⟩
 obtain ⟨n,hn⟩:∃ n,n=l.length:=⟨_,rfl⟩
 have hsz:S.size=n:=by rw[hS,zba,hn]
 have c1:=zee w l [45]
 have c2:=zkl w l znh hl
 have hG:zcy l=(!(Lib.hasPrefix l [45]) && !(Lib.hasSuffix l znh) && scan true l):=rfl
 obtain ⟨b1,hb1⟩:∃ b,b=Lib.hasPrefix l [45]:=⟨_,rfl⟩
 obtain ⟨b2,hb2⟩:∃ b,b=Lib.hasSuffix l znh:=⟨_,rfl⟩
 rw[← hb1] at c1 hG
 rw[← hb2] at c2 hG
 rw[← hS] at c1 c2 ⊢
 obtain ⟨HS,HN,HL,HG⟩:=zh4 hS hn hl hG
 clear hS hn hl hb1 hb2 hG
 cases b1
 ·cases b2
  ·have hG2:zcy l=scan true l:=by rw[uh HG];rfl
   have HG2:=hide hG2
   clear HG hG2
   go_enter Tryz.func150,Tryz.ntmps150
   go_wp2_with (first
    | (go_at_call 148;refine c1.mono ?_;rintro e w1 ⟨rfl,hw1⟩;subst w1;clear c1)
    | (go_at_call 152;refine c2.mono ?_;rintro e w2 ⟨rfl,hw2⟩;subst w2;clear c2))
   go_loopw [3,5] (fun b5 _ wr=>∃ (pos:Nat) (y:Int),pos≤n∧b5 = .int .i32 y∧Hid (scan (y == 46) (l.drop pos)=scan true l)∧wr.heap[w.heap.size]? = some (.stringIter S pos)∧w.grownBy wr none) (fun _ _ wr=>n - wr.iterPos w.heap.size)
   case atStart=>exact ⟨0,46,Nat.zero_le _,rfl,by exact rfl,World.iter_heap _ _ _,zai (zab _ _) _⟩
   case round =>
    obtain ⟨pos,y,hpn,rfl,hD,hit,hg⟩:=hrel
    by_cases hlt:pos<n
    ·have hpl:pos<l.length:=by rw[← uh HN];exact hlt
     have hnx:∀ ty,(Instr.next (.pointer (some ⟨w.heap.size,0,none⟩)) true ty).run Tryz.prog wr=_:=fun ty=>Lib.run_next_any_at wr w.heap.size S pos ty hit (by rw[hsz];exact hlt)
     obtain ⟨x,hx⟩:∃ x,x=(Utf8.decode S pos).1:=⟨_,rfl⟩
     obtain ⟨m,hm⟩:∃ m,m=(Utf8.decode S pos).2:=⟨_,rfl⟩
     rw[← hx,← hm] at hnx
     have hat:=zfa l pos hpl
     rw[← uh HS,← hx,← hm] at hat
     have hsc:=zpj l pos (y == 46) hpl
     rw[hD.out] at hsc
     have hxx:(zbq x=false∧scan true l=false)∨(zbq x=true∧((x:Int) == 46)=true∧(y == 46)=true∧scan true l=false)∨(zbq x=true∧¬ (((x:Int) == 46)=true∧(y == 46)=true)∧m=1∧scan ((x:Int) == 46) (l.drop (pos+1))=scan true l):=by
      rcases hat with ⟨h1,e⟩ | ⟨h1,h2,_,_,_⟩
      ·have e1:x=l[pos].toNat:=by rw[hx,e]
       have e2:m=1:=by rw[hm,e]
       have e3:ze9 l[pos]=zbq x:=by rw[e1];rfl
       have e4:(l[pos] == 46)=((x:Int) == 46):=by rw[zpk,← e1]
       rw[e3,e4] at hsc
       cases q1:zbq (x:Int)
       ·left
        rw[q1] at hsc
        exact ⟨rfl,hsc⟩
       ·right
        rw[q1] at hsc
        by_cases q2:((x:Int) == 46)=true∧(y == 46)=true
        ·left
         rw[q2.1,q2.2] at hsc
         exact ⟨rfl,q2.1,q2.2,hsc⟩
        ·right
         refine ⟨rfl,q2,e2,?_⟩
         have:((x:Int) == 46 && y == 46)=false:=by
          rw[← Bool.not_eq_true,Bool.and_eq_true]
          exact q2
         rw[this] at hsc
         rw[hsc]
         rfl
      ·left
       have e3:ze9 l[pos]=false:=zfj (by omega)
       rw[e3] at hsc
       exact ⟨zfj (by omega),hsc⟩
     have hit2:=Lib.iterAt_heap wr w.heap.size S pos (pos+m) hit
     have hg2:=zdy hg w.heap.size S (pos+m) (Or.inl (Nat.le_refl _))
     have c3:=fun V=>zj7 V (x:Int)
     obtain ⟨HI,HI0⟩:=zh2 hit2 hit
     have HK:=hide (show pos+1≤n from hlt)
     clear hat hx hm hit hit2 hsc hD
     rcases hxx with ⟨q1,hR⟩ | ⟨q1,q2,q3,hR⟩ | ⟨q1,q2,rfl,hR⟩
     ·rw[q1] at c3
      have HR:=hide (show zcy l=false by rw[uh HG2];exact hR)
      clear hR q1
      go_wp2_with (go_at_call 153;refine (c3 _).mono ?_;rintro e w1 ⟨rfl,rfl⟩;clear c3)
      go_ret
      exact ⟨by rw[uh HR];rfl,hg2⟩
     ·rw[q1] at c3
      have HR:=hide (show zcy l=false by rw[uh HG2];exact hR)
      clear hR q1
      go_wp2_with (go_at_call 153;refine (c3 _).mono ?_;rintro e w1 ⟨rfl,rfl⟩;clear c3)
      go_ret
      exact ⟨by rw[uh HR];rfl,hg2⟩
     ·rw[q1] at c3
      have HR:=hide hR
      clear hR q1
      cases q3:((x:Int) == 46)
      ·rw[q3] at HR
       clear q2
       go_wp2_with (go_at_call 153;refine (c3 _).mono ?_;rintro e w1 ⟨rfl,rfl⟩;clear c3)
       go_roundw
       case rel=>exact ⟨pos+1,x,uh HK,rfl,by rw[q3];exact HR,uh HI,hg2⟩
       case measure =>
        have h1:=uh HK
        have h2:=uh HI
        have h3:=uh HI0
        simp only[World.iterPos,h2,h3]
        omega
      ·rw[q3] at HR
       have q4:(y == 46)=false:=by
        rw[← Bool.not_eq_true]
        exact fun e=>q2 ⟨q3,e⟩
       clear q2
       go_wp2_with (go_at_call 153;refine (c3 _).mono ?_;rintro e w1 ⟨rfl,rfl⟩;clear c3)
       go_roundw
       case rel=>exact ⟨pos+1,x,uh HK,rfl,by rw[q3];exact HR,uh HI,hg2⟩
       case measure =>
        have h1:=uh HK
        have h2:=uh HI
        have h3:=uh HI0
        simp only[World.iterPos,h2,h3]
        omega
    ·have hnx:∀ ty,(Instr.next (.pointer (some ⟨w.heap.size,0,none⟩)) true ty).run Tryz.prog wr=_:=fun ty=>Lib.run_next_end_at wr w.heap.size S pos ty hit (by rw[hsz];exact hlt)
     have HR:Hid (zcy l=(y != 46)):=by
      rw[uh HG2,← hD.out,List.drop_eq_nil_of_le (by rw[← uh HN];omega)]
      exact rfl
     clear hD
     go_wp2
     go_ret
     exact ⟨by rw[uh HR];rfl,hg⟩
  ·have HR:=hide (show zcy l=false by rw[uh HG];rfl)
   clear HG
   go_enter Tryz.func150,Tryz.ntmps150
   go_wp2_with (first
    | (go_at_call 148;refine c1.mono ?_;rintro e w1 ⟨rfl,hw1⟩;subst w1;clear c1)
    | (go_at_call 152;refine c2.mono ?_;rintro e w2 ⟨rfl,hw2⟩;subst w2;clear c2))
   go_ret
   exact ⟨by rw[uh HR];rfl,zab _ _⟩
 ·have HR:=hide (show zcy l=false by rw[uh HG];rfl)
  clear HG c2
  go_enter Tryz.func150,Tryz.ntmps150
  go_wp2_with (go_at_call 148;refine c1.mono ?_;rintro e w1 ⟨rfl,hw1⟩;subst w1;clear c1)
  go_ret
  exact ⟨by rw[uh HR];rfl,zab _ _⟩
set_option maxHeartbeats 2000000 in
theorem zkm (w:World) (l:List UInt8) (hl:l.length≤100000):Calls Tryz.prog 147 #[.string (str l)] w fun e w'=>e = .returned (.bool ((za2 l).all zcy))∧w.grownBy w' none:=by
 have c1:=zki w l hl
 have hcnt:=zc5 l
 have hple:=zj6 l
 obtain ⟨S,hS⟩:∃ S,S=str l:=⟨_,rfl⟩
 obtain ⟨L,hL⟩:∃ L,L=za2 l:=⟨_,rfl⟩
 rw[← hS] at c1 ⊢
 rw[← hL] at c1 hcnt hple ⊢
 obtain ⟨HL,HCN,HPL⟩:=zh3 hl hcnt hple
 clear hS hl hcnt hple hL
 go_enter Tryz.func147,Tryz.ntmps147
 go_wp2_with fail
 refine c1.mono ?_
 rintro e w1 ⟨v1,rfl,hv1,g1⟩
 clear c1
 obtain ⟨ao,c,rfl,hs1⟩:=hv1.open
 obtain ⟨q,hq⟩:∃ q,q=L.length:=⟨_,rfl⟩
 rw[← hq]
 have hq6:q≤1000000:=by have h1:=uh HCN;have h2:=uh HL;omega
 have HQ:=hide hq
 clear hq hv1
 go_wp2
 go_loopw [8] (fun i wr=>∃ k:Nat,k≤q∧i = .int .i64 k∧Hid ((L.take k).all zcy=true)∧w1.grownBy wr none) (fun i _=>q - (intOf i).toNat)
 case atStart=>exact ⟨0,Nat.zero_le _,rfl,by exact rfl,zab _ _⟩
 case round =>
  obtain ⟨k,hk,rfl,hA,hg⟩:=hrel
  by_cases hlt:k<q
  ·have hkL:k<L.length:=by rw[← uh HQ];exact hlt
   have hki:(k:Int)<(q:Int):=by omega
   have HK:=hide (show k+1≤q from hlt)
   have hk0:(0:Int)≤(k:Int):=by omega
   obtain ⟨b,rfl,hc⟩:=(hs1.kept hg).at k hkL
   have hxl:L[k].length≤100000:=Nat.le_trans (uh HPL _ (List.getElem_mem hkL)) (uh HL)
   have htk:L.take (k+1)=L.take k++[L[k]]:=List.take_succ_eq_append_getElem hkL
   have hex:zcy L[k]=false→L.all zcy=false:=fun h=>by
    rw[← Bool.not_eq_true]
    intro h2
    have:=List.all_eq_true.1 h2 _ (List.getElem_mem hkL)
    rw[h] at this
    cases this
   obtain ⟨x,hx⟩:∃ x,x=L[k]:=⟨_,rfl⟩
   rw[← hx] at hc hxl htk hex
   have c2:=fun V=>zij V x hxl
   obtain ⟨HT,HE⟩:=zh2 htk hex
   clear hx hxl htk hex
   cases hp:zcy x with
   | false =>
    rw[hp] at c2
    go_wp2_with fail
    refine (c2 _).mono ?_
    rintro e w2 ⟨rfl,g2⟩
    clear c2
    have hall:=uh HE hp
    go_wp2
    go_ret
    exact ⟨by first | rfl | (rw[hall];rfl),tn (tn g1 hg) g2⟩
   | true =>
    rw[hp] at c2
    go_wp2_with fail
    refine (c2 _).mono ?_
    rintro e w2 ⟨rfl,g2⟩
    clear c2
    have hA2:Hid ((L.take (k+1)).all zcy=true):=by
     rw[uh HT,List.all_append,hA.out,List.all_cons,hp]
     exact rfl
    have g12:=tn hg g2
    clear hc HT HE
    go_wp2
    go_roundw
    case rel=>exact ⟨k+1,uh HK,by go_num,hA2,g12⟩
    case measure=>have:=uh HK;simp[intOf];omega
  ·obtain rfl:k=q:=by omega
   have hki:¬ (k:Int)<(k:Int):=by omega
   have hall:L.all zcy=true:=by
    have:=hA.out
    rw[uh HQ,List.take_length] at this
    exact this
   have HA:=hide hall
   clear hA hall
   go_wp2
   go_ret
   exact ⟨by rw[uh HA];rfl,tn g1 hg⟩
set_option maxHeartbeats 1000000 in
theorem znu (w:World) (l:List UInt8) (hl:l.length≤100000):Calls Tryz.prog 141 #[.string (str l)] w fun e w'=>e = .returned (.int .i64 (zgm l))∧w.grownBy w' none:=by
 have c1:=zkm w l hl
 have c2:=fun V=>zee V l (zja++[47])
 have c3:=fun V=>zee V l (zni++[47])
 obtain ⟨n,hn⟩:∃ n,n=l.length:=⟨_,rfl⟩
 have hsz:(str l).size=n:=by rw[zba,hn]
 have hK:zgm l=if n≤64∧(za2 l).all zcy=true then (if Lib.hasPrefix l (zja++[47])=true then 1 else if Lib.hasPrefix l (zni++[47])=true then 2 else 0) else 0:=by rw[hn];rfl
 obtain ⟨S,hS⟩:∃ S,S=str l:=⟨_,rfl⟩
 obtain ⟨b1,hb1⟩:∃ b,b=(za2 l).all zcy:=⟨_,rfl⟩
 obtain ⟨b2,hb2⟩:∃ b,b=Lib.hasPrefix l (zja++[47]):=⟨_,rfl⟩
 obtain ⟨b3,hb3⟩:∃ b,b=Lib.hasPrefix l (zni++[47]):=⟨_,rfl⟩
 rw[← hS] at c1 hsz ⊢
 rw[← hb1] at c1 hK
 rw[← hb2,← hb3] at hK
 simp only[← hS,← hb2] at c2
 simp only[← hS,← hb3] at c3
 have HK:=hide hK
 clear hn hl hK hS hb1 hb2 hb3
 by_cases h64:n≤64
 ·have h64i:¬ (64:Int)<(n:Int):=by omega
  cases b1
  ·have HR:=hide (show zgm l=0 by rw[uh HK,if_neg (fun e=>by cases e.2)])
   clear HK c2 c3
   go_enter Tryz.func141,Tryz.ntmps141
   go_wp2_with (go_at_call 147;refine c1.mono ?_;rintro e w1 ⟨rfl,g1⟩;clear c1)
   go_ret
   exact ⟨by rw[uh HR];rfl,g1⟩
  ·cases b2
   ·cases b3
    ·have HR:=hide (show zgm l=0 by rw[uh HK,if_pos ⟨h64,rfl⟩];rfl)
     clear HK
     go_enter Tryz.func141,Tryz.ntmps141
     go_wp2_with (first
      | (go_at_call 147;refine c1.mono ?_;rintro e w1 ⟨rfl,g1⟩;clear c1)
      | (go_at_call 148;refine (c2 _).mono ?_;rintro e w2 ⟨rfl,hw2⟩;subst w2;clear c2))
     go_wp2_with (go_at_call 148;refine (c3 _).mono ?_;rintro e w2 ⟨rfl,hw2⟩;subst w2;clear c3)
     go_ret
     exact ⟨by rw[uh HR];rfl,g1⟩
    ·have HR:=hide (show zgm l=2 by rw[uh HK,if_pos ⟨h64,rfl⟩];rfl)
     clear HK
     go_enter Tryz.func141,Tryz.ntmps141
     go_wp2_with (first
      | (go_at_call 147;refine c1.mono ?_;rintro e w1 ⟨rfl,g1⟩;clear c1)
      | (go_at_call 148;refine (c2 _).mono ?_;rintro e w2 ⟨rfl,hw2⟩;subst w2;clear c2))
     go_wp2_with (go_at_call 148;refine (c3 _).mono ?_;rintro e w2 ⟨rfl,hw2⟩;subst w2;clear c3)
     go_ret
     exact ⟨by rw[uh HR];rfl,g1⟩
   ·have HR:=hide (show zgm l=1 by rw[uh HK,if_pos ⟨h64,rfl⟩];rfl)
    clear HK c3
    go_enter Tryz.func141,Tryz.ntmps141
    go_wp2_with (first
     | (go_at_call 147;refine c1.mono ?_;rintro e w1 ⟨rfl,g1⟩;clear c1)
     | (go_at_call 148;refine (c2 _).mono ?_;rintro e w2 ⟨rfl,hw2⟩;subst w2;clear c2))
    go_ret
    exact ⟨by rw[uh HR];rfl,g1⟩
 ·have h64i:(64:Int)<(n:Int):=by omega
  have HR:=hide (show zgm l=0 by rw[uh HK,if_neg (fun e=>h64 e.1)])
  clear HK c1 c2 c3
  go_enter Tryz.func141,Tryz.ntmps141
  go_wp2
  go_ret
  exact ⟨by rw[uh HR];rfl,zab _ _⟩
end Go.Proofs.YtegbbkgmiklhcaaGreatDoor
