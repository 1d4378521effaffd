/- Lemmas. -/
import Derived.Shelf.Strings.Prefix
import Derived.Test.YtegbbkgmiklhcaaGreatDoorNRefP
import Derived.Deep.CutBlock
import Derived.Deep.DeepCutAuto
namespace Go.Proofs.YtegbbkgmiklhcaaGreatDoor
open Go.RowKit Go.Shelf
set_option maxRecDepth 100000
def preR:Ren :=
 ⟨fun n=>if n=99 then 148 else if n=206 then 151 else if n=100 then 152 else if n=207 then 154 else n,
 fun n=>if n=3 then 3 else if n=4 then 4 else if n=9 then 9 else n,
 fun n=>n⟩
theorem zvl:Lays.n99 Tryz.prog preR:=by constructor <;> (intros;kernel_rfl)
theorem zuq:Lays.n100 Tryz.prog preR:=by constructor <;> (intros;kernel_rfl)
theorem zfu (w:World) (s p:List UInt8):Calls Tryz.prog 148 #[.string (str s),.string (str p)] w fun e w'=>e = .returned (.bool (Lib.hasPrefix s p))∧w'=w :=
 Any.strings_HasPrefix zvl (str s) (str p) w
theorem zm8 (w:World) (s p:List UInt8) (hs:s.length≤100000):Calls Tryz.prog 152 #[.string (str s),.string (str p)] w fun e w'=>e = .returned (.bool (Lib.hasSuffix s p))∧w'=w :=
 Any.strings_HasSuffix zuq (str s) (str p) w (by rw[zaj];omega)
end Go.Proofs.YtegbbkgmiklhcaaGreatDoor

/- Lemmas. -/
namespace Go.Proofs.YtegbbkgmiklhcaaGreatDoor
open Go.RowKit
set_option maxRecDepth 100000
theorem zg3 {x:Int} (h:128≤x):zbn x=false:=zoq (by omega)
theorem ztm (l:List UInt8) (k:Nat) (b:Bool) (h:k<l.length):scan b (l.drop k)=(zeq l[k] && !(l[k] == 46 && b) && scan (l[k] == 46) (l.drop (k+1))):=by
 rw[List.drop_eq_getElem_cons h];rfl
theorem zrk (l:List UInt8) (k:Nat) (b:Bool) (h:k<l.length):zd3 b (l.drop k)=(zeq l[k] && !(l[k] == 46 && b) && zd3 (l[k] == 46) (l.drop (k+1))):=by
 rw[List.drop_eq_getElem_cons h];rfl
theorem zg4 (c:UInt8):(c == 46)=(((c.toNat:Nat):Int) == 46):=by
 rw[Bool.eq_iff_iff];simp only[beq_iff_eq]
 rw[← UInt8.toNat_inj,show (46:UInt8).toNat=46 from rfl];omega
set_option maxHeartbeats 2000000 in
theorem zkr (w:World) (l:List UInt8) (hl:l.length≤100000):Calls Tryz.prog 150 #[.string (str l)] w fun e w'=>e = .returned (.bool (zbu l))∧w.grownBy w' none:=by
 obtain ⟨S,hS⟩:∃ S,S=str l:=⟨_,rfl⟩
 obtain ⟨n,hn⟩:∃ n,n=l.length:=⟨_,rfl⟩
 have hsz:S.size=n:=by rw[hS,zaj,hn]
 have c1:=zfu w l [45]
 have c2:=zm8 w l zib hl
 have hG:zbu l=(!(Lib.hasPrefix l [45]) && !(Lib.hasSuffix l zib) && scan true l):=rfl
 obtain ⟨b1,hb1⟩:∃ b,b=Lib.hasPrefix l [45]:=⟨_,rfl⟩
 obtain ⟨b2,hb2⟩:∃ b,b=Lib.hasSuffix l zib:=⟨_,rfl⟩
 rw[← hb1] at c1 hG
 rw[← hb2] at c2 hG
 rw[← hS] at c1 c2 ⊢
 obtain ⟨HS,HN,HL,HG⟩:=zh4 hS hn hl hG
 clear hS hn hl hb1 hb2 hG
 cases b1
 ·cases b2
  ·have hG2:zbu l=scan true l:=by rw[uh HG];rfl
   have HG2:=hide hG2
   clear HG hG2
   go_enter Tryz.func150,Tryz.ntmps150
   go_wp2_with (first
    | (go_at_call 148;refine c1.mono ?_;rintro e w1 ⟨rfl,hw1⟩;subst w1;clear c1)
    | (go_at_call 152;refine c2.mono ?_;rintro e w2 ⟨rfl,hw2⟩;subst w2;clear c2))
   go_loopw [3,5] (fun b5 _ wr=>∃ (pos:Nat) (y:Int),pos≤n∧b5 = .int .i32 y∧Hid (scan (y == 46) (l.drop pos)=scan true l)∧wr.heap[w.heap.size]? = some (.stringIter S pos)∧w.grownBy wr none) (fun _ _ wr=>n - wr.iterPos w.heap.size)
   case atStart=>exact ⟨0,46,Nat.zero_le _,rfl,by exact rfl,World.iter_heap _ _ _,zad (zaa _ _) _⟩
   case round =>
    obtain ⟨pos,y,hpn,rfl,hD,hit,hg⟩:=hrel
    by_cases hlt:pos<n
    ·have hpl:pos<l.length:=by rw[← uh HN];exact hlt
     have hnx:∀ ty,(Instr.next (.pointer (some ⟨w.heap.size,0,none⟩)) true ty).run Tryz.prog wr=_:=fun ty=>Lib.run_next_any_at wr w.heap.size S pos ty hit (by rw[hsz];exact hlt)
     obtain ⟨x,hx⟩:∃ x,x=(Utf8.decode S pos).1:=⟨_,rfl⟩
     obtain ⟨m,hm⟩:∃ m,m=(Utf8.decode S pos).2:=⟨_,rfl⟩
     rw[← hx,← hm] at hnx
     have hat:=zgv l pos hpl
     rw[← uh HS,← hx,← hm] at hat
     have hsc:=ztm l pos (y == 46) hpl
     rw[hD.out] at hsc
     have hxx:(zbn x=false∧scan true l=false)∨(zbn x=true∧((x:Int) == 46)=true∧(y == 46)=true∧scan true l=false)∨(zbn x=true∧¬ (((x:Int) == 46)=true∧(y == 46)=true)∧m=1∧scan ((x:Int) == 46) (l.drop (pos+1))=scan true l):=by
      rcases hat with ⟨h1,e⟩ | ⟨h1,h2,_,_,_⟩
      ·have e1:x=l[pos].toNat:=by rw[hx,e]
       have e2:m=1:=by rw[hm,e]
       have e3:zeq l[pos]=zbn x:=by rw[e1];rfl
       have e4:(l[pos] == 46)=((x:Int) == 46):=by rw[zg4,← e1]
       rw[e3,e4] at hsc
       cases q1:zbn (x:Int)
       ·left
        rw[q1] at hsc
        exact ⟨rfl,hsc⟩
       ·right
        rw[q1] at hsc
        by_cases q2:((x:Int) == 46)=true∧(y == 46)=true
        ·left
         rw[q2.1,q2.2] at hsc
         exact ⟨rfl,q2.1,q2.2,hsc⟩
        ·right
         refine ⟨rfl,q2,e2,?_⟩
         have:((x:Int) == 46 && y == 46)=false:=by
          rw[← Bool.not_eq_true,Bool.and_eq_true]
          exact q2
         rw[this] at hsc
         rw[hsc]
         rfl
      ·left
       have e3:zeq l[pos]=false:=zg3 (by omega)
       rw[e3] at hsc
       exact ⟨zg3 (by omega),hsc⟩
     have hit2:=Lib.iterAt_heap wr w.heap.size S pos (pos+m) hit
     have hg2:=ze9 hg w.heap.size S (pos+m) (Or.inl (Nat.le_refl _))
     have c3:=fun V=>zms V (x:Int)
     obtain ⟨HI,HI0⟩:=zh2 hit2 hit
     have HK:=hide (show pos+1≤n from hlt)
     clear hat hx hm hit hit2 hsc hD
     rcases hxx with ⟨q1,hR⟩ | ⟨q1,q2,q3,hR⟩ | ⟨q1,q2,rfl,hR⟩
     ·rw[q1] at c3
      have HR:=hide (show zbu l=false by rw[uh HG2];exact hR)
      clear hR q1
      go_wp2_with (go_at_call 153;refine (c3 _).mono ?_;rintro e w1 ⟨rfl,rfl⟩;clear c3)
      go_ret
      exact ⟨by rw[uh HR];rfl,hg2⟩
     ·rw[q1] at c3
      have HR:=hide (show zbu l=false by rw[uh HG2];exact hR)
      clear hR q1
      go_wp2_with (go_at_call 153;refine (c3 _).mono ?_;rintro e w1 ⟨rfl,rfl⟩;clear c3)
      go_ret
      exact ⟨by rw[uh HR];rfl,hg2⟩
     ·rw[q1] at c3
      have HR:=hide hR
      clear hR q1
      cases q3:((x:Int) == 46)
      ·rw[q3] at HR
       clear q2
       go_wp2_with (go_at_call 153;refine (c3 _).mono ?_;rintro e w1 ⟨rfl,rfl⟩;clear c3)
       go_roundw
       case rel=>exact ⟨pos+1,x,uh HK,rfl,by rw[q3];exact HR,uh HI,hg2⟩
       case measure =>
        have h1:=uh HK
        have h2:=uh HI
        have h3:=uh HI0
        simp only[World.iterPos,h2,h3]
        omega
      ·rw[q3] at HR
       have q4:(y == 46)=false:=by
        rw[← Bool.not_eq_true]
        exact fun e=>q2 ⟨q3,e⟩
       clear q2
       go_wp2_with (go_at_call 153;refine (c3 _).mono ?_;rintro e w1 ⟨rfl,rfl⟩;clear c3)
       go_roundw
       case rel=>exact ⟨pos+1,x,uh HK,rfl,by rw[q3];exact HR,uh HI,hg2⟩
       case measure =>
        have h1:=uh HK
        have h2:=uh HI
        have h3:=uh HI0
        simp only[World.iterPos,h2,h3]
        omega
    ·have hnx:∀ ty,(Instr.next (.pointer (some ⟨w.heap.size,0,none⟩)) true ty).run Tryz.prog wr=_:=fun ty=>Lib.run_next_end_at wr w.heap.size S pos ty hit (by rw[hsz];exact hlt)
     have HR:Hid (zbu l=(y != 46)):=by
      rw[uh HG2,← hD.out,List.drop_eq_nil_of_le (by rw[← uh HN];omega)]
      exact rfl
     clear hD
     go_wp2
     go_ret
     exact ⟨by rw[uh HR];rfl,hg⟩
  ·have HR:=hide (show zbu l=false by rw[uh HG];rfl)
   clear HG
   go_enter Tryz.func150,Tryz.ntmps150
   go_wp2_with (first
    | (go_at_call 148;refine c1.mono ?_;rintro e w1 ⟨rfl,hw1⟩;subst w1;clear c1)
    | (go_at_call 152;refine c2.mono ?_;rintro e w2 ⟨rfl,hw2⟩;subst w2;clear c2))
   go_ret
   exact ⟨by rw[uh HR];rfl,zaa _ _⟩
 ·have HR:=hide (show zbu l=false by rw[uh HG];rfl)
  clear HG c2
  go_enter Tryz.func150,Tryz.ntmps150
  go_wp2_with (go_at_call 148;refine c1.mono ?_;rintro e w1 ⟨rfl,hw1⟩;subst w1;clear c1)
  go_ret
  exact ⟨by rw[uh HR];rfl,zaa _ _⟩
theorem zl4 (l a:List UInt8) (ha:∀ c∈a,c≠47):Lib.hasPrefix l (a++[47])=(decide (1<(zau l).length) && ((zau l).getD 0 [] == a)):=by
 rw[Bool.eq_iff_iff]
 unfold Lib.hasPrefix
 simp only[List.isPrefixOf_iff_prefix,Bool.and_eq_true,decide_eq_true_eq,beq_iff_eq]
 constructor
 ·rintro ⟨m,rfl⟩
  rw[List.append_assoc,List.singleton_append,zmq,zjb a ha]
  have:=zcu m
  refine ⟨?_,rfl⟩
  cases h:zau m with
  | nil=>exact absurd h this
  | cons p ps=>simp
 ·rintro ⟨h1,h2⟩
  cases h:zau l with
  | nil=>rw[h] at h1;simp at h1
  | cons x r =>
   cases r with
   | nil=>rw[h] at h1;simp at h1
   | cons y ps =>
    obtain ⟨m,hm⟩:=zmr l x y ps h
    rw[h] at h2
    simp at h2
    subst h2
    exact ⟨m,by rw[hm];simp⟩
set_option maxHeartbeats 2000000 in
theorem zm9 (w:World) (l:List UInt8) (hl:l.length≤100000):Calls Tryz.prog 147 #[.string (str l)] w fun e w'=>e = .returned (.bool ((zau l).all zbu))∧w.grownBy w' none:=by
 have c1:=zm4 w l hl
 have hcnt:=zcv l
 have hple:=zhn l
 obtain ⟨S,hS⟩:∃ S,S=str l:=⟨_,rfl⟩
 obtain ⟨L,hL⟩:∃ L,L=zau l:=⟨_,rfl⟩
 rw[← hS] at c1 ⊢
 rw[← hL] at c1 hcnt hple ⊢
 obtain ⟨HL,HCN,HPL⟩:=zh3 hl hcnt hple
 clear hS hl hcnt hple hL
 go_enter Tryz.func147,Tryz.ntmps147
 go_wp2_with fail
 refine c1.mono ?_
 rintro e w1 ⟨v1,rfl,hv1,g1⟩
 clear c1
 obtain ⟨ao,c,rfl,hs1⟩:=hv1.open
 obtain ⟨q,hq⟩:∃ q,q=L.length:=⟨_,rfl⟩
 rw[← hq]
 have hq6:q≤1000000:=by have h1:=uh HCN;have h2:=uh HL;omega
 have HQ:=hide hq
 clear hq hv1
 go_wp2
 go_loopw [8] (fun i wr=>∃ k:Nat,k≤q∧i = .int .i64 k∧Hid ((L.take k).all zbu=true)∧w1.grownBy wr none) (fun i _=>q - (intOf i).toNat)
 case atStart=>exact ⟨0,Nat.zero_le _,rfl,by exact rfl,zaa _ _⟩
 case round =>
  obtain ⟨k,hk,rfl,hA,hg⟩:=hrel
  by_cases hlt:k<q
  ·have hkL:k<L.length:=by rw[← uh HQ];exact hlt
   have hki:(k:Int)<(q:Int):=by omega
   have HK:=hide (show k+1≤q from hlt)
   have hk0:(0:Int)≤(k:Int):=by omega
   obtain ⟨b,rfl,hc⟩:=(hs1.kept hg).at k hkL
   have hxl:L[k].length≤100000:=Nat.le_trans (uh HPL _ (List.getElem_mem hkL)) (uh HL)
   have htk:L.take (k+1)=L.take k++[L[k]]:=List.take_succ_eq_append_getElem hkL
   have hex:zbu L[k]=false→L.all zbu=false:=fun h=>by
    rw[← Bool.not_eq_true]
    intro h2
    have:=List.all_eq_true.1 h2 _ (List.getElem_mem hkL)
    rw[h] at this
    cases this
   obtain ⟨x,hx⟩:∃ x,x=L[k]:=⟨_,rfl⟩
   rw[← hx] at hc hxl htk hex
   have c2:=fun V=>zkr V x hxl
   obtain ⟨HT,HE⟩:=zh2 htk hex
   clear hx hxl htk hex
   cases hp:zbu x with
   | false =>
    rw[hp] at c2
    go_wp2_with fail
    refine (c2 _).mono ?_
    rintro e w2 ⟨rfl,g2⟩
    clear c2
    have hall:=uh HE hp
    go_wp2
    go_ret
    exact ⟨by first | rfl | (rw[hall];rfl),tn (tn g1 hg) g2⟩
   | true =>
    rw[hp] at c2
    go_wp2_with fail
    refine (c2 _).mono ?_
    rintro e w2 ⟨rfl,g2⟩
    clear c2
    have hA2:Hid ((L.take (k+1)).all zbu=true):=by
     rw[uh HT,List.all_append,hA.out,List.all_cons,hp]
     exact rfl
    have g12:=tn hg g2
    clear hc HT HE
    go_wp2
    go_roundw
    case rel=>exact ⟨k+1,uh HK,by go_num,hA2,g12⟩
    case measure=>have:=uh HK;simp[intOf];omega
  ·obtain rfl:k=q:=by omega
   have hki:¬ (k:Int)<(k:Int):=by omega
   have hall:L.all zbu=true:=by
    have:=hA.out
    rw[uh HQ,List.take_length] at this
    exact this
   have HA:=hide hall
   clear hA hall
   go_wp2
   go_ret
   exact ⟨by rw[uh HA];rfl,tn g1 hg⟩
set_option maxHeartbeats 1000000 in
theorem zrl (w:World) (l:List UInt8) (hl:l.length≤100000):Calls Tryz.prog 141 #[.string (str l)] w fun e w'=>e = .returned (.int .i64 (zdt l))∧w.grownBy w' none:=by
 have c1:=zm9 w l hl
 have c2:=fun V=>zfu V l (ze4++[47])
 have c3:=fun V=>zfu V l (zic++[47])
 obtain ⟨n,hn⟩:∃ n,n=l.length:=⟨_,rfl⟩
 have hsz:(str l).size=n:=by rw[zaj,hn]
 have hK:zdt l=if n≤64∧(zau l).all zbu=true then (if Lib.hasPrefix l (ze4++[47])=true then 1 else if Lib.hasPrefix l (zic++[47])=true then 2 else 0) else 0:=by rw[hn];rfl
 obtain ⟨S,hS⟩:∃ S,S=str l:=⟨_,rfl⟩
 obtain ⟨b1,hb1⟩:∃ b,b=(zau l).all zbu:=⟨_,rfl⟩
 obtain ⟨b2,hb2⟩:∃ b,b=Lib.hasPrefix l (ze4++[47]):=⟨_,rfl⟩
 obtain ⟨b3,hb3⟩:∃ b,b=Lib.hasPrefix l (zic++[47]):=⟨_,rfl⟩
 rw[← hS] at c1 hsz ⊢
 rw[← hb1] at c1 hK
 rw[← hb2,← hb3] at hK
 simp only[← hS,← hb2] at c2
 simp only[← hS,← hb3] at c3
 have HK:=hide hK
 clear hn hl hK hS hb1 hb2 hb3
 by_cases h64:n≤64
 ·have h64i:¬ (64:Int)<(n:Int):=by omega
  cases b1
  ·have HR:=hide (show zdt l=0 by rw[uh HK,if_neg (fun e=>by cases e.2)])
   clear HK c2 c3
   go_enter Tryz.func141,Tryz.ntmps141
   go_wp2_with (go_at_call 147;refine c1.mono ?_;rintro e w1 ⟨rfl,g1⟩;clear c1)
   go_ret
   exact ⟨by rw[uh HR];rfl,g1⟩
  ·cases b2
   ·cases b3
    ·have HR:=hide (show zdt l=0 by rw[uh HK,if_pos ⟨h64,rfl⟩];rfl)
     clear HK
     go_enter Tryz.func141,Tryz.ntmps141
     go_wp2_with (first
      | (go_at_call 147;refine c1.mono ?_;rintro e w1 ⟨rfl,g1⟩;clear c1)
      | (go_at_call 148;refine (c2 _).mono ?_;rintro e w2 ⟨rfl,hw2⟩;subst w2;clear c2))
     go_wp2_with (go_at_call 148;refine (c3 _).mono ?_;rintro e w2 ⟨rfl,hw2⟩;subst w2;clear c3)
     go_ret
     exact ⟨by rw[uh HR];rfl,g1⟩
    ·have HR:=hide (show zdt l=2 by rw[uh HK,if_pos ⟨h64,rfl⟩];rfl)
     clear HK
     go_enter Tryz.func141,Tryz.ntmps141
     go_wp2_with (first
      | (go_at_call 147;refine c1.mono ?_;rintro e w1 ⟨rfl,g1⟩;clear c1)
      | (go_at_call 148;refine (c2 _).mono ?_;rintro e w2 ⟨rfl,hw2⟩;subst w2;clear c2))
     go_wp2_with (go_at_call 148;refine (c3 _).mono ?_;rintro e w2 ⟨rfl,hw2⟩;subst w2;clear c3)
     go_ret
     exact ⟨by rw[uh HR];rfl,g1⟩
   ·have HR:=hide (show zdt l=1 by rw[uh HK,if_pos ⟨h64,rfl⟩];rfl)
    clear HK c3
    go_enter Tryz.func141,Tryz.ntmps141
    go_wp2_with (first
     | (go_at_call 147;refine c1.mono ?_;rintro e w1 ⟨rfl,g1⟩;clear c1)
     | (go_at_call 148;refine (c2 _).mono ?_;rintro e w2 ⟨rfl,hw2⟩;subst w2;clear c2))
    go_ret
    exact ⟨by rw[uh HR];rfl,g1⟩
 ·have h64i:(64:Int)<(n:Int):=by omega
  have HR:=hide (show zdt l=0 by rw[uh HK,if_neg (fun e=>h64 e.1)])
  clear HK c1 c2 c3
  go_enter Tryz.func141,Tryz.ntmps141
  go_wp2
  go_ret
  exact ⟨by rw[uh HR];rfl,zaa _ _⟩
theorem ztn (l:List UInt8) (h:0<l.length):zbu l=(!(l[0] == 45) && !(l[0] == 46) && !(l[l.length - 1] == 46) && zd3 false l && !(Lib.hasSuffix l zib)):=by
 cases l with
 | nil=>simp at h
 | cons c r =>
  have h1:Lib.hasPrefix (c::r) [45]=(c == 45):=by
   unfold Lib.hasPrefix
   simp[List.isPrefixOf]
   rw[Bool.eq_iff_iff];simp only[beq_iff_eq];exact eq_comm
  have h2:zf4 true (c::r)=((c::r)[(c::r).length - 1] == 46):=by
   rw[zkf _ _ (by simp),List.getLast_eq_getElem]
  have h3:zd3 true (c::r)=(!(c == 46) && zd3 false (c::r)):=by
   simp only[zd3]
   cases (c == 46) <;> simp
  unfold zbu
  rw[h1,zq4,h2,h3]
  simp only[List.getElem_cons_zero]
  cases (c == 45) <;> cases (c == 46) <;> cases ((c::r)[(c::r).length - 1] == 46) <;> cases (zd3 false (c::r)) <;> cases (Lib.hasSuffix (c::r) zib) <;> rfl
set_option maxHeartbeats 2000000 in
theorem zo7 (w:World) (l:List UInt8) (hl:l.length≤100000):Calls Tryz.prog 131 #[.string (str l)] w fun e w'=>e = .returned (.bool (zbu l))∧w.grownBy w' none:=by
 obtain ⟨S,hS⟩:∃ S,S=str l:=⟨_,rfl⟩
 obtain ⟨n,hn⟩:∃ n,n=l.length:=⟨_,rfl⟩
 have hsz:S.size=n:=by rw[hS,zaj,hn]
 obtain ⟨LL,hLL⟩:∃ L,L=S.toList:=⟨_,rfl⟩
 have hLl:LL=l:=by rw[hLL,hS,zaz]
 have ix:∀ (p:Nat) (hp:p<l.length) (n:Nat),n=l[p].toNat→∀ W,(Instr.index 9 (.string S) (.int .i64 (p:Int))).run Tryz.prog W = .ok (.int .u8 (n:Int)) W:=fun p hp n hn W=>by rw[hS];exact zgs l p n hp hn W
 have sf:∀ lo:Nat,lo≤l.length→∀ W,(Instr.slice 9 (.string S) (some (.int .i64 (lo:Int))) none none).run Tryz.prog W = .ok (.string (str (l.drop lo))) W:=fun lo h2 W=>by rw[hS];exact zdi l lo h2 W
 rw[← hS]
 by_cases h0:l.length=0
 ·have hl0:=List.eq_nil_of_length_eq_zero h0
  have e1:LL=[]:=by rw[hLl,hl0]
  have hT:=hLL.symm
  have HR:=hide (show zbu l=false by rw[hl0];rfl)
  clear hS hn hl hLL hLl ix h0 hl0 sf
  go_enter Tryz.func131,Tryz.ntmps131
  go_wp2
  go_ret
  exact ⟨by rw[uh HR];rfl,zaa _ _⟩
 ·have hpos:0<l.length:=by omega
  have hG:=ztn l hpos
  have n1:¬ LL=[]:=fun e=>h0 (by rw[← hLl,e];rfl)
  have hT:=hLL.symm
  have e1:LL.isEmpty=false:=by simpa using n1
  obtain ⟨x0,hx0⟩:∃ x,x=l[0].toNat:=⟨_,rfl⟩
  obtain ⟨xl,hxl⟩:∃ x,x=l[l.length - 1].toNat:=⟨_,rfl⟩
  have ix0:∀ W,(Instr.index 9 (.string S) (.int .i64 0)).run Tryz.prog W = .ok (.int .u8 (x0:Int)) W:=ix 0 hpos x0 hx0
  have ixl:=ix (l.length - 1) (by omega) xl hxl
  have d0:(l[0] == 46)=((x0:Int) == 46):=by rw[zg4,← hx0]
  have dl:(l[l.length - 1] == 46)=((xl:Int) == 46):=by rw[zg4,← hxl]
  have b0:(l[0] == 45)=((x0:Int) == 45):=by
   rw[Bool.eq_iff_iff];simp only[beq_iff_eq]
   rw[← UInt8.toNat_inj,show (45:UInt8).toNat=45 from rfl,← hx0];omega
  rw[d0,dl,b0] at hG
  obtain ⟨m,hm⟩:∃ m,m=l.length - 1:=⟨_,rfl⟩
  rw[← hm] at ixl
  have hm1:(n:Int) - 1=(m:Int):=by omega
  have hm2:IntKind.i64.wrap (m:Int)=(m:Int):=by rw[IntKind.wrap_i64];omega
  obtain ⟨HS,HN,HL,IX,SF,HG⟩:=zh6 hS hn hl ix sf hG
  clear hS hn hl hLL hLl ix h0 sf hG hx0 hxl d0 dl b0 hm
  cases a1:((x0:Int) == 45)
  ·cases a2:((x0:Int) == 46)
   ·cases a3:((xl:Int) == 46)
    ·have hG2:zbu l=(zd3 false l && !(Lib.hasSuffix l zib)):=by rw[uh HG,a1,a2,a3];rfl
     have HG2:=hide hG2
     clear HG hG2
     go_enter Tryz.func131,Tryz.ntmps131
     go_wp2
     clear a1 a2 a3 n1 e1 hT ix0 ixl hm1 hm2
     go_loopw [3] (fun i wr=>∃ pos:Nat,pos≤n∧i = .int .i64 pos∧Hid (zd3 (decide (0<pos) && (l.getD (pos - 1) 0 == 46)) (l.drop pos)=zd3 false l)∧wr=w) (fun i _=>n - (intOf i).toNat)
     case atStart=>exact ⟨0,Nat.zero_le _,rfl,by exact rfl,rfl⟩
     case round =>
      obtain ⟨pos,hpn,rfl,hD,rfl⟩:=hrel
      have hpm:(pos:Int)+1<9223372036854775807:=by have:=uh HL;have:=uh HN;omega
      by_cases hlt:pos<n
      ·have hpl:pos<l.length:=by rw[← uh HN];exact hlt
       have hpi:(pos:Int)<(n:Int):=by omega
       have HK:=hide (show pos+1≤n from hlt)
       obtain ⟨x,hx⟩:∃ x,x=l[pos].toNat:=⟨_,rfl⟩
       have ixp:=uh IX pos hpl x hx
       have hsc:=zrk l pos (decide (0<pos) && (l.getD (pos - 1) 0 == 46)) hpl
       have e3:zeq l[pos]=zbn x:=by rw[hx];rfl
       have e4:(l[pos] == 46)=((x:Int) == 46):=by rw[zg4,← hx]
       have e5:l.getD (pos+1 - 1) 0=l[pos]:=by simp[List.getD,hpl]
       rw[hD.out,e3,e4] at hsc
       have hnext:zd3 ((x:Int) == 46) (l.drop (pos+1))=zd3 false l→Hid (zd3 (decide (0<pos+1) && (l.getD (pos+1 - 1) 0 == 46)) (l.drop (pos+1))=zd3 false l):=fun h=>by
        rw[e5,e4,show decide (0<pos+1)=true by simp,Bool.true_and]
        exact h
       have c3:=fun V=>zkh V (x:Int)
       have HNX:=hide hnext
       clear hx hD e3 e4 e5 hnext
       cases q1:zbn (x:Int)
       ·rw[q1] at hsc c3
        have HR:=hide (show zbu l=false by rw[uh HG2,hsc];rfl)
        clear hsc q1
        go_upto_region 6 with fail
        refine zby fun O hO => ?_
        refine zac (by rw[hO];kernel_rfl) (.string S) (fun K9 hK9=>by go_simp;exact hK9) ?_
        (try simp only[pq])
        refine zac (by rw[hO];kernel_rfl) (.int .i64 (pos:Int)) (fun K9 hK9=>by go_simp;exact hK9) ?_
        (try simp only[pq])
        refine zac (by rw[hO];kernel_rfl) (.int .u8 (x:Int)) (fun K9 hK9=>by go_simp;exact hK9) ?_
        (try simp only[pq])
        refine zcn (by rw[hO];kernel_rfl) fun K9 hK9 => ?_
        go_simp
        go_at_call 143
        refine (c3 _).mono ?_
        rintro e w1 ⟨rfl,hw1⟩
        subst w1
        clear c3
        refine hK9 _ _ ?_
        clear hK9 K9
        (try simp only[pq])
        refine zac (by rw[hO];kernel_rfl) (.bool true) (fun K9 hK9=>by go_simp;exact hK9) ?_
        (try simp only[pq])
        refine zac (by rw[hO];kernel_rfl) (.bool true) (fun K9 hK9=>by go_simp;exact hK9) ?_
        (try simp only[pq])
        refine zan (by rw[hO];kernel_rfl) ?_
        (try simp only[pq])
        refine zan (by rw[hO];kernel_rfl) ?_
        (try simp only[pq])
        refine zan (by rw[hO];kernel_rfl) ?_
        (try simp only[pq])
        refine zan (by rw[hO];kernel_rfl) ?_
        (try simp only[pq])
        refine zan (by rw[hO];kernel_rfl) ?_
        (try simp only[pq])
        refine zan (by rw[hO];kernel_rfl) ?_
        (try simp only[pq])
        refine zan (by rw[hO];kernel_rfl) ?_
        (try simp only[pq])
        refine zan (by rw[hO];kernel_rfl) ?_
        (try simp only[pq])
        refine zan (by rw[hO];kernel_rfl) ?_
        (try simp only[pq])
        refine zan (by rw[hO];kernel_rfl) ?_
        (try simp only[pq])
        refine zan (by rw[hO];kernel_rfl) ?_
        (try simp only[pq])
        refine zan (by rw[hO];kernel_rfl) ?_
        (try simp only[pq])
        refine zan (by rw[hO];kernel_rfl) ?_
        (try simp only[pq])
        refine zan (by rw[hO];kernel_rfl) ?_
        (try simp only[pq])
        refine zan (by rw[hO];kernel_rfl) ?_
        (try simp only[pq])
        refine zac (by rw[hO];kernel_rfl) (.bool true) (fun K9 hK9=>by go_simp;exact hK9) ?_
        (try simp only[pq])
        go_wp2
        go_ret
        exact ⟨by rw[uh HR];rfl,zaa _ _⟩
       ·rw[q1] at hsc c3
        clear q1
        by_cases hz:pos=0
        ·have hp0i:¬ (0:Int)<(pos:Int):=by omega
         have hp0d:decide (0<pos)=false:=by simp;omega
         have hsc2:=uh HNX (by rw[hsc,hz];cases ((x:Int) == 46) <;> rfl)
         clear hsc HNX hz
         go_upto_region 6 with fail
         refine zby fun O hO => ?_
         refine zac (by rw[hO];kernel_rfl) (.string S) (fun K9 hK9=>by go_simp;exact hK9) ?_
         (try simp only[pq])
         refine zac (by rw[hO];kernel_rfl) (.int .i64 (pos:Int)) (fun K9 hK9=>by go_simp;exact hK9) ?_
         (try simp only[pq])
         refine zac (by rw[hO];kernel_rfl) (.int .u8 (x:Int)) (fun K9 hK9=>by go_simp;exact hK9) ?_
         (try simp only[pq])
         refine zcn (by rw[hO];kernel_rfl) fun K9 hK9 => ?_
         go_simp
         go_at_call 143
         refine (c3 _).mono ?_
         rintro e w1 ⟨rfl,hw1⟩
         subst w1
         clear c3
         refine hK9 _ _ ?_
         clear hK9 K9
         (try simp only[pq])
         refine zac (by rw[hO];kernel_rfl) (.bool false) (fun K9 hK9=>by go_simp;exact hK9) ?_
         (try simp only[pq])
         refine zac (by rw[hO];kernel_rfl) (.bool false) (fun K9 hK9=>by go_simp;exact hK9) ?_
         (try simp only[pq])
         refine zac (by rw[hO];kernel_rfl) (.int .i64 (pos:Int)) (fun K9 hK9=>by go_simp;exact hK9) ?_
         (try simp only[pq])
         refine zac (by rw[hO];kernel_rfl) (.bool false) (fun K9 hK9=>by go_simp;exact hK9) ?_
         (try simp only[pq])
         refine zac (by rw[hO];kernel_rfl) (.bool false) (fun K9 hK9=>by go_simp;exact hK9) ?_
         (try simp only[pq])
         refine zan (by rw[hO];kernel_rfl) ?_
         (try simp only[pq])
         refine zan (by rw[hO];kernel_rfl) ?_
         (try simp only[pq])
         refine zan (by rw[hO];kernel_rfl) ?_
         (try simp only[pq])
         refine zan (by rw[hO];kernel_rfl) ?_
         (try simp only[pq])
         refine zac (by rw[hO];kernel_rfl) (.bool false) (fun K9 hK9=>by go_simp;exact hK9) ?_
         (try simp only[pq])
         refine zac (by rw[hO];kernel_rfl) (.bool false) (fun K9 hK9=>by go_simp;exact hK9) ?_
         (try simp only[pq])
         refine zan (by rw[hO];kernel_rfl) ?_
         (try simp only[pq])
         refine zan (by rw[hO];kernel_rfl) ?_
         (try simp only[pq])
         refine zan (by rw[hO];kernel_rfl) ?_
         (try simp only[pq])
         refine zan (by rw[hO];kernel_rfl) ?_
         (try simp only[pq])
         refine zan (by rw[hO];kernel_rfl) ?_
         (try simp only[pq])
         refine zac (by rw[hO];kernel_rfl) (.bool false) (fun K9 hK9=>by go_simp;exact hK9) ?_
         (try simp only[pq])
         refine zac (by rw[hO];kernel_rfl) (.bool false) (fun K9 hK9=>by go_simp;exact hK9) ?_
         (try simp only[pq])
         go_wp2
         go_roundw
         case rel=>exact ⟨pos+1,uh HK,by go_num,hsc2,by first | rfl | trivial⟩
         case measure=>have:=uh HK;simp[intOf];omega
        ·have hp0:0<pos:=by omega
         have hp0i:(0:Int)<(pos:Int):=by omega
         obtain ⟨m,hm⟩:∃ m,m=pos - 1:=⟨_,rfl⟩
         have hml:m<l.length:=by omega
         obtain ⟨y,hy⟩:∃ y,y=l[m].toNat:=⟨_,rfl⟩
         have ixm:=uh IX m hml y hy
         have hm1:(pos:Int) - 1=(m:Int):=by omega
         have hm2:IntKind.i64.wrap (m:Int)=(m:Int):=by have:=uh HL;rw[IntKind.wrap_i64];omega
         rw[show decide (0<pos)=true by simp[hp0],← hm,show l.getD m 0=l[m] by simp[List.getD,hml],zg4,← hy] at hsc
         clear hm hy hz
         cases q2:((x:Int) == 46)
         ·rw[q2] at hsc
          have hsc2:=uh HNX (by rw[hsc,q2];rfl)
          clear hsc HNX
          go_upto_region 6 with fail
          refine zby fun O hO => ?_
          refine zac (by rw[hO];kernel_rfl) (.string S) (fun K9 hK9=>by go_simp;exact hK9) ?_
          (try simp only[pq])
          refine zac (by rw[hO];kernel_rfl) (.int .i64 (pos:Int)) (fun K9 hK9=>by go_simp;exact hK9) ?_
          (try simp only[pq])
          refine zac (by rw[hO];kernel_rfl) (.int .u8 (x:Int)) (fun K9 hK9=>by go_simp;exact hK9) ?_
          (try simp only[pq])
          refine zcn (by rw[hO];kernel_rfl) fun K9 hK9 => ?_
          go_simp
          go_at_call 143
          refine (c3 _).mono ?_
          rintro e w1 ⟨rfl,hw1⟩
          subst w1
          clear c3
          refine hK9 _ _ ?_
          clear hK9 K9
          (try simp only[pq])
          refine zac (by rw[hO];kernel_rfl) (.bool false) (fun K9 hK9=>by go_simp;exact hK9) ?_
          (try simp only[pq])
          refine zac (by rw[hO];kernel_rfl) (.bool false) (fun K9 hK9=>by go_simp;exact hK9) ?_
          (try simp only[pq])
          refine zac (by rw[hO];kernel_rfl) (.int .i64 (pos:Int)) (fun K9 hK9=>by go_simp;exact hK9) ?_
          (try simp only[pq])
          refine zac (by rw[hO];kernel_rfl) (.bool true) (fun K9 hK9=>by go_simp;exact hK9) ?_
          (try simp only[pq])
          refine zac (by rw[hO];kernel_rfl) (.bool true) (fun K9 hK9=>by go_simp;exact hK9) ?_
          (try simp only[pq])
          refine zac (by rw[hO];kernel_rfl) (.string S) (fun K9 hK9=>by go_simp;exact hK9) ?_
          (try simp only[pq])
          refine zac (by rw[hO];kernel_rfl) (.int .i64 (pos:Int)) (fun K9 hK9=>by go_simp;exact hK9) ?_
          (try simp only[pq])
          refine zac (by rw[hO];kernel_rfl) (.int .u8 (x:Int)) (fun K9 hK9=>by go_simp;exact hK9) ?_
          (try simp only[pq])
          refine zac (by rw[hO];kernel_rfl) (.bool false) (fun K9 hK9=>by go_simp;exact hK9) ?_
          (try simp only[pq])
          refine zac (by rw[hO];kernel_rfl) (.bool false) (fun K9 hK9=>by go_simp;exact hK9) ?_
          (try simp only[pq])
          refine zac (by rw[hO];kernel_rfl) (.bool false) (fun K9 hK9=>by go_simp;exact hK9) ?_
          (try simp only[pq])
          refine zan (by rw[hO];kernel_rfl) ?_
          (try simp only[pq])
          refine zan (by rw[hO];kernel_rfl) ?_
          (try simp only[pq])
          refine zan (by rw[hO];kernel_rfl) ?_
          (try simp only[pq])
          refine zan (by rw[hO];kernel_rfl) ?_
          (try simp only[pq])
          refine zan (by rw[hO];kernel_rfl) ?_
          (try simp only[pq])
          refine zac (by rw[hO];kernel_rfl) (.bool false) (fun K9 hK9=>by go_simp;exact hK9) ?_
          (try simp only[pq])
          refine zac (by rw[hO];kernel_rfl) (.bool false) (fun K9 hK9=>by go_simp;exact hK9) ?_
          (try simp only[pq])
          go_wp2
          go_roundw
          case rel=>exact ⟨pos+1,uh HK,by go_num,hsc2,by first | rfl | trivial⟩
          case measure=>have:=uh HK;simp[intOf];omega
         ·cases q3:((y:Int) == 46)
          ·rw[q2,q3] at hsc
           have hsc2:=uh HNX (by rw[hsc,q2];rfl)
           clear hsc HNX
           go_upto_region 6 with fail
           refine zby fun O hO => ?_
           refine zac (by rw[hO];kernel_rfl) (.string S) (fun K9 hK9=>by go_simp;exact hK9) ?_
           (try simp only[pq])
           refine zac (by rw[hO];kernel_rfl) (.int .i64 (pos:Int)) (fun K9 hK9=>by go_simp;exact hK9) ?_
           (try simp only[pq])
           refine zac (by rw[hO];kernel_rfl) (.int .u8 (x:Int)) (fun K9 hK9=>by go_simp;exact hK9) ?_
           (try simp only[pq])
           refine zcn (by rw[hO];kernel_rfl) fun K9 hK9 => ?_
           go_simp
           go_at_call 143
           refine (c3 _).mono ?_
           rintro e w1 ⟨rfl,hw1⟩
           subst w1
           clear c3
           refine hK9 _ _ ?_
           clear hK9 K9
           (try simp only[pq])
           refine zac (by rw[hO];kernel_rfl) (.bool false) (fun K9 hK9=>by go_simp;exact hK9) ?_
           (try simp only[pq])
           refine zac (by rw[hO];kernel_rfl) (.bool false) (fun K9 hK9=>by go_simp;exact hK9) ?_
           (try simp only[pq])
           refine zac (by rw[hO];kernel_rfl) (.int .i64 (pos:Int)) (fun K9 hK9=>by go_simp;exact hK9) ?_
           (try simp only[pq])
           refine zac (by rw[hO];kernel_rfl) (.bool true) (fun K9 hK9=>by go_simp;exact hK9) ?_
           (try simp only[pq])
           refine zac (by rw[hO];kernel_rfl) (.bool true) (fun K9 hK9=>by go_simp;exact hK9) ?_
           (try simp only[pq])
           refine zac (by rw[hO];kernel_rfl) (.string S) (fun K9 hK9=>by go_simp;exact hK9) ?_
           (try simp only[pq])
           refine zac (by rw[hO];kernel_rfl) (.int .i64 (pos:Int)) (fun K9 hK9=>by go_simp;exact hK9) ?_
           (try simp only[pq])
           refine zac (by rw[hO];kernel_rfl) (.int .u8 (x:Int)) (fun K9 hK9=>by go_simp;exact hK9) ?_
           (try simp only[pq])
           refine zac (by rw[hO];kernel_rfl) (.bool true) (fun K9 hK9=>by go_simp;exact hK9) ?_
           (try simp only[pq])
           refine zac (by rw[hO];kernel_rfl) (.bool true) (fun K9 hK9=>by go_simp;exact hK9) ?_
           (try simp only[pq])
           refine zac (by rw[hO];kernel_rfl) (.bool true) (fun K9 hK9=>by go_simp;exact hK9) ?_
           (try simp only[pq])
           refine zac (by rw[hO];kernel_rfl) (.string S) (fun K9 hK9=>by go_simp;exact hK9) ?_
           (try simp only[pq])
           refine zac (by rw[hO];kernel_rfl) (.int .i64 (pos:Int)) (fun K9 hK9=>by go_simp;exact hK9) ?_
           (try simp only[pq])
           refine zac (by rw[hO];kernel_rfl) (.int .i64 (m:Int)) (fun K9 hK9=>by go_simp;exact hK9) ?_
           (try simp only[pq])
           refine zac (by rw[hO];kernel_rfl) (.int .u8 (y:Int)) (fun K9 hK9=>by go_simp;exact hK9) ?_
           (try simp only[pq])
           refine zac (by rw[hO];kernel_rfl) (.bool false) (fun K9 hK9=>by go_simp;exact hK9) ?_
           (try simp only[pq])
           refine zac (by rw[hO];kernel_rfl) (.bool false) (fun K9 hK9=>by go_simp;exact hK9) ?_
           (try simp only[pq])
           refine zac (by rw[hO];kernel_rfl) (.bool false) (fun K9 hK9=>by go_simp;exact hK9) ?_
           (try simp only[pq])
           go_wp2
           go_roundw
           case rel=>exact ⟨pos+1,uh HK,by go_num,hsc2,by first | rfl | trivial⟩
           case measure=>have:=uh HK;simp[intOf];omega
          ·rw[q2,q3] at hsc
           have HR:=hide (show zbu l=false by rw[uh HG2,hsc];rfl)
           clear hsc HNX
           go_upto_region 6 with fail
           refine zby fun O hO => ?_
           refine zac (by rw[hO];kernel_rfl) (.string S) (fun K9 hK9=>by go_simp;exact hK9) ?_
           (try simp only[pq])
           refine zac (by rw[hO];kernel_rfl) (.int .i64 (pos:Int)) (fun K9 hK9=>by go_simp;exact hK9) ?_
           (try simp only[pq])
           refine zac (by rw[hO];kernel_rfl) (.int .u8 (x:Int)) (fun K9 hK9=>by go_simp;exact hK9) ?_
           (try simp only[pq])
           refine zcn (by rw[hO];kernel_rfl) fun K9 hK9 => ?_
           go_simp
           go_at_call 143
           refine (c3 _).mono ?_
           rintro e w1 ⟨rfl,hw1⟩
           subst w1
           clear c3
           refine hK9 _ _ ?_
           clear hK9 K9
           (try simp only[pq])
           refine zac (by rw[hO];kernel_rfl) (.bool false) (fun K9 hK9=>by go_simp;exact hK9) ?_
           (try simp only[pq])
           refine zac (by rw[hO];kernel_rfl) (.bool false) (fun K9 hK9=>by go_simp;exact hK9) ?_
           (try simp only[pq])
           refine zac (by rw[hO];kernel_rfl) (.int .i64 (pos:Int)) (fun K9 hK9=>by go_simp;exact hK9) ?_
           (try simp only[pq])
           refine zac (by rw[hO];kernel_rfl) (.bool true) (fun K9 hK9=>by go_simp;exact hK9) ?_
           (try simp only[pq])
           refine zac (by rw[hO];kernel_rfl) (.bool true) (fun K9 hK9=>by go_simp;exact hK9) ?_
           (try simp only[pq])
           refine zac (by rw[hO];kernel_rfl) (.string S) (fun K9 hK9=>by go_simp;exact hK9) ?_
           (try simp only[pq])
           refine zac (by rw[hO];kernel_rfl) (.int .i64 (pos:Int)) (fun K9 hK9=>by go_simp;exact hK9) ?_
           (try simp only[pq])
           refine zac (by rw[hO];kernel_rfl) (.int .u8 (x:Int)) (fun K9 hK9=>by go_simp;exact hK9) ?_
           (try simp only[pq])
           refine zac (by rw[hO];kernel_rfl) (.bool true) (fun K9 hK9=>by go_simp;exact hK9) ?_
           (try simp only[pq])
           refine zac (by rw[hO];kernel_rfl) (.bool true) (fun K9 hK9=>by go_simp;exact hK9) ?_
           (try simp only[pq])
           refine zac (by rw[hO];kernel_rfl) (.bool true) (fun K9 hK9=>by go_simp;exact hK9) ?_
           (try simp only[pq])
           refine zac (by rw[hO];kernel_rfl) (.string S) (fun K9 hK9=>by go_simp;exact hK9) ?_
           (try simp only[pq])
           refine zac (by rw[hO];kernel_rfl) (.int .i64 (pos:Int)) (fun K9 hK9=>by go_simp;exact hK9) ?_
           (try simp only[pq])
           refine zac (by rw[hO];kernel_rfl) (.int .i64 (m:Int)) (fun K9 hK9=>by go_simp;exact hK9) ?_
           (try simp only[pq])
           refine zac (by rw[hO];kernel_rfl) (.int .u8 (y:Int)) (fun K9 hK9=>by go_simp;exact hK9) ?_
           (try simp only[pq])
           refine zac (by rw[hO];kernel_rfl) (.bool true) (fun K9 hK9=>by go_simp;exact hK9) ?_
           (try simp only[pq])
           refine zac (by rw[hO];kernel_rfl) (.bool true) (fun K9 hK9=>by go_simp;exact hK9) ?_
           (try simp only[pq])
           refine zac (by rw[hO];kernel_rfl) (.bool true) (fun K9 hK9=>by go_simp;exact hK9) ?_
           (try simp only[pq])
           go_wp2
           go_ret
           exact ⟨by rw[uh HR];rfl,zaa _ _⟩
      ·have hpi:¬ (pos:Int)<(n:Int):=by omega
       have hR:zbu l = !(Lib.hasSuffix l zib):=by
        rw[uh HG2,← hD.out,List.drop_eq_nil_of_le (by rw[← uh HN];omega)]
        rfl
       rw[← Lib.hasSuffix_of_drop,show zib.length=5 from rfl,← uh HN] at hR
       by_cases h5:n<5
       ·have h5i:(n:Int)<5:=by omega
        have HR:=hide (show zbu l=true by rw[hR];simp;omega)
        clear hR hD
        go_wp2
        go_ret
        exact ⟨by rw[uh HR];rfl,zaa _ _⟩
       ·have h5i:¬ (n:Int)<5:=by omega
        obtain ⟨k,hk⟩:∃ k,k=n - 5:=⟨_,rfl⟩
        have hk1:(n:Int) - 5=(k:Int):=by omega
        have hk2:IntKind.i64.wrap (k:Int)=(k:Int):=by have:=uh HL;have:=uh HN;rw[IntKind.wrap_i64];omega
        have sf:=uh SF k (by have:=uh HN;omega)
        rw[← hk,show decide (5≤n)=true by simp;omega,Bool.true_and] at hR
        obtain ⟨SX,hSX⟩:∃ s,s=str (l.drop k):=⟨_,rfl⟩
        obtain ⟨LX,hLX⟩:∃ s,s=SX.toList:=⟨_,rfl⟩
        have hLx:LX=l.drop k:=by rw[hLX,hSX,zaz]
        rw[← hSX] at sf
        rw[← hLx] at hR
        have hTX:=hLX.symm
        have HR:=hide hR
        clear hR hD hLx hSX hLX hk
        go_wp2
        go_ret
        exact ⟨by rw[uh HR];rfl,zaa _ _⟩
    ·have HR:=hide (show zbu l=false by rw[uh HG,a1,a2,a3];rfl)
     clear HG
     go_enter Tryz.func131,Tryz.ntmps131
     go_wp2
     go_ret
     exact ⟨by rw[uh HR];rfl,zaa _ _⟩
   ·have HR:=hide (show zbu l=false by rw[uh HG,a1,a2];rfl)
    clear HG
    go_enter Tryz.func131,Tryz.ntmps131
    go_wp2
    go_ret
    exact ⟨by rw[uh HR];rfl,zaa _ _⟩
  ·have HR:=hide (show zbu l=false by rw[uh HG,a1];rfl)
   clear HG
   go_enter Tryz.func131,Tryz.ntmps131
   go_wp2
   go_ret
   exact ⟨by rw[uh HR];rfl,zaa _ _⟩
set_option maxHeartbeats 2000000 in
theorem zo8 (w:World) (l:List UInt8) (hl:l.length≤100000):Calls Tryz.prog 106 #[.string (str l)] w fun e w'=>e = .returned (.int .i64 (zdt l))∧w.grownBy w' none:=by
 have c1:=zm5 w l hl
 have hcnt:=zcv l
 have hple:=zhn l
 obtain ⟨n,hn⟩:∃ n,n=l.length:=⟨_,rfl⟩
 have hsz:(str l).size=n:=by rw[zaj,hn]
 have hK:zdt l=if n≤64∧(zau l).all zbu=true then (if (decide (1<(zau l).length) && ((zau l).getD 0 [] == ze4))=true then 1 else if (decide (1<(zau l).length) && ((zau l).getD 0 [] == zic))=true then 2 else 0) else 0:=by
  rw[hn,← zl4 l ze4 (by decide),← zl4 l zic (by decide)];rfl
 obtain ⟨S,hS⟩:∃ S,S=str l:=⟨_,rfl⟩
 obtain ⟨L,hL⟩:∃ L,L=zau l:=⟨_,rfl⟩
 rw[← hS] at c1 hsz ⊢
 rw[← hL] at c1 hcnt hple hK
 obtain ⟨HK,HL,HCN,HPL⟩:=zh4 hK hl hcnt hple
 clear hS hl hcnt hple hL hK hn
 by_cases h64:n≤64
 ·have h64i:¬ (64:Int)<(n:Int):=by omega
  go_enter Tryz.func106,Tryz.ntmps106
  go_wp2_with fail
  refine c1.mono ?_
  rintro e w1 ⟨v1,rfl,hv1,g1⟩
  clear c1
  obtain ⟨ao,c,rfl,hs1⟩:=hv1.open
  obtain ⟨q,hq⟩:∃ q,q=L.length:=⟨_,rfl⟩
  rw[← hq]
  have hq6:q≤1000000:=by have h1:=uh HCN;have h2:=uh HL;omega
  have HQ:=hide hq
  clear hq hv1
  go_wp2
  go_loopw [4] (fun i wr=>∃ k:Nat,k≤q∧i = .int .i64 k∧Hid ((L.take k).all zbu=true)∧w1.grownBy wr none) (fun i _=>q - (intOf i).toNat)
  case atStart=>exact ⟨0,Nat.zero_le _,rfl,by exact rfl,zaa _ _⟩
  case round =>
   obtain ⟨k,hk,rfl,hA,hg⟩:=hrel
   by_cases hlt:k<q
   ·have hkL:k<L.length:=by rw[← uh HQ];exact hlt
    have hki:(k:Int)<(q:Int):=by omega
    have HKK:=hide (show k+1≤q from hlt)
    have hk0:(0:Int)≤(k:Int):=by omega
    obtain ⟨b,rfl,hc⟩:=(hs1.kept hg).at k hkL
    have hxl:L[k].length≤100000:=Nat.le_trans (uh HPL _ (List.getElem_mem hkL)) (uh HL)
    have htk:L.take (k+1)=L.take k++[L[k]]:=List.take_succ_eq_append_getElem hkL
    have hex:zbu L[k]=false→L.all zbu=false:=fun h=>by
     rw[← Bool.not_eq_true]
     intro h2
     have:=List.all_eq_true.1 h2 _ (List.getElem_mem hkL)
     rw[h] at this
     cases this
    obtain ⟨x,hx⟩:∃ x,x=L[k]:=⟨_,rfl⟩
    rw[← hx] at hc hxl htk hex
    have c2:=fun V=>zo7 V x hxl
    obtain ⟨HT,HE⟩:=zh2 htk hex
    clear hx hxl htk hex
    cases hp:zbu x with
    | false =>
     rw[hp] at c2
     have HR:=hide (show zdt l=0 by rw[uh HK,if_neg (fun e=>by rw[uh HE hp] at e;cases e.2)])
     go_wp2_with fail
     refine (c2 _).mono ?_
     rintro e w2 ⟨rfl,g2⟩
     clear c2
     go_wp2
     go_ret
     exact ⟨by rw[uh HR];rfl,tn (tn g1 hg) g2⟩
    | true =>
     rw[hp] at c2
     go_wp2_with fail
     refine (c2 _).mono ?_
     rintro e w2 ⟨rfl,g2⟩
     clear c2
     have hA2:Hid ((L.take (k+1)).all zbu=true):=by
      rw[uh HT,List.all_append,hA.out,List.all_cons,hp]
      exact rfl
     have g12:=tn hg g2
     clear hc HT HE
     go_wp2
     go_roundw
     case rel=>exact ⟨k+1,uh HKK,by go_num,hA2,g12⟩
     case measure=>have:=uh HKK;simp[intOf];omega
   ·obtain rfl:k=q:=by omega
    have hki:¬ (k:Int)<(k:Int):=by omega
    have hall:L.all zbu=true:=by
     have:=hA.out
     rw[uh HQ,List.take_length] at this
     exact this
    have hK2:=uh HK
    rw[if_pos ⟨h64,hall⟩,← uh HQ] at hK2
    have G:=tn g1 hg
    clear hA hall HK
    by_cases h1:1<k
    ·have h1i:(1:Int)<(k:Int):=by omega
     have h0i:(0:Int)<(k:Int):=by omega
     have h0L:0<L.length:=by have:=uh HQ;omega
     obtain ⟨b,rfl,hc⟩:=(hs1.kept hg).at 0 h0L
     rw[show L.getD 0 []=L[0] by simp[List.getD,h0L],show decide (1<k)=true by simp[h1],Bool.true_and,Bool.true_and] at hK2
     obtain ⟨x,hx⟩:∃ x,x=L[0]:=⟨_,rfl⟩
     rw[← hx] at hc hK2
     obtain ⟨X,hX⟩:∃ X,X=str x:=⟨_,rfl⟩
     obtain ⟨LX,hLX⟩:∃ s,s=X.toList:=⟨_,rfl⟩
     have hLx:LX=x:=by rw[hLX,hX,zaz]
     rw[← hX] at hc
     rw[← hLx] at hK2
     have hTX:=hLX.symm
     clear hx hX hLX hLx
     cases b1:(LX == ze4)
     ·have n1:¬ LX=[104,101,97,100,115]:=by simpa[ze4] using b1
      cases b2:(LX == zic)
      ·have n2:¬ LX=[116,97,103,115]:=by simpa[zic] using b2
       have HR:=hide (show zdt l=0 by rw[hK2,b1,b2];rfl)
       have b1' : (LX == [104,101,97,100,115])=false:=b1
       have b2' : (LX == [116,97,103,115])=false:=b2
       clear hK2 b1 b2
       go_wp2
       go_ret
       exact ⟨by rw[uh HR];rfl,G⟩
      ·have n2:LX=[116,97,103,115]:=by simpa[zic] using b2
       have HR:=hide (show zdt l=2 by rw[hK2,b1,b2];rfl)
       clear hK2 b1 b2
       subst n2
       go_wp2
       go_ret
       exact ⟨by rw[uh HR];rfl,G⟩
     ·have n1:LX=[104,101,97,100,115]:=by simpa[ze4] using b1
      have HR:=hide (show zdt l=1 by rw[hK2,b1];rfl)
      clear hK2 b1
      subst n1
      go_wp2
      go_ret
      exact ⟨by rw[uh HR];rfl,G⟩
    ·have h1i:¬ (1:Int)<(k:Int):=by omega
     rw[show decide (1<k)=false by simp;omega,Bool.false_and,Bool.false_and] at hK2
     have HR:=hide (show zdt l=0 by rw[hK2];rfl)
     clear hK2
     go_wp2
     go_ret
     exact ⟨by rw[uh HR];rfl,G⟩
 ·have h64i:(64:Int)<(n:Int):=by omega
  have HR:=hide (show zdt l=0 by rw[uh HK,if_neg (fun e=>h64 e.1)])
  clear HK c1
  go_enter Tryz.func106,Tryz.ntmps106
  go_wp2
  go_ret
  exact ⟨by rw[uh HR];rfl,zaa _ _⟩
end Go.Proofs.YtegbbkgmiklhcaaGreatDoor
