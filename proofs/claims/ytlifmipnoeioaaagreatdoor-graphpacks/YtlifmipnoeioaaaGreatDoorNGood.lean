/- Lemmas. -/
import Derived.Test.YtlifmipnoeioaaaGreatDoorMStr
import Derived.Shelf.Strings.Prefix
import Derived.Test.YtlifmipnoeioaaaGreatDoorNPartR
import Derived.Test.YtlifmipnoeioaaaGreatDoorNLetR
namespace Go.Proofs.YtlifmipnoeioaaaGreatDoor
open Go.RowKit Go.Shelf
def preR:Ren :=
 ⟨fun n=>if n=99 then 123 else if n=206 then 152 else if n=100 then 169 else if n=207 then 178 else n,
 fun n=>if n=3 then 3 else if n=4 then 4 else if n=9 then 9 else n,
 fun n=>n⟩
theorem pre99:Lays.n99 Tryz.prog preR:=by constructor <;> (intros;kernel_rfl)
theorem pre100:Lays.n100 Tryz.prog preR:=by constructor <;> (intros;kernel_rfl)
theorem prefix_any (w:World) (s p:List UInt8):Calls Tryz.prog 123 #[.string (str s),.string (str p)] w fun e w'=>e = .returned (.bool (Lib.hasPrefix s p))∧w'=w :=
 Any.strings_HasPrefix pre99 (str s) (str p) w
theorem suffix_any (w:World) (s p:List UInt8) (hs:s.length≤100000):Calls Tryz.prog 169 #[.string (str s),.string (str p)] w fun e w'=>e = .returned (.bool (Lib.hasSuffix s p))∧w'=w :=
 Any.strings_HasSuffix pre100 (str s) (str p) w (by rw [str_size];omega)
end Go.Proofs.YtlifmipnoeioaaaGreatDoor

/- Lemmas. -/
namespace Go.Proofs.YtlifmipnoeioaaaGreatDoor
open Go.RowKit
theorem letter_wide {x:Int} (h:128≤x):letterI x=false:=letter_no (by omega)
theorem scan_at (l:List UInt8) (k:Nat) (b:Bool) (h:k<l.length):scan b (l.drop k)=(letterB l[k] && !(l[k] == 46 && b) && scan (l[k] == 46) (l.drop (k+1))):=by
 rw [List.drop_eq_getElem_cons h];rfl
theorem scan2_at (l:List UInt8) (k:Nat) (b:Bool) (h:k<l.length):scan2 b (l.drop k)=(letterB l[k] && !(l[k] == 46 && b) && scan2 (l[k] == 46) (l.drop (k+1))):=by
 rw [List.drop_eq_getElem_cons h];rfl
theorem dot_nat (c:UInt8):(c == 46)=(((c.toNat:Nat):Int) == 46):=by
 rw [Bool.eq_iff_iff];simp only [beq_iff_eq]
 rw [← UInt8.toNat_inj,show (46:UInt8).toNat=46 from rfl];omega
set_option maxRecDepth 100000 in
set_option maxHeartbeats 2000000 in
theorem refpart_any (w:World) (l:List UInt8) (hl:l.length≤100000):Calls Tryz.prog 151 #[.string (str l)] w fun e w'=>e = .returned (.bool (goodL l))∧w.grownBy w' none:=by
 obtain ⟨S,hS⟩:∃ S,S=str l:=⟨_,rfl⟩
 obtain ⟨n,hn⟩:∃ n,n=l.length:=⟨_,rfl⟩
 have hsz:S.size=n:=by rw [hS,str_size,hn]
 have c1:=prefix_any w l [45]
 have c2:=suffix_any w l lockL hl
 have hG:goodL l=(!(Lib.hasPrefix l [45]) && !(Lib.hasSuffix l lockL) && scan true l):=rfl
 obtain ⟨b1,hb1⟩:∃ b,b=Lib.hasPrefix l [45]:=⟨_,rfl⟩
 obtain ⟨b2,hb2⟩:∃ b,b=Lib.hasSuffix l lockL:=⟨_,rfl⟩
 rw [← hb1] at c1 hG
 rw [← hb2] at c2 hG
 rw [← hS] at c1 c2 ⊢
 obtain ⟨HS,HN,HL,HG⟩:=zh4 hS hn hl hG
 clear hS hn hl hb1 hb2 hG
 cases b1
 ·cases b2
  ·have hG2:goodL l=scan true l:=by rw [uh HG];rfl
   have HG2:=hide hG2
   clear HG hG2
   go_enter Tryz.func151,Tryz.ntmps151
   go_wp2_with (first
    | (go_at_call 123;refine c1.mono ?_;rintro e w1 ⟨rfl,hw1⟩;subst w1;clear c1)
    | (go_at_call 169;refine c2.mono ?_;rintro e w2 ⟨rfl,hw2⟩;subst w2;clear c2))
   go_loopw [3,5] (fun b5 _ wr=>∃ (pos:Nat) (y:Int),pos≤n∧b5 = .int .i32 y∧Hid (scan (y == 46) (l.drop pos)=scan true l)∧wr.heap[w.heap.size]? = some (.stringIter S pos)∧w.grownBy wr none) (fun _ _ wr=>n - wr.iterPos w.heap.size)
   case atStart=>exact ⟨0,46,Nat.zero_le _,rfl,by exact rfl,World.iter_heap _ _ _,gb_alloc (gb_refl _ _) _⟩
   case round =>
    obtain ⟨pos,y,hpn,rfl,hD,hit,hg⟩:=hrel
    by_cases hlt:pos<n
    ·have hpl:pos<l.length:=by rw [← uh HN];exact hlt
     have hnx:∀ ty,(Instr.next (.pointer (some ⟨w.heap.size,0,none⟩)) true ty).run Tryz.prog wr=_:=fun ty=>Lib.run_next_any_at wr w.heap.size S pos ty hit (by rw [hsz];exact hlt)
     obtain ⟨x,hx⟩:∃ x,x=(Utf8.decode S pos).1:=⟨_,rfl⟩
     obtain ⟨m,hm⟩:∃ m,m=(Utf8.decode S pos).2:=⟨_,rfl⟩
     rw [← hx,← hm] at hnx
     have hat:=letter_at l pos hpl
     rw [← uh HS,← hx,← hm] at hat
     have hsc:=scan_at l pos (y == 46) hpl
     rw [hD.out] at hsc
     have hxx:(letterI x=false∧scan true l=false)∨(letterI x=true∧((x:Int) == 46)=true∧(y == 46)=true∧scan true l=false)∨(letterI x=true∧¬ (((x:Int) == 46)=true∧(y == 46)=true)∧m=1∧scan ((x:Int) == 46) (l.drop (pos+1))=scan true l):=by
      rcases hat with ⟨h1,e⟩ | ⟨h1,h2,_,_,_⟩
      ·have e1:x=l[pos].toNat:=by rw [hx,e]
       have e2:m=1:=by rw [hm,e]
       have e3:letterB l[pos]=letterI x:=by rw [e1];rfl
       have e4:(l[pos] == 46)=((x:Int) == 46):=by rw [dot_nat,← e1]
       rw [e3,e4] at hsc
       cases q1:letterI (x:Int)
       ·left
        rw [q1] at hsc
        exact ⟨rfl,hsc⟩
       ·right
        rw [q1] at hsc
        by_cases q2:((x:Int) == 46)=true∧(y == 46)=true
        ·left
         rw [q2.1,q2.2] at hsc
         exact ⟨rfl,q2.1,q2.2,hsc⟩
        ·right
         refine ⟨rfl,q2,e2,?_⟩
         have:((x:Int) == 46 && y == 46)=false:=by
          rw [← Bool.not_eq_true,Bool.and_eq_true]
          exact q2
         rw [this] at hsc
         rw [hsc]
         rfl
      ·left
       have e3:letterB l[pos]=false:=letter_wide (by omega)
       rw [e3] at hsc
       exact ⟨letter_wide (by omega),hsc⟩
     have hit2:=Lib.iterAt_heap wr w.heap.size S pos (pos+m) hit
     have hg2:=gb_iterAt hg w.heap.size S (pos+m) (Or.inl (Nat.le_refl _))
     have c3:=fun V=>letter_any V (x:Int)
     obtain ⟨HI,HI0⟩:=zh2 hit2 hit
     have HK:=hide (show pos+1≤n from hlt)
     clear hat hx hm hit hit2 hsc hD
     rcases hxx with ⟨q1,hR⟩ | ⟨q1,q2,q3,hR⟩ | ⟨q1,q2,rfl,hR⟩
     ·rw [q1] at c3
      have HR:=hide (show goodL l=false by rw [uh HG2];exact hR)
      clear hR q1
      go_wp2_with (go_at_call 170;refine (c3 _).mono ?_;rintro e w1 ⟨rfl,rfl⟩;clear c3)
      go_ret
      exact ⟨by rw [uh HR];rfl,hg2⟩
     ·rw [q1] at c3
      have HR:=hide (show goodL l=false by rw [uh HG2];exact hR)
      clear hR q1
      go_wp2_with (go_at_call 170;refine (c3 _).mono ?_;rintro e w1 ⟨rfl,rfl⟩;clear c3)
      go_ret
      exact ⟨by rw [uh HR];rfl,hg2⟩
     ·rw [q1] at c3
      have HR:=hide hR
      clear hR q1
      cases q3:((x:Int) == 46)
      ·rw [q3] at HR
       clear q2
       go_wp2_with (go_at_call 170;refine (c3 _).mono ?_;rintro e w1 ⟨rfl,rfl⟩;clear c3)
       go_roundw
       case rel=>exact ⟨pos+1,x,uh HK,rfl,by rw [q3];exact HR,uh HI,hg2⟩
       case measure =>
        have h1:=uh HK
        have h2:=uh HI
        have h3:=uh HI0
        simp only [World.iterPos,h2,h3]
        omega
      ·rw [q3] at HR
       have q4:(y == 46)=false:=by
        rw [← Bool.not_eq_true]
        exact fun e=>q2 ⟨q3,e⟩
       clear q2
       go_wp2_with (go_at_call 170;refine (c3 _).mono ?_;rintro e w1 ⟨rfl,rfl⟩;clear c3)
       go_roundw
       case rel=>exact ⟨pos+1,x,uh HK,rfl,by rw [q3];exact HR,uh HI,hg2⟩
       case measure =>
        have h1:=uh HK
        have h2:=uh HI
        have h3:=uh HI0
        simp only [World.iterPos,h2,h3]
        omega
    ·have hnx:∀ ty,(Instr.next (.pointer (some ⟨w.heap.size,0,none⟩)) true ty).run Tryz.prog wr=_:=fun ty=>Lib.run_next_end_at wr w.heap.size S pos ty hit (by rw [hsz];exact hlt)
     have HR:Hid (goodL l=(y != 46)):=by
      rw [uh HG2,← hD.out,List.drop_eq_nil_of_le (by rw [← uh HN];omega)]
      exact rfl
     clear hD
     go_wp2
     go_ret
     exact ⟨by rw [uh HR];rfl,hg⟩
  ·have HR:=hide (show goodL l=false by rw [uh HG];rfl)
   clear HG
   go_enter Tryz.func151,Tryz.ntmps151
   go_wp2_with (first
    | (go_at_call 123;refine c1.mono ?_;rintro e w1 ⟨rfl,hw1⟩;subst w1;clear c1)
    | (go_at_call 169;refine c2.mono ?_;rintro e w2 ⟨rfl,hw2⟩;subst w2;clear c2))
   go_ret
   exact ⟨by rw [uh HR];rfl,gb_refl _ _⟩
 ·have HR:=hide (show goodL l=false by rw [uh HG];rfl)
  clear HG c2
  go_enter Tryz.func151,Tryz.ntmps151
  go_wp2_with (go_at_call 123;refine c1.mono ?_;rintro e w1 ⟨rfl,hw1⟩;subst w1;clear c1)
  go_ret
  exact ⟨by rw [uh HR];rfl,gb_refl _ _⟩
end Go.Proofs.YtlifmipnoeioaaaGreatDoor
