/- Lemmas. -/
import Derived.Test.YthhnfloohbdaiaaGreatDoorNKind
import Derived.Deep.CutBlock
import Derived.Deep.DeepCutAuto
import Derived.Test.YthhnfloohbdaiaaGreatDoorNRefP
namespace Go.Proofs.YthhnfloohbdaiaaGreatDoor
open Go.RowKit
set_option maxRecDepth 100000
theorem zxi (l:List UInt8) (h:0<l.length):zcd l=(!(l[0] == 45) && !(l[0] == 46) && !(l[l.length - 1] == 46) && zet false l && !(Lib.hasSuffix l zj1)):=by
 cases l with
 | nil=>simp at h
 | cons c r =>
  have h1:Lib.hasPrefix (c::r) [45]=(c == 45):=by
   unfold Lib.hasPrefix
   simp[List.isPrefixOf]
   rw[Bool.eq_iff_iff];simp only[beq_iff_eq];exact eq_comm
  have h2:zg7 true (c::r)=((c::r)[(c::r).length - 1] == 46):=by
   rw[zl7 _ _ (by simp),List.getLast_eq_getElem]
  have h3:zet true (c::r)=(!(c == 46) && zet false (c::r)):=by
   simp only[zet]
   cases (c == 46) <;> simp
  unfold zcd
  rw[h1,zub,h2,h3]
  simp only[List.getElem_cons_zero]
  cases (c == 45) <;> cases (c == 46) <;> cases ((c::r)[(c::r).length - 1] == 46) <;> cases (zet false (c::r)) <;> cases (Lib.hasSuffix (c::r) zj1) <;> rfl
set_option maxHeartbeats 2000000 in
theorem zro (w:World) (l:List UInt8) (hl:l.length≤100000):Calls Tryz.prog 174 #[.string (str l)] w fun e w'=>e = .returned (.bool (zcd l))∧w.grownBy w' none:=by
 obtain ⟨S,hS⟩:∃ S,S=str l:=⟨_,rfl⟩
 obtain ⟨n,hn⟩:∃ n,n=l.length:=⟨_,rfl⟩
 have hsz:S.size=n:=by rw[hS,zao,hn]
 obtain ⟨LL,hLL⟩:∃ L,L=S.toList:=⟨_,rfl⟩
 have hLl:LL=l:=by rw[hLL,hS,za5]
 have ix:∀ (p:Nat) (hp:p<l.length) (n:Nat),n=l[p].toNat→∀ W,(Instr.index 9 (.string S) (.int .i64 (p:Int))).run Tryz.prog W = .ok (.int .u8 (n:Int)) W:=fun p hp n hn W=>by rw[hS];exact zhv l p n hp hn W
 have sf:∀ lo:Nat,lo≤l.length→∀ W,(Instr.slice 9 (.string S) (some (.int .i64 (lo:Int))) none none).run Tryz.prog W = .ok (.string (str (l.drop lo))) W:=fun lo h2 W=>by rw[hS];exact zff l lo h2 W
 rw[← hS]
 by_cases h0:l.length=0
 ·have hl0:=List.eq_nil_of_length_eq_zero h0
  have e1:LL=[]:=by rw[hLl,hl0]
  have hT:=hLL.symm
  have HR:=hide (show zcd l=false by rw[hl0];rfl)
  clear hS hn hl hLL hLl ix h0 hl0 sf
  go_enter Tryz.func174,Tryz.ntmps174
  go_wp2
  go_ret
  exact ⟨by rw[uh HR];rfl,zab _ _⟩
 ·have hpos:0<l.length:=by omega
  have hG:=zxi l hpos
  have n1:¬ LL=[]:=fun e=>h0 (by rw[← hLl,e];rfl)
  have hT:=hLL.symm
  have e1:LL.isEmpty=false:=by simpa using n1
  obtain ⟨x0,hx0⟩:∃ x,x=l[0].toNat:=⟨_,rfl⟩
  obtain ⟨xl,hxl⟩:∃ x,x=l[l.length - 1].toNat:=⟨_,rfl⟩
  have ix0:∀ W,(Instr.index 9 (.string S) (.int .i64 0)).run Tryz.prog W = .ok (.int .u8 (x0:Int)) W:=ix 0 hpos x0 hx0
  have ixl:=ix (l.length - 1) (by omega) xl hxl
  have d0:(l[0] == 46)=((x0:Int) == 46):=by rw[zic,← hx0]
  have dl:(l[l.length - 1] == 46)=((xl:Int) == 46):=by rw[zic,← hxl]
  have b0:(l[0] == 45)=((x0:Int) == 45):=by
   rw[Bool.eq_iff_iff];simp only[beq_iff_eq]
   rw[← UInt8.toNat_inj,show (45:UInt8).toNat=45 from rfl,← hx0];omega
  rw[d0,dl,b0] at hG
  obtain ⟨m,hm⟩:∃ m,m=l.length - 1:=⟨_,rfl⟩
  rw[← hm] at ixl
  have hm1:(n:Int) - 1=(m:Int):=by omega
  have hm2:IntKind.i64.wrap (m:Int)=(m:Int):=by rw[IntKind.wrap_i64];omega
  obtain ⟨HS,HN,HL,IX,SF,HG⟩:=zh6 hS hn hl ix sf hG
  clear hS hn hl hLL hLl ix h0 sf hG hx0 hxl d0 dl b0 hm
  cases a1:((x0:Int) == 45)
  ·cases a2:((x0:Int) == 46)
   ·cases a3:((xl:Int) == 46)
    ·have hG2:zcd l=(zet false l && !(Lib.hasSuffix l zj1)):=by rw[uh HG,a1,a2,a3];rfl
     have HG2:=hide hG2
     clear HG hG2
     go_enter Tryz.func174,Tryz.ntmps174
     go_wp2
     clear a1 a2 a3 n1 e1 hT ix0 ixl hm1 hm2
     go_loopw [3] (fun i wr=>∃ pos:Nat,pos≤n∧i = .int .i64 pos∧Hid (zet (decide (0<pos) && (l.getD (pos - 1) 0 == 46)) (l.drop pos)=zet false l)∧wr=w) (fun i _=>n - (intOf i).toNat)
     case atStart=>exact ⟨0,Nat.zero_le _,rfl,by exact rfl,rfl⟩
     case round =>
      obtain ⟨pos,hpn,rfl,hD,rfl⟩:=hrel
      have hpm:(pos:Int)+1<9223372036854775807:=by have:=uh HL;have:=uh HN;omega
      by_cases hlt:pos<n
      ·have hpl:pos<l.length:=by rw[← uh HN];exact hlt
       have hpi:(pos:Int)<(n:Int):=by omega
       have HK:=hide (show pos+1≤n from hlt)
       obtain ⟨x,hx⟩:∃ x,x=l[pos].toNat:=⟨_,rfl⟩
       have ixp:=uh IX pos hpl x hx
       have hsc:=zur l pos (decide (0<pos) && (l.getD (pos - 1) 0 == 46)) hpl
       have e3:zfi l[pos]=zb7 x:=by rw[hx];rfl
       have e4:(l[pos] == 46)=((x:Int) == 46):=by rw[zic,← hx]
       have e5:l.getD (pos+1 - 1) 0=l[pos]:=by simp[List.getD,hpl]
       rw[hD.out,e3,e4] at hsc
       have hnext:zet ((x:Int) == 46) (l.drop (pos+1))=zet false l→Hid (zet (decide (0<pos+1) && (l.getD (pos+1 - 1) 0 == 46)) (l.drop (pos+1))=zet false l):=fun h=>by
        rw[e5,e4,show decide (0<pos+1)=true by simp,Bool.true_and]
        exact h
       have c3:=fun V=>zl9 V (x:Int)
       have HNX:=hide hnext
       clear hx hD e3 e4 e5 hnext
       cases q1:zb7 (x:Int)
       ·rw[q1] at hsc c3
        have HR:=hide (show zcd l=false by rw[uh HG2,hsc];rfl)
        clear hsc q1
        go_upto_region 6 with fail
        refine za3 fun O hO => ?_
        refine zaa (by rw[hO];kernel_rfl) (.string S) (fun K9 hK9=>by go_simp;exact hK9) ?_
        (try simp only[pq])
        refine zaa (by rw[hO];kernel_rfl) (.int .i64 (pos:Int)) (fun K9 hK9=>by go_simp;exact hK9) ?_
        (try simp only[pq])
        refine zaa (by rw[hO];kernel_rfl) (.int .u8 (x:Int)) (fun K9 hK9=>by go_simp;exact hK9) ?_
        (try simp only[pq])
        refine zbj (by rw[hO];kernel_rfl) fun K9 hK9 => ?_
        go_simp
        go_at_call 180
        refine (c3 _).mono ?_
        rintro e w1 ⟨rfl,hw1⟩
        subst w1
        clear c3
        refine hK9 _ _ ?_
        clear hK9 K9
        (try simp only[pq])
        refine zaa (by rw[hO];kernel_rfl) (.bool true) (fun K9 hK9=>by go_simp;exact hK9) ?_
        (try simp only[pq])
        refine zaa (by rw[hO];kernel_rfl) (.bool true) (fun K9 hK9=>by go_simp;exact hK9) ?_
        (try simp only[pq])
        refine zac (by rw[hO];kernel_rfl) ?_
        (try simp only[pq])
        refine zac (by rw[hO];kernel_rfl) ?_
        (try simp only[pq])
        refine zac (by rw[hO];kernel_rfl) ?_
        (try simp only[pq])
        refine zac (by rw[hO];kernel_rfl) ?_
        (try simp only[pq])
        refine zac (by rw[hO];kernel_rfl) ?_
        (try simp only[pq])
        refine zac (by rw[hO];kernel_rfl) ?_
        (try simp only[pq])
        refine zac (by rw[hO];kernel_rfl) ?_
        (try simp only[pq])
        refine zac (by rw[hO];kernel_rfl) ?_
        (try simp only[pq])
        refine zac (by rw[hO];kernel_rfl) ?_
        (try simp only[pq])
        refine zac (by rw[hO];kernel_rfl) ?_
        (try simp only[pq])
        refine zac (by rw[hO];kernel_rfl) ?_
        (try simp only[pq])
        refine zac (by rw[hO];kernel_rfl) ?_
        (try simp only[pq])
        refine zac (by rw[hO];kernel_rfl) ?_
        (try simp only[pq])
        refine zac (by rw[hO];kernel_rfl) ?_
        (try simp only[pq])
        refine zac (by rw[hO];kernel_rfl) ?_
        (try simp only[pq])
        refine zaa (by rw[hO];kernel_rfl) (.bool true) (fun K9 hK9=>by go_simp;exact hK9) ?_
        (try simp only[pq])
        go_wp2
        go_ret
        exact ⟨by rw[uh HR];rfl,zab _ _⟩
       ·rw[q1] at hsc c3
        clear q1
        by_cases hz:pos=0
        ·have hp0i:¬ (0:Int)<(pos:Int):=by omega
         have hp0d:decide (0<pos)=false:=by simp;omega
         have hsc2:=uh HNX (by rw[hsc,hz];cases ((x:Int) == 46) <;> rfl)
         clear hsc HNX hz
         go_upto_region 6 with fail
         refine za3 fun O hO => ?_
         refine zaa (by rw[hO];kernel_rfl) (.string S) (fun K9 hK9=>by go_simp;exact hK9) ?_
         (try simp only[pq])
         refine zaa (by rw[hO];kernel_rfl) (.int .i64 (pos:Int)) (fun K9 hK9=>by go_simp;exact hK9) ?_
         (try simp only[pq])
         refine zaa (by rw[hO];kernel_rfl) (.int .u8 (x:Int)) (fun K9 hK9=>by go_simp;exact hK9) ?_
         (try simp only[pq])
         refine zbj (by rw[hO];kernel_rfl) fun K9 hK9 => ?_
         go_simp
         go_at_call 180
         refine (c3 _).mono ?_
         rintro e w1 ⟨rfl,hw1⟩
         subst w1
         clear c3
         refine hK9 _ _ ?_
         clear hK9 K9
         (try simp only[pq])
         refine zaa (by rw[hO];kernel_rfl) (.bool false) (fun K9 hK9=>by go_simp;exact hK9) ?_
         (try simp only[pq])
         refine zaa (by rw[hO];kernel_rfl) (.bool false) (fun K9 hK9=>by go_simp;exact hK9) ?_
         (try simp only[pq])
         refine zaa (by rw[hO];kernel_rfl) (.int .i64 (pos:Int)) (fun K9 hK9=>by go_simp;exact hK9) ?_
         (try simp only[pq])
         refine zaa (by rw[hO];kernel_rfl) (.bool false) (fun K9 hK9=>by go_simp;exact hK9) ?_
         (try simp only[pq])
         refine zaa (by rw[hO];kernel_rfl) (.bool false) (fun K9 hK9=>by go_simp;exact hK9) ?_
         (try simp only[pq])
         refine zac (by rw[hO];kernel_rfl) ?_
         (try simp only[pq])
         refine zac (by rw[hO];kernel_rfl) ?_
         (try simp only[pq])
         refine zac (by rw[hO];kernel_rfl) ?_
         (try simp only[pq])
         refine zac (by rw[hO];kernel_rfl) ?_
         (try simp only[pq])
         refine zaa (by rw[hO];kernel_rfl) (.bool false) (fun K9 hK9=>by go_simp;exact hK9) ?_
         (try simp only[pq])
         refine zaa (by rw[hO];kernel_rfl) (.bool false) (fun K9 hK9=>by go_simp;exact hK9) ?_
         (try simp only[pq])
         refine zac (by rw[hO];kernel_rfl) ?_
         (try simp only[pq])
         refine zac (by rw[hO];kernel_rfl) ?_
         (try simp only[pq])
         refine zac (by rw[hO];kernel_rfl) ?_
         (try simp only[pq])
         refine zac (by rw[hO];kernel_rfl) ?_
         (try simp only[pq])
         refine zac (by rw[hO];kernel_rfl) ?_
         (try simp only[pq])
         refine zaa (by rw[hO];kernel_rfl) (.bool false) (fun K9 hK9=>by go_simp;exact hK9) ?_
         (try simp only[pq])
         refine zaa (by rw[hO];kernel_rfl) (.bool false) (fun K9 hK9=>by go_simp;exact hK9) ?_
         (try simp only[pq])
         go_wp2
         go_roundw
         case rel=>exact ⟨pos+1,uh HK,by go_num,hsc2,by first | rfl | trivial⟩
         case measure=>have:=uh HK;simp[intOf];omega
        ·have hp0:0<pos:=by omega
         have hp0i:(0:Int)<(pos:Int):=by omega
         obtain ⟨m,hm⟩:∃ m,m=pos - 1:=⟨_,rfl⟩
         have hml:m<l.length:=by omega
         obtain ⟨y,hy⟩:∃ y,y=l[m].toNat:=⟨_,rfl⟩
         have ixm:=uh IX m hml y hy
         have hm1:(pos:Int) - 1=(m:Int):=by omega
         have hm2:IntKind.i64.wrap (m:Int)=(m:Int):=by have:=uh HL;rw[IntKind.wrap_i64];omega
         rw[show decide (0<pos)=true by simp[hp0],← hm,show l.getD m 0=l[m] by simp[List.getD,hml],zic,← hy] at hsc
         clear hm hy hz
         cases q2:((x:Int) == 46)
         ·rw[q2] at hsc
          have hsc2:=uh HNX (by rw[hsc,q2];rfl)
          clear hsc HNX
          go_upto_region 6 with fail
          refine za3 fun O hO => ?_
          refine zaa (by rw[hO];kernel_rfl) (.string S) (fun K9 hK9=>by go_simp;exact hK9) ?_
          (try simp only[pq])
          refine zaa (by rw[hO];kernel_rfl) (.int .i64 (pos:Int)) (fun K9 hK9=>by go_simp;exact hK9) ?_
          (try simp only[pq])
          refine zaa (by rw[hO];kernel_rfl) (.int .u8 (x:Int)) (fun K9 hK9=>by go_simp;exact hK9) ?_
          (try simp only[pq])
          refine zbj (by rw[hO];kernel_rfl) fun K9 hK9 => ?_
          go_simp
          go_at_call 180
          refine (c3 _).mono ?_
          rintro e w1 ⟨rfl,hw1⟩
          subst w1
          clear c3
          refine hK9 _ _ ?_
          clear hK9 K9
          (try simp only[pq])
          refine zaa (by rw[hO];kernel_rfl) (.bool false) (fun K9 hK9=>by go_simp;exact hK9) ?_
          (try simp only[pq])
          refine zaa (by rw[hO];kernel_rfl) (.bool false) (fun K9 hK9=>by go_simp;exact hK9) ?_
          (try simp only[pq])
          refine zaa (by rw[hO];kernel_rfl) (.int .i64 (pos:Int)) (fun K9 hK9=>by go_simp;exact hK9) ?_
          (try simp only[pq])
          refine zaa (by rw[hO];kernel_rfl) (.bool true) (fun K9 hK9=>by go_simp;exact hK9) ?_
          (try simp only[pq])
          refine zaa (by rw[hO];kernel_rfl) (.bool true) (fun K9 hK9=>by go_simp;exact hK9) ?_
          (try simp only[pq])
          refine zaa (by rw[hO];kernel_rfl) (.string S) (fun K9 hK9=>by go_simp;exact hK9) ?_
          (try simp only[pq])
          refine zaa (by rw[hO];kernel_rfl) (.int .i64 (pos:Int)) (fun K9 hK9=>by go_simp;exact hK9) ?_
          (try simp only[pq])
          refine zaa (by rw[hO];kernel_rfl) (.int .u8 (x:Int)) (fun K9 hK9=>by go_simp;exact hK9) ?_
          (try simp only[pq])
          refine zaa (by rw[hO];kernel_rfl) (.bool false) (fun K9 hK9=>by go_simp;exact hK9) ?_
          (try simp only[pq])
          refine zaa (by rw[hO];kernel_rfl) (.bool false) (fun K9 hK9=>by go_simp;exact hK9) ?_
          (try simp only[pq])
          refine zaa (by rw[hO];kernel_rfl) (.bool false) (fun K9 hK9=>by go_simp;exact hK9) ?_
          (try simp only[pq])
          refine zac (by rw[hO];kernel_rfl) ?_
          (try simp only[pq])
          refine zac (by rw[hO];kernel_rfl) ?_
          (try simp only[pq])
          refine zac (by rw[hO];kernel_rfl) ?_
          (try simp only[pq])
          refine zac (by rw[hO];kernel_rfl) ?_
          (try simp only[pq])
          refine zac (by rw[hO];kernel_rfl) ?_
          (try simp only[pq])
          refine zaa (by rw[hO];kernel_rfl) (.bool false) (fun K9 hK9=>by go_simp;exact hK9) ?_
          (try simp only[pq])
          refine zaa (by rw[hO];kernel_rfl) (.bool false) (fun K9 hK9=>by go_simp;exact hK9) ?_
          (try simp only[pq])
          go_wp2
          go_roundw
          case rel=>exact ⟨pos+1,uh HK,by go_num,hsc2,by first | rfl | trivial⟩
          case measure=>have:=uh HK;simp[intOf];omega
         ·cases q3:((y:Int) == 46)
          ·rw[q2,q3] at hsc
           have hsc2:=uh HNX (by rw[hsc,q2];rfl)
           clear hsc HNX
           go_upto_region 6 with fail
           refine za3 fun O hO => ?_
           refine zaa (by rw[hO];kernel_rfl) (.string S) (fun K9 hK9=>by go_simp;exact hK9) ?_
           (try simp only[pq])
           refine zaa (by rw[hO];kernel_rfl) (.int .i64 (pos:Int)) (fun K9 hK9=>by go_simp;exact hK9) ?_
           (try simp only[pq])
           refine zaa (by rw[hO];kernel_rfl) (.int .u8 (x:Int)) (fun K9 hK9=>by go_simp;exact hK9) ?_
           (try simp only[pq])
           refine zbj (by rw[hO];kernel_rfl) fun K9 hK9 => ?_
           go_simp
           go_at_call 180
           refine (c3 _).mono ?_
           rintro e w1 ⟨rfl,hw1⟩
           subst w1
           clear c3
           refine hK9 _ _ ?_
           clear hK9 K9
           (try simp only[pq])
           refine zaa (by rw[hO];kernel_rfl) (.bool false) (fun K9 hK9=>by go_simp;exact hK9) ?_
           (try simp only[pq])
           refine zaa (by rw[hO];kernel_rfl) (.bool false) (fun K9 hK9=>by go_simp;exact hK9) ?_
           (try simp only[pq])
           refine zaa (by rw[hO];kernel_rfl) (.int .i64 (pos:Int)) (fun K9 hK9=>by go_simp;exact hK9) ?_
           (try simp only[pq])
           refine zaa (by rw[hO];kernel_rfl) (.bool true) (fun K9 hK9=>by go_simp;exact hK9) ?_
           (try simp only[pq])
           refine zaa (by rw[hO];kernel_rfl) (.bool true) (fun K9 hK9=>by go_simp;exact hK9) ?_
           (try simp only[pq])
           refine zaa (by rw[hO];kernel_rfl) (.string S) (fun K9 hK9=>by go_simp;exact hK9) ?_
           (try simp only[pq])
           refine zaa (by rw[hO];kernel_rfl) (.int .i64 (pos:Int)) (fun K9 hK9=>by go_simp;exact hK9) ?_
           (try simp only[pq])
           refine zaa (by rw[hO];kernel_rfl) (.int .u8 (x:Int)) (fun K9 hK9=>by go_simp;exact hK9) ?_
           (try simp only[pq])
           refine zaa (by rw[hO];kernel_rfl) (.bool true) (fun K9 hK9=>by go_simp;exact hK9) ?_
           (try simp only[pq])
           refine zaa (by rw[hO];kernel_rfl) (.bool true) (fun K9 hK9=>by go_simp;exact hK9) ?_
           (try simp only[pq])
           refine zaa (by rw[hO];kernel_rfl) (.bool true) (fun K9 hK9=>by go_simp;exact hK9) ?_
           (try simp only[pq])
           refine zaa (by rw[hO];kernel_rfl) (.string S) (fun K9 hK9=>by go_simp;exact hK9) ?_
           (try simp only[pq])
           refine zaa (by rw[hO];kernel_rfl) (.int .i64 (pos:Int)) (fun K9 hK9=>by go_simp;exact hK9) ?_
           (try simp only[pq])
           refine zaa (by rw[hO];kernel_rfl) (.int .i64 (m:Int)) (fun K9 hK9=>by go_simp;exact hK9) ?_
           (try simp only[pq])
           refine zaa (by rw[hO];kernel_rfl) (.int .u8 (y:Int)) (fun K9 hK9=>by go_simp;exact hK9) ?_
           (try simp only[pq])
           refine zaa (by rw[hO];kernel_rfl) (.bool false) (fun K9 hK9=>by go_simp;exact hK9) ?_
           (try simp only[pq])
           refine zaa (by rw[hO];kernel_rfl) (.bool false) (fun K9 hK9=>by go_simp;exact hK9) ?_
           (try simp only[pq])
           refine zaa (by rw[hO];kernel_rfl) (.bool false) (fun K9 hK9=>by go_simp;exact hK9) ?_
           (try simp only[pq])
           go_wp2
           go_roundw
           case rel=>exact ⟨pos+1,uh HK,by go_num,hsc2,by first | rfl | trivial⟩
           case measure=>have:=uh HK;simp[intOf];omega
          ·rw[q2,q3] at hsc
           have HR:=hide (show zcd l=false by rw[uh HG2,hsc];rfl)
           clear hsc HNX
           go_upto_region 6 with fail
           refine za3 fun O hO => ?_
           refine zaa (by rw[hO];kernel_rfl) (.string S) (fun K9 hK9=>by go_simp;exact hK9) ?_
           (try simp only[pq])
           refine zaa (by rw[hO];kernel_rfl) (.int .i64 (pos:Int)) (fun K9 hK9=>by go_simp;exact hK9) ?_
           (try simp only[pq])
           refine zaa (by rw[hO];kernel_rfl) (.int .u8 (x:Int)) (fun K9 hK9=>by go_simp;exact hK9) ?_
           (try simp only[pq])
           refine zbj (by rw[hO];kernel_rfl) fun K9 hK9 => ?_
           go_simp
           go_at_call 180
           refine (c3 _).mono ?_
           rintro e w1 ⟨rfl,hw1⟩
           subst w1
           clear c3
           refine hK9 _ _ ?_
           clear hK9 K9
           (try simp only[pq])
           refine zaa (by rw[hO];kernel_rfl) (.bool false) (fun K9 hK9=>by go_simp;exact hK9) ?_
           (try simp only[pq])
           refine zaa (by rw[hO];kernel_rfl) (.bool false) (fun K9 hK9=>by go_simp;exact hK9) ?_
           (try simp only[pq])
           refine zaa (by rw[hO];kernel_rfl) (.int .i64 (pos:Int)) (fun K9 hK9=>by go_simp;exact hK9) ?_
           (try simp only[pq])
           refine zaa (by rw[hO];kernel_rfl) (.bool true) (fun K9 hK9=>by go_simp;exact hK9) ?_
           (try simp only[pq])
           refine zaa (by rw[hO];kernel_rfl) (.bool true) (fun K9 hK9=>by go_simp;exact hK9) ?_
           (try simp only[pq])
           refine zaa (by rw[hO];kernel_rfl) (.string S) (fun K9 hK9=>by go_simp;exact hK9) ?_
           (try simp only[pq])
           refine zaa (by rw[hO];kernel_rfl) (.int .i64 (pos:Int)) (fun K9 hK9=>by go_simp;exact hK9) ?_
           (try simp only[pq])
           refine zaa (by rw[hO];kernel_rfl) (.int .u8 (x:Int)) (fun K9 hK9=>by go_simp;exact hK9) ?_
           (try simp only[pq])
           refine zaa (by rw[hO];kernel_rfl) (.bool true) (fun K9 hK9=>by go_simp;exact hK9) ?_
           (try simp only[pq])
           refine zaa (by rw[hO];kernel_rfl) (.bool true) (fun K9 hK9=>by go_simp;exact hK9) ?_
           (try simp only[pq])
           refine zaa (by rw[hO];kernel_rfl) (.bool true) (fun K9 hK9=>by go_simp;exact hK9) ?_
           (try simp only[pq])
           refine zaa (by rw[hO];kernel_rfl) (.string S) (fun K9 hK9=>by go_simp;exact hK9) ?_
           (try simp only[pq])
           refine zaa (by rw[hO];kernel_rfl) (.int .i64 (pos:Int)) (fun K9 hK9=>by go_simp;exact hK9) ?_
           (try simp only[pq])
           refine zaa (by rw[hO];kernel_rfl) (.int .i64 (m:Int)) (fun K9 hK9=>by go_simp;exact hK9) ?_
           (try simp only[pq])
           refine zaa (by rw[hO];kernel_rfl) (.int .u8 (y:Int)) (fun K9 hK9=>by go_simp;exact hK9) ?_
           (try simp only[pq])
           refine zaa (by rw[hO];kernel_rfl) (.bool true) (fun K9 hK9=>by go_simp;exact hK9) ?_
           (try simp only[pq])
           refine zaa (by rw[hO];kernel_rfl) (.bool true) (fun K9 hK9=>by go_simp;exact hK9) ?_
           (try simp only[pq])
           refine zaa (by rw[hO];kernel_rfl) (.bool true) (fun K9 hK9=>by go_simp;exact hK9) ?_
           (try simp only[pq])
           go_wp2
           go_ret
           exact ⟨by rw[uh HR];rfl,zab _ _⟩
      ·have hpi:¬ (pos:Int)<(n:Int):=by omega
       have hR:zcd l = !(Lib.hasSuffix l zj1):=by
        rw[uh HG2,← hD.out,List.drop_eq_nil_of_le (by rw[← uh HN];omega)]
        rfl
       rw[← Lib.hasSuffix_of_drop,show zj1.length=5 from rfl,← uh HN] at hR
       by_cases h5:n<5
       ·have h5i:(n:Int)<5:=by omega
        have HR:=hide (show zcd l=true by rw[hR];simp;omega)
        clear hR hD
        go_wp2
        go_ret
        exact ⟨by rw[uh HR];rfl,zab _ _⟩
       ·have h5i:¬ (n:Int)<5:=by omega
        obtain ⟨k,hk⟩:∃ k,k=n - 5:=⟨_,rfl⟩
        have hk1:(n:Int) - 5=(k:Int):=by omega
        have hk2:IntKind.i64.wrap (k:Int)=(k:Int):=by have:=uh HL;have:=uh HN;rw[IntKind.wrap_i64];omega
        have sf:=uh SF k (by have:=uh HN;omega)
        rw[← hk,show decide (5≤n)=true by simp;omega,Bool.true_and] at hR
        obtain ⟨SX,hSX⟩:∃ s,s=str (l.drop k):=⟨_,rfl⟩
        obtain ⟨LX,hLX⟩:∃ s,s=SX.toList:=⟨_,rfl⟩
        have hLx:LX=l.drop k:=by rw[hLX,hSX,za5]
        rw[← hSX] at sf
        rw[← hLx] at hR
        have hTX:=hLX.symm
        have HR:=hide hR
        clear hR hD hLx hSX hLX hk
        go_wp2
        go_ret
        exact ⟨by rw[uh HR];rfl,zab _ _⟩
    ·have HR:=hide (show zcd l=false by rw[uh HG,a1,a2,a3];rfl)
     clear HG
     go_enter Tryz.func174,Tryz.ntmps174
     go_wp2
     go_ret
     exact ⟨by rw[uh HR];rfl,zab _ _⟩
   ·have HR:=hide (show zcd l=false by rw[uh HG,a1,a2];rfl)
    clear HG
    go_enter Tryz.func174,Tryz.ntmps174
    go_wp2
    go_ret
    exact ⟨by rw[uh HR];rfl,zab _ _⟩
  ·have HR:=hide (show zcd l=false by rw[uh HG,a1];rfl)
   clear HG
   go_enter Tryz.func174,Tryz.ntmps174
   go_wp2
   go_ret
   exact ⟨by rw[uh HR];rfl,zab _ _⟩
set_option maxHeartbeats 2000000 in
theorem zrp (w:World) (l:List UInt8) (hl:l.length≤100000):Calls Tryz.prog 159 #[.string (str l)] w fun e w'=>e = .returned (.int .i64 (zec l))∧w.grownBy w' none:=by
 have c1:=zpa w l hl
 have hcnt:=zda l
 have hple:=zjf l
 obtain ⟨n,hn⟩:∃ n,n=l.length:=⟨_,rfl⟩
 have hsz:(str l).size=n:=by rw[zao,hn]
 have hK:zec l=if n≤64∧(za2 l).all zcd=true then (if (decide (1<(za2 l).length) && ((za2 l).getD 0 [] == zf2))=true then 1 else if (decide (1<(za2 l).length) && ((za2 l).getD 0 [] == zj2))=true then 2 else 0) else 0:=by
  rw[hn,← zny l zf2 (by decide),← zny l zj2 (by decide)];rfl
 obtain ⟨S,hS⟩:∃ S,S=str l:=⟨_,rfl⟩
 obtain ⟨L,hL⟩:∃ L,L=za2 l:=⟨_,rfl⟩
 rw[← hS] at c1 hsz ⊢
 rw[← hL] at c1 hcnt hple hK
 obtain ⟨HK,HL,HCN,HPL⟩:=zh4 hK hl hcnt hple
 clear hS hl hcnt hple hL hK hn
 by_cases h64:n≤64
 ·have h64i:¬ (64:Int)<(n:Int):=by omega
  go_enter Tryz.func159,Tryz.ntmps159
  go_wp2_with fail
  refine c1.mono ?_
  rintro e w1 ⟨v1,rfl,hv1,g1⟩
  clear c1
  obtain ⟨ao,c,rfl,hs1⟩:=hv1.open
  obtain ⟨q,hq⟩:∃ q,q=L.length:=⟨_,rfl⟩
  rw[← hq]
  have hq6:q≤1000000:=by have h1:=uh HCN;have h2:=uh HL;omega
  have HQ:=hide hq
  clear hq hv1
  go_wp2
  go_loopw [4] (fun i wr=>∃ k:Nat,k≤q∧i = .int .i64 k∧Hid ((L.take k).all zcd=true)∧w1.grownBy wr none) (fun i _=>q - (intOf i).toNat)
  case atStart=>exact ⟨0,Nat.zero_le _,rfl,by exact rfl,zab _ _⟩
  case round =>
   obtain ⟨k,hk,rfl,hA,hg⟩:=hrel
   by_cases hlt:k<q
   ·have hkL:k<L.length:=by rw[← uh HQ];exact hlt
    have hki:(k:Int)<(q:Int):=by omega
    have HKK:=hide (show k+1≤q from hlt)
    have hk0:(0:Int)≤(k:Int):=by omega
    obtain ⟨b,rfl,hc⟩:=(hs1.kept hg).at k hkL
    have hxl:L[k].length≤100000:=Nat.le_trans (uh HPL _ (List.getElem_mem hkL)) (uh HL)
    have htk:L.take (k+1)=L.take k++[L[k]]:=List.take_succ_eq_append_getElem hkL
    have hex:zcd L[k]=false→L.all zcd=false:=fun h=>by
     rw[← Bool.not_eq_true]
     intro h2
     have:=List.all_eq_true.1 h2 _ (List.getElem_mem hkL)
     rw[h] at this
     cases this
    obtain ⟨x,hx⟩:∃ x,x=L[k]:=⟨_,rfl⟩
    rw[← hx] at hc hxl htk hex
    have c2:=fun V=>zro V x hxl
    obtain ⟨HT,HE⟩:=zh2 htk hex
    clear hx hxl htk hex
    cases hp:zcd x with
    | false =>
     rw[hp] at c2
     have HR:=hide (show zec l=0 by rw[uh HK,if_neg (fun e=>by rw[uh HE hp] at e;cases e.2)])
     go_wp2_with fail
     refine (c2 _).mono ?_
     rintro e w2 ⟨rfl,g2⟩
     clear c2
     go_wp2
     go_ret
     exact ⟨by rw[uh HR];rfl,tn (tn g1 hg) g2⟩
    | true =>
     rw[hp] at c2
     go_wp2_with fail
     refine (c2 _).mono ?_
     rintro e w2 ⟨rfl,g2⟩
     clear c2
     have hA2:Hid ((L.take (k+1)).all zcd=true):=by
      rw[uh HT,List.all_append,hA.out,List.all_cons,hp]
      exact rfl
     have g12:=tn hg g2
     clear hc HT HE
     go_wp2
     go_roundw
     case rel=>exact ⟨k+1,uh HKK,by go_num,hA2,g12⟩
     case measure=>have:=uh HKK;simp[intOf];omega
   ·obtain rfl:k=q:=by omega
    have hki:¬ (k:Int)<(k:Int):=by omega
    have hall:L.all zcd=true:=by
     have:=hA.out
     rw[uh HQ,List.take_length] at this
     exact this
    have hK2:=uh HK
    rw[if_pos ⟨h64,hall⟩,← uh HQ] at hK2
    have G:=tn g1 hg
    clear hA hall HK
    by_cases h1:1<k
    ·have h1i:(1:Int)<(k:Int):=by omega
     have h0i:(0:Int)<(k:Int):=by omega
     have h0L:0<L.length:=by have:=uh HQ;omega
     obtain ⟨b,rfl,hc⟩:=(hs1.kept hg).at 0 h0L
     rw[show L.getD 0 []=L[0] by simp[List.getD,h0L],show decide (1<k)=true by simp[h1],Bool.true_and,Bool.true_and] at hK2
     obtain ⟨x,hx⟩:∃ x,x=L[0]:=⟨_,rfl⟩
     rw[← hx] at hc hK2
     obtain ⟨X,hX⟩:∃ X,X=str x:=⟨_,rfl⟩
     obtain ⟨LX,hLX⟩:∃ s,s=X.toList:=⟨_,rfl⟩
     have hLx:LX=x:=by rw[hLX,hX,za5]
     rw[← hX] at hc
     rw[← hLx] at hK2
     have hTX:=hLX.symm
     clear hx hX hLX hLx
     cases b1:(LX == zf2)
     ·have n1:¬ LX=[104,101,97,100,115]:=by simpa[zf2] using b1
      cases b2:(LX == zj2)
      ·have n2:¬ LX=[116,97,103,115]:=by simpa[zj2] using b2
       have HR:=hide (show zec l=0 by rw[hK2,b1,b2];rfl)
       have b1' : (LX == [104,101,97,100,115])=false:=b1
       have b2' : (LX == [116,97,103,115])=false:=b2
       clear hK2 b1 b2
       go_wp2
       go_ret
       exact ⟨by rw[uh HR];rfl,G⟩
      ·have n2:LX=[116,97,103,115]:=by simpa[zj2] using b2
       have HR:=hide (show zec l=2 by rw[hK2,b1,b2];rfl)
       clear hK2 b1 b2
       subst n2
       go_wp2
       go_ret
       exact ⟨by rw[uh HR];rfl,G⟩
     ·have n1:LX=[104,101,97,100,115]:=by simpa[zf2] using b1
      have HR:=hide (show zec l=1 by rw[hK2,b1];rfl)
      clear hK2 b1
      subst n1
      go_wp2
      go_ret
      exact ⟨by rw[uh HR];rfl,G⟩
    ·have h1i:¬ (1:Int)<(k:Int):=by omega
     rw[show decide (1<k)=false by simp;omega,Bool.false_and,Bool.false_and] at hK2
     have HR:=hide (show zec l=0 by rw[hK2];rfl)
     clear hK2
     go_wp2
     go_ret
     exact ⟨by rw[uh HR];rfl,G⟩
 ·have h64i:(64:Int)<(n:Int):=by omega
  have HR:=hide (show zec l=0 by rw[uh HK,if_neg (fun e=>h64 e.1)])
  clear HK c1
  go_enter Tryz.func159,Tryz.ntmps159
  go_wp2
  go_ret
  exact ⟨by rw[uh HR];rfl,zab _ _⟩
end Go.Proofs.YthhnfloohbdaiaaGreatDoor
