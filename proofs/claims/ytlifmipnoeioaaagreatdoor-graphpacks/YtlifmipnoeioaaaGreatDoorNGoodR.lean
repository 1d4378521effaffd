/- Lemmas. -/
import Derived.Test.YtlifmipnoeioaaaGreatDoorNGood
import Derived.Test.YtlifmipnoeioaaaGreatDoorMGrd
import Derived.Deep.CutBlock
import Derived.Deep.DeepCutAuto
import Derived.Test.YtlifmipnoeioaaaGreatDoorNLetR
namespace Go.Proofs.YtlifmipnoeioaaaGreatDoor
open Go.RowKit
theorem good_eq (l:List UInt8) (h:0<l.length):goodL l=(!(l[0] == 45) && !(l[0] == 46) && !(l[l.length - 1] == 46) && scan2 false l && !(Lib.hasSuffix l lockL)):=by
 cases l with
 | nil=>simp at h
 | cons c r =>
  have h1:Lib.hasPrefix (c::r) [45]=(c == 45):=by
   unfold Lib.hasPrefix
   simp [List.isPrefixOf]
   rw [Bool.eq_iff_iff];simp only [beq_iff_eq];exact eq_comm
  have h2:dotEnd true (c::r)=((c::r)[(c::r).length - 1] == 46):=by
   rw [dotEnd_last _ _ (by simp),List.getLast_eq_getElem]
  have h3:scan2 true (c::r)=(!(c == 46) && scan2 false (c::r)):=by
   simp only [scan2]
   cases (c == 46) <;> simp
  unfold goodL
  rw [h1,scan_two,h2,h3]
  simp only [List.getElem_cons_zero]
  cases (c == 45) <;> cases (c == 46) <;> cases ((c::r)[(c::r).length - 1] == 46) <;> cases (scan2 false (c::r)) <;> cases (Lib.hasSuffix (c::r) lockL) <;> rfl
set_option maxRecDepth 100000 in
set_option maxHeartbeats 2000000 in
theorem rgood_any (w:World) (l:List UInt8) (hl:l.length≤100000):Calls Tryz.prog 172 #[.string (str l)] w fun e w'=>e = .returned (.bool (goodL l))∧w.grownBy w' none:=by
 obtain ⟨S,hS⟩:∃ S,S=str l:=⟨_,rfl⟩
 obtain ⟨n,hn⟩:∃ n,n=l.length:=⟨_,rfl⟩
 have hsz:S.size=n:=by rw [hS,str_size,hn]
 obtain ⟨LL,hLL⟩:∃ L,L=S.toList:=⟨_,rfl⟩
 have hLl:LL=l:=by rw [hLL,hS,str_list]
 have ix:∀ (p:Nat) (hp:p<l.length) (n:Nat),n=l[p].toNat→∀ W,(Instr.index 9 (.string S) (.int .i64 (p:Int))).run Tryz.prog W = .ok (.int .u8 (n:Int)) W:=fun p hp n hn W=>by rw [hS];exact idx_str l p n hp hn W
 have sf:∀ lo:Nat,lo≤l.length→∀ W,(Instr.slice 9 (.string S) (some (.int .i64 (lo:Int))) none none).run Tryz.prog W = .ok (.string (str (l.drop lo))) W:=fun lo h2 W=>by rw [hS];exact slice_str_from l lo h2 W
 rw [← hS]
 by_cases h0:l.length=0
 ·have hl0:=List.eq_nil_of_length_eq_zero h0
  have e1:LL=[]:=by rw [hLl,hl0]
  have hT:=hLL.symm
  have HR:=hide (show goodL l=false by rw [hl0];rfl)
  clear hS hn hl hLL hLl ix h0 hl0 sf
  go_enter Tryz.func172,Tryz.ntmps172
  go_wp2
  go_ret
  exact ⟨by rw [uh HR];rfl,gb_refl _ _⟩
 ·have hpos:0<l.length:=by omega
  have hG:=good_eq l hpos
  have n1:¬ LL=[]:=fun e=>h0 (by rw [← hLl,e];rfl)
  have hT:=hLL.symm
  have e1:LL.isEmpty=false:=by simpa using n1
  obtain ⟨x0,hx0⟩:∃ x,x=l[0].toNat:=⟨_,rfl⟩
  obtain ⟨xl,hxl⟩:∃ x,x=l[l.length - 1].toNat:=⟨_,rfl⟩
  have ix0:∀ W,(Instr.index 9 (.string S) (.int .i64 0)).run Tryz.prog W = .ok (.int .u8 (x0:Int)) W:=ix 0 hpos x0 hx0
  have ixl:=ix (l.length - 1) (by omega) xl hxl
  have d0:(l[0] == 46)=((x0:Int) == 46):=by rw [dot_nat,← hx0]
  have dl:(l[l.length - 1] == 46)=((xl:Int) == 46):=by rw [dot_nat,← hxl]
  have b0:(l[0] == 45)=((x0:Int) == 45):=by
   rw [Bool.eq_iff_iff];simp only [beq_iff_eq]
   rw [← UInt8.toNat_inj,show (45:UInt8).toNat=45 from rfl,← hx0];omega
  rw [d0,dl,b0] at hG
  obtain ⟨m,hm⟩:∃ m,m=l.length - 1:=⟨_,rfl⟩
  rw [← hm] at ixl
  have hm1:(n:Int) - 1=(m:Int):=by omega
  have hm2:IntKind.i64.wrap (m:Int)=(m:Int):=by rw [IntKind.wrap_i64];omega
  obtain ⟨HS,HN,HL,IX,SF,HG⟩:=zh6 hS hn hl ix sf hG
  clear hS hn hl hLL hLl ix h0 sf hG hx0 hxl d0 dl b0 hm
  cases a1:((x0:Int) == 45)
  ·cases a2:((x0:Int) == 46)
   ·cases a3:((xl:Int) == 46)
    ·have hG2:goodL l=(scan2 false l && !(Lib.hasSuffix l lockL)):=by rw [uh HG,a1,a2,a3];rfl
     have HG2:=hide hG2
     clear HG hG2
     go_enter Tryz.func172,Tryz.ntmps172
     go_wp2
     clear a1 a2 a3 n1 e1 hT ix0 ixl hm1 hm2
     go_loopw [3] (fun i wr=>∃ pos:Nat,pos≤n∧i = .int .i64 pos∧Hid (scan2 (decide (0<pos) && (l.getD (pos - 1) 0 == 46)) (l.drop pos)=scan2 false l)∧wr=w) (fun i _=>n - (intOf i).toNat)
     case atStart=>exact ⟨0,Nat.zero_le _,rfl,by exact rfl,rfl⟩
     case round =>
      obtain ⟨pos,hpn,rfl,hD,rfl⟩:=hrel
      have hpm:(pos:Int)+1<9223372036854775807:=by have:=uh HL;have:=uh HN;omega
      by_cases hlt:pos<n
      ·have hpl:pos<l.length:=by rw [← uh HN];exact hlt
       have hpi:(pos:Int)<(n:Int):=by omega
       have HK:=hide (show pos+1≤n from hlt)
       obtain ⟨x,hx⟩:∃ x,x=l[pos].toNat:=⟨_,rfl⟩
       have ixp:=uh IX pos hpl x hx
       have hsc:=scan2_at l pos (decide (0<pos) && (l.getD (pos - 1) 0 == 46)) hpl
       have e3:letterB l[pos]=letterI x:=by rw [hx];rfl
       have e4:(l[pos] == 46)=((x:Int) == 46):=by rw [dot_nat,← hx]
       have e5:l.getD (pos+1 - 1) 0=l[pos]:=by simp [List.getD,hpl]
       rw [hD.out,e3,e4] at hsc
       have hnext:scan2 ((x:Int) == 46) (l.drop (pos+1))=scan2 false l→Hid (scan2 (decide (0<pos+1) && (l.getD (pos+1 - 1) 0 == 46)) (l.drop (pos+1))=scan2 false l):=fun h=>by
        rw [e5,e4,show decide (0<pos+1)=true by simp,Bool.true_and]
        exact h
       have c3:=fun V=>rletter_any V (x:Int)
       have HNX:=hide hnext
       clear hx hD e3 e4 e5 hnext
       cases q1:letterI (x:Int)
       ·rw [q1] at hsc c3
        have HR:=hide (show goodL l=false by rw [uh HG2,hsc];rfl)
        clear hsc q1
        go_upto_region 6 with fail
        refine region_named fun O hO => ?_
        refine wpList_val (by rw [hO];kernel_rfl) (.string S) (fun K9 hK9=>by go_simp;exact hK9) ?_
        (try simp only [Act.put,pq1,pq2,pq3])
        refine wpList_val (by rw [hO];kernel_rfl) (.int .i64 (pos:Int)) (fun K9 hK9=>by go_simp;exact hK9) ?_
        (try simp only [Act.put,pq1,pq2,pq3])
        refine wpList_val (by rw [hO];kernel_rfl) (.int .u8 (x:Int)) (fun K9 hK9=>by go_simp;exact hK9) ?_
        (try simp only [Act.put,pq1,pq2,pq3])
        refine wpList_want (by rw [hO];kernel_rfl) fun K9 hK9 => ?_
        go_simp
        go_at_call 179
        refine (c3 _).mono ?_
        rintro e w1 ⟨rfl,hw1⟩
        subst w1
        clear c3
        refine hK9 _ _ ?_
        clear hK9 K9
        (try simp only [Act.put,pq1,pq2,pq3])
        refine wpList_val (by rw [hO];kernel_rfl) (.bool true) (fun K9 hK9=>by go_simp;exact hK9) ?_
        (try simp only [Act.put,pq1,pq2,pq3])
        refine wpList_val (by rw [hO];kernel_rfl) (.bool true) (fun K9 hK9=>by go_simp;exact hK9) ?_
        (try simp only [Act.put,pq1,pq2,pq3])
        refine wpList_skip (by rw [hO];kernel_rfl) ?_
        (try simp only [Act.put,pq1,pq2,pq3])
        refine wpList_skip (by rw [hO];kernel_rfl) ?_
        (try simp only [Act.put,pq1,pq2,pq3])
        refine wpList_skip (by rw [hO];kernel_rfl) ?_
        (try simp only [Act.put,pq1,pq2,pq3])
        refine wpList_skip (by rw [hO];kernel_rfl) ?_
        (try simp only [Act.put,pq1,pq2,pq3])
        refine wpList_skip (by rw [hO];kernel_rfl) ?_
        (try simp only [Act.put,pq1,pq2,pq3])
        refine wpList_skip (by rw [hO];kernel_rfl) ?_
        (try simp only [Act.put,pq1,pq2,pq3])
        refine wpList_skip (by rw [hO];kernel_rfl) ?_
        (try simp only [Act.put,pq1,pq2,pq3])
        refine wpList_skip (by rw [hO];kernel_rfl) ?_
        (try simp only [Act.put,pq1,pq2,pq3])
        refine wpList_skip (by rw [hO];kernel_rfl) ?_
        (try simp only [Act.put,pq1,pq2,pq3])
        refine wpList_skip (by rw [hO];kernel_rfl) ?_
        (try simp only [Act.put,pq1,pq2,pq3])
        refine wpList_skip (by rw [hO];kernel_rfl) ?_
        (try simp only [Act.put,pq1,pq2,pq3])
        refine wpList_skip (by rw [hO];kernel_rfl) ?_
        (try simp only [Act.put,pq1,pq2,pq3])
        refine wpList_skip (by rw [hO];kernel_rfl) ?_
        (try simp only [Act.put,pq1,pq2,pq3])
        refine wpList_skip (by rw [hO];kernel_rfl) ?_
        (try simp only [Act.put,pq1,pq2,pq3])
        refine wpList_skip (by rw [hO];kernel_rfl) ?_
        (try simp only [Act.put,pq1,pq2,pq3])
        refine wpList_val (by rw [hO];kernel_rfl) (.bool true) (fun K9 hK9=>by go_simp;exact hK9) ?_
        (try simp only [Act.put,pq1,pq2,pq3])
        go_wp2
        go_ret
        exact ⟨by rw [uh HR];rfl,gb_refl _ _⟩
       ·rw [q1] at hsc c3
        clear q1
        by_cases hz:pos=0
        ·have hp0i:¬ (0:Int)<(pos:Int):=by omega
         have hp0d:decide (0<pos)=false:=by simp;omega
         have hsc2:=uh HNX (by rw [hsc,hz];cases ((x:Int) == 46) <;> rfl)
         clear hsc HNX hz
         go_upto_region 6 with fail
         refine region_named fun O hO => ?_
         refine wpList_val (by rw [hO];kernel_rfl) (.string S) (fun K9 hK9=>by go_simp;exact hK9) ?_
         (try simp only [Act.put,pq1,pq2,pq3])
         refine wpList_val (by rw [hO];kernel_rfl) (.int .i64 (pos:Int)) (fun K9 hK9=>by go_simp;exact hK9) ?_
         (try simp only [Act.put,pq1,pq2,pq3])
         refine wpList_val (by rw [hO];kernel_rfl) (.int .u8 (x:Int)) (fun K9 hK9=>by go_simp;exact hK9) ?_
         (try simp only [Act.put,pq1,pq2,pq3])
         refine wpList_want (by rw [hO];kernel_rfl) fun K9 hK9 => ?_
         go_simp
         go_at_call 179
         refine (c3 _).mono ?_
         rintro e w1 ⟨rfl,hw1⟩
         subst w1
         clear c3
         refine hK9 _ _ ?_
         clear hK9 K9
         (try simp only [Act.put,pq1,pq2,pq3])
         refine wpList_val (by rw [hO];kernel_rfl) (.bool false) (fun K9 hK9=>by go_simp;exact hK9) ?_
         (try simp only [Act.put,pq1,pq2,pq3])
         refine wpList_val (by rw [hO];kernel_rfl) (.bool false) (fun K9 hK9=>by go_simp;exact hK9) ?_
         (try simp only [Act.put,pq1,pq2,pq3])
         refine wpList_val (by rw [hO];kernel_rfl) (.int .i64 (pos:Int)) (fun K9 hK9=>by go_simp;exact hK9) ?_
         (try simp only [Act.put,pq1,pq2,pq3])
         refine wpList_val (by rw [hO];kernel_rfl) (.bool false) (fun K9 hK9=>by go_simp;exact hK9) ?_
         (try simp only [Act.put,pq1,pq2,pq3])
         refine wpList_val (by rw [hO];kernel_rfl) (.bool false) (fun K9 hK9=>by go_simp;exact hK9) ?_
         (try simp only [Act.put,pq1,pq2,pq3])
         refine wpList_skip (by rw [hO];kernel_rfl) ?_
         (try simp only [Act.put,pq1,pq2,pq3])
         refine wpList_skip (by rw [hO];kernel_rfl) ?_
         (try simp only [Act.put,pq1,pq2,pq3])
         refine wpList_skip (by rw [hO];kernel_rfl) ?_
         (try simp only [Act.put,pq1,pq2,pq3])
         refine wpList_skip (by rw [hO];kernel_rfl) ?_
         (try simp only [Act.put,pq1,pq2,pq3])
         refine wpList_val (by rw [hO];kernel_rfl) (.bool false) (fun K9 hK9=>by go_simp;exact hK9) ?_
         (try simp only [Act.put,pq1,pq2,pq3])
         refine wpList_val (by rw [hO];kernel_rfl) (.bool false) (fun K9 hK9=>by go_simp;exact hK9) ?_
         (try simp only [Act.put,pq1,pq2,pq3])
         refine wpList_skip (by rw [hO];kernel_rfl) ?_
         (try simp only [Act.put,pq1,pq2,pq3])
         refine wpList_skip (by rw [hO];kernel_rfl) ?_
         (try simp only [Act.put,pq1,pq2,pq3])
         refine wpList_skip (by rw [hO];kernel_rfl) ?_
         (try simp only [Act.put,pq1,pq2,pq3])
         refine wpList_skip (by rw [hO];kernel_rfl) ?_
         (try simp only [Act.put,pq1,pq2,pq3])
         refine wpList_skip (by rw [hO];kernel_rfl) ?_
         (try simp only [Act.put,pq1,pq2,pq3])
         refine wpList_val (by rw [hO];kernel_rfl) (.bool false) (fun K9 hK9=>by go_simp;exact hK9) ?_
         (try simp only [Act.put,pq1,pq2,pq3])
         refine wpList_val (by rw [hO];kernel_rfl) (.bool false) (fun K9 hK9=>by go_simp;exact hK9) ?_
         (try simp only [Act.put,pq1,pq2,pq3])
         go_wp2
         go_roundw
         case rel=>exact ⟨pos+1,uh HK,by go_num,hsc2,by first | rfl | trivial⟩
         case measure=>have:=uh HK;simp [intOf];omega
        ·have hp0:0<pos:=by omega
         have hp0i:(0:Int)<(pos:Int):=by omega
         obtain ⟨m,hm⟩:∃ m,m=pos - 1:=⟨_,rfl⟩
         have hml:m<l.length:=by omega
         obtain ⟨y,hy⟩:∃ y,y=l[m].toNat:=⟨_,rfl⟩
         have ixm:=uh IX m hml y hy
         have hm1:(pos:Int) - 1=(m:Int):=by omega
         have hm2:IntKind.i64.wrap (m:Int)=(m:Int):=by have:=uh HL;rw [IntKind.wrap_i64];omega
         rw [show decide (0<pos)=true by simp [hp0],← hm,show l.getD m 0=l[m] by simp [List.getD,hml],dot_nat,← hy] at hsc
         clear hm hy hz
         cases q2:((x:Int) == 46)
         ·rw [q2] at hsc
          have hsc2:=uh HNX (by rw [hsc,q2];rfl)
          clear hsc HNX
          go_upto_region 6 with fail
          refine region_named fun O hO => ?_
          refine wpList_val (by rw [hO];kernel_rfl) (.string S) (fun K9 hK9=>by go_simp;exact hK9) ?_
          (try simp only [Act.put,pq1,pq2,pq3])
          refine wpList_val (by rw [hO];kernel_rfl) (.int .i64 (pos:Int)) (fun K9 hK9=>by go_simp;exact hK9) ?_
          (try simp only [Act.put,pq1,pq2,pq3])
          refine wpList_val (by rw [hO];kernel_rfl) (.int .u8 (x:Int)) (fun K9 hK9=>by go_simp;exact hK9) ?_
          (try simp only [Act.put,pq1,pq2,pq3])
          refine wpList_want (by rw [hO];kernel_rfl) fun K9 hK9 => ?_
          go_simp
          go_at_call 179
          refine (c3 _).mono ?_
          rintro e w1 ⟨rfl,hw1⟩
          subst w1
          clear c3
          refine hK9 _ _ ?_
          clear hK9 K9
          (try simp only [Act.put,pq1,pq2,pq3])
          refine wpList_val (by rw [hO];kernel_rfl) (.bool false) (fun K9 hK9=>by go_simp;exact hK9) ?_
          (try simp only [Act.put,pq1,pq2,pq3])
          refine wpList_val (by rw [hO];kernel_rfl) (.bool false) (fun K9 hK9=>by go_simp;exact hK9) ?_
          (try simp only [Act.put,pq1,pq2,pq3])
          refine wpList_val (by rw [hO];kernel_rfl) (.int .i64 (pos:Int)) (fun K9 hK9=>by go_simp;exact hK9) ?_
          (try simp only [Act.put,pq1,pq2,pq3])
          refine wpList_val (by rw [hO];kernel_rfl) (.bool true) (fun K9 hK9=>by go_simp;exact hK9) ?_
          (try simp only [Act.put,pq1,pq2,pq3])
          refine wpList_val (by rw [hO];kernel_rfl) (.bool true) (fun K9 hK9=>by go_simp;exact hK9) ?_
          (try simp only [Act.put,pq1,pq2,pq3])
          refine wpList_val (by rw [hO];kernel_rfl) (.string S) (fun K9 hK9=>by go_simp;exact hK9) ?_
          (try simp only [Act.put,pq1,pq2,pq3])
          refine wpList_val (by rw [hO];kernel_rfl) (.int .i64 (pos:Int)) (fun K9 hK9=>by go_simp;exact hK9) ?_
          (try simp only [Act.put,pq1,pq2,pq3])
          refine wpList_val (by rw [hO];kernel_rfl) (.int .u8 (x:Int)) (fun K9 hK9=>by go_simp;exact hK9) ?_
          (try simp only [Act.put,pq1,pq2,pq3])
          refine wpList_val (by rw [hO];kernel_rfl) (.bool false) (fun K9 hK9=>by go_simp;exact hK9) ?_
          (try simp only [Act.put,pq1,pq2,pq3])
          refine wpList_val (by rw [hO];kernel_rfl) (.bool false) (fun K9 hK9=>by go_simp;exact hK9) ?_
          (try simp only [Act.put,pq1,pq2,pq3])
          refine wpList_val (by rw [hO];kernel_rfl) (.bool false) (fun K9 hK9=>by go_simp;exact hK9) ?_
          (try simp only [Act.put,pq1,pq2,pq3])
          refine wpList_skip (by rw [hO];kernel_rfl) ?_
          (try simp only [Act.put,pq1,pq2,pq3])
          refine wpList_skip (by rw [hO];kernel_rfl) ?_
          (try simp only [Act.put,pq1,pq2,pq3])
          refine wpList_skip (by rw [hO];kernel_rfl) ?_
          (try simp only [Act.put,pq1,pq2,pq3])
          refine wpList_skip (by rw [hO];kernel_rfl) ?_
          (try simp only [Act.put,pq1,pq2,pq3])
          refine wpList_skip (by rw [hO];kernel_rfl) ?_
          (try simp only [Act.put,pq1,pq2,pq3])
          refine wpList_val (by rw [hO];kernel_rfl) (.bool false) (fun K9 hK9=>by go_simp;exact hK9) ?_
          (try simp only [Act.put,pq1,pq2,pq3])
          refine wpList_val (by rw [hO];kernel_rfl) (.bool false) (fun K9 hK9=>by go_simp;exact hK9) ?_
          (try simp only [Act.put,pq1,pq2,pq3])
          go_wp2
          go_roundw
          case rel=>exact ⟨pos+1,uh HK,by go_num,hsc2,by first | rfl | trivial⟩
          case measure=>have:=uh HK;simp [intOf];omega
         ·cases q3:((y:Int) == 46)
          ·rw [q2,q3] at hsc
           have hsc2:=uh HNX (by rw [hsc,q2];rfl)
           clear hsc HNX
           go_upto_region 6 with fail
           refine region_named fun O hO => ?_
           refine wpList_val (by rw [hO];kernel_rfl) (.string S) (fun K9 hK9=>by go_simp;exact hK9) ?_
           (try simp only [Act.put,pq1,pq2,pq3])
           refine wpList_val (by rw [hO];kernel_rfl) (.int .i64 (pos:Int)) (fun K9 hK9=>by go_simp;exact hK9) ?_
           (try simp only [Act.put,pq1,pq2,pq3])
           refine wpList_val (by rw [hO];kernel_rfl) (.int .u8 (x:Int)) (fun K9 hK9=>by go_simp;exact hK9) ?_
           (try simp only [Act.put,pq1,pq2,pq3])
           refine wpList_want (by rw [hO];kernel_rfl) fun K9 hK9 => ?_
           go_simp
           go_at_call 179
           refine (c3 _).mono ?_
           rintro e w1 ⟨rfl,hw1⟩
           subst w1
           clear c3
           refine hK9 _ _ ?_
           clear hK9 K9
           (try simp only [Act.put,pq1,pq2,pq3])
           refine wpList_val (by rw [hO];kernel_rfl) (.bool false) (fun K9 hK9=>by go_simp;exact hK9) ?_
           (try simp only [Act.put,pq1,pq2,pq3])
           refine wpList_val (by rw [hO];kernel_rfl) (.bool false) (fun K9 hK9=>by go_simp;exact hK9) ?_
           (try simp only [Act.put,pq1,pq2,pq3])
           refine wpList_val (by rw [hO];kernel_rfl) (.int .i64 (pos:Int)) (fun K9 hK9=>by go_simp;exact hK9) ?_
           (try simp only [Act.put,pq1,pq2,pq3])
           refine wpList_val (by rw [hO];kernel_rfl) (.bool true) (fun K9 hK9=>by go_simp;exact hK9) ?_
           (try simp only [Act.put,pq1,pq2,pq3])
           refine wpList_val (by rw [hO];kernel_rfl) (.bool true) (fun K9 hK9=>by go_simp;exact hK9) ?_
           (try simp only [Act.put,pq1,pq2,pq3])
           refine wpList_val (by rw [hO];kernel_rfl) (.string S) (fun K9 hK9=>by go_simp;exact hK9) ?_
           (try simp only [Act.put,pq1,pq2,pq3])
           refine wpList_val (by rw [hO];kernel_rfl) (.int .i64 (pos:Int)) (fun K9 hK9=>by go_simp;exact hK9) ?_
           (try simp only [Act.put,pq1,pq2,pq3])
           refine wpList_val (by rw [hO];kernel_rfl) (.int .u8 (x:Int)) (fun K9 hK9=>by go_simp;exact hK9) ?_
           (try simp only [Act.put,pq1,pq2,pq3])
           refine wpList_val (by rw [hO];kernel_rfl) (.bool true) (fun K9 hK9=>by go_simp;exact hK9) ?_
           (try simp only [Act.put,pq1,pq2,pq3])
           refine wpList_val (by rw [hO];kernel_rfl) (.bool true) (fun K9 hK9=>by go_simp;exact hK9) ?_
           (try simp only [Act.put,pq1,pq2,pq3])
           refine wpList_val (by rw [hO];kernel_rfl) (.bool true) (fun K9 hK9=>by go_simp;exact hK9) ?_
           (try simp only [Act.put,pq1,pq2,pq3])
           refine wpList_val (by rw [hO];kernel_rfl) (.string S) (fun K9 hK9=>by go_simp;exact hK9) ?_
           (try simp only [Act.put,pq1,pq2,pq3])
           refine wpList_val (by rw [hO];kernel_rfl) (.int .i64 (pos:Int)) (fun K9 hK9=>by go_simp;exact hK9) ?_
           (try simp only [Act.put,pq1,pq2,pq3])
           refine wpList_val (by rw [hO];kernel_rfl) (.int .i64 (m:Int)) (fun K9 hK9=>by go_simp;exact hK9) ?_
           (try simp only [Act.put,pq1,pq2,pq3])
           refine wpList_val (by rw [hO];kernel_rfl) (.int .u8 (y:Int)) (fun K9 hK9=>by go_simp;exact hK9) ?_
           (try simp only [Act.put,pq1,pq2,pq3])
           refine wpList_val (by rw [hO];kernel_rfl) (.bool false) (fun K9 hK9=>by go_simp;exact hK9) ?_
           (try simp only [Act.put,pq1,pq2,pq3])
           refine wpList_val (by rw [hO];kernel_rfl) (.bool false) (fun K9 hK9=>by go_simp;exact hK9) ?_
           (try simp only [Act.put,pq1,pq2,pq3])
           refine wpList_val (by rw [hO];kernel_rfl) (.bool false) (fun K9 hK9=>by go_simp;exact hK9) ?_
           (try simp only [Act.put,pq1,pq2,pq3])
           go_wp2
           go_roundw
           case rel=>exact ⟨pos+1,uh HK,by go_num,hsc2,by first | rfl | trivial⟩
           case measure=>have:=uh HK;simp [intOf];omega
          ·rw [q2,q3] at hsc
           have HR:=hide (show goodL l=false by rw [uh HG2,hsc];rfl)
           clear hsc HNX
           go_upto_region 6 with fail
           refine region_named fun O hO => ?_
           refine wpList_val (by rw [hO];kernel_rfl) (.string S) (fun K9 hK9=>by go_simp;exact hK9) ?_
           (try simp only [Act.put,pq1,pq2,pq3])
           refine wpList_val (by rw [hO];kernel_rfl) (.int .i64 (pos:Int)) (fun K9 hK9=>by go_simp;exact hK9) ?_
           (try simp only [Act.put,pq1,pq2,pq3])
           refine wpList_val (by rw [hO];kernel_rfl) (.int .u8 (x:Int)) (fun K9 hK9=>by go_simp;exact hK9) ?_
           (try simp only [Act.put,pq1,pq2,pq3])
           refine wpList_want (by rw [hO];kernel_rfl) fun K9 hK9 => ?_
           go_simp
           go_at_call 179
           refine (c3 _).mono ?_
           rintro e w1 ⟨rfl,hw1⟩
           subst w1
           clear c3
           refine hK9 _ _ ?_
           clear hK9 K9
           (try simp only [Act.put,pq1,pq2,pq3])
           refine wpList_val (by rw [hO];kernel_rfl) (.bool false) (fun K9 hK9=>by go_simp;exact hK9) ?_
           (try simp only [Act.put,pq1,pq2,pq3])
           refine wpList_val (by rw [hO];kernel_rfl) (.bool false) (fun K9 hK9=>by go_simp;exact hK9) ?_
           (try simp only [Act.put,pq1,pq2,pq3])
           refine wpList_val (by rw [hO];kernel_rfl) (.int .i64 (pos:Int)) (fun K9 hK9=>by go_simp;exact hK9) ?_
           (try simp only [Act.put,pq1,pq2,pq3])
           refine wpList_val (by rw [hO];kernel_rfl) (.bool true) (fun K9 hK9=>by go_simp;exact hK9) ?_
           (try simp only [Act.put,pq1,pq2,pq3])
           refine wpList_val (by rw [hO];kernel_rfl) (.bool true) (fun K9 hK9=>by go_simp;exact hK9) ?_
           (try simp only [Act.put,pq1,pq2,pq3])
           refine wpList_val (by rw [hO];kernel_rfl) (.string S) (fun K9 hK9=>by go_simp;exact hK9) ?_
           (try simp only [Act.put,pq1,pq2,pq3])
           refine wpList_val (by rw [hO];kernel_rfl) (.int .i64 (pos:Int)) (fun K9 hK9=>by go_simp;exact hK9) ?_
           (try simp only [Act.put,pq1,pq2,pq3])
           refine wpList_val (by rw [hO];kernel_rfl) (.int .u8 (x:Int)) (fun K9 hK9=>by go_simp;exact hK9) ?_
           (try simp only [Act.put,pq1,pq2,pq3])
           refine wpList_val (by rw [hO];kernel_rfl) (.bool true) (fun K9 hK9=>by go_simp;exact hK9) ?_
           (try simp only [Act.put,pq1,pq2,pq3])
           refine wpList_val (by rw [hO];kernel_rfl) (.bool true) (fun K9 hK9=>by go_simp;exact hK9) ?_
           (try simp only [Act.put,pq1,pq2,pq3])
           refine wpList_val (by rw [hO];kernel_rfl) (.bool true) (fun K9 hK9=>by go_simp;exact hK9) ?_
           (try simp only [Act.put,pq1,pq2,pq3])
           refine wpList_val (by rw [hO];kernel_rfl) (.string S) (fun K9 hK9=>by go_simp;exact hK9) ?_
           (try simp only [Act.put,pq1,pq2,pq3])
           refine wpList_val (by rw [hO];kernel_rfl) (.int .i64 (pos:Int)) (fun K9 hK9=>by go_simp;exact hK9) ?_
           (try simp only [Act.put,pq1,pq2,pq3])
           refine wpList_val (by rw [hO];kernel_rfl) (.int .i64 (m:Int)) (fun K9 hK9=>by go_simp;exact hK9) ?_
           (try simp only [Act.put,pq1,pq2,pq3])
           refine wpList_val (by rw [hO];kernel_rfl) (.int .u8 (y:Int)) (fun K9 hK9=>by go_simp;exact hK9) ?_
           (try simp only [Act.put,pq1,pq2,pq3])
           refine wpList_val (by rw [hO];kernel_rfl) (.bool true) (fun K9 hK9=>by go_simp;exact hK9) ?_
           (try simp only [Act.put,pq1,pq2,pq3])
           refine wpList_val (by rw [hO];kernel_rfl) (.bool true) (fun K9 hK9=>by go_simp;exact hK9) ?_
           (try simp only [Act.put,pq1,pq2,pq3])
           refine wpList_val (by rw [hO];kernel_rfl) (.bool true) (fun K9 hK9=>by go_simp;exact hK9) ?_
           (try simp only [Act.put,pq1,pq2,pq3])
           go_wp2
           go_ret
           exact ⟨by rw [uh HR];rfl,gb_refl _ _⟩
      ·have hpi:¬ (pos:Int)<(n:Int):=by omega
       have hR:goodL l = !(Lib.hasSuffix l lockL):=by
        rw [uh HG2,← hD.out,List.drop_eq_nil_of_le (by rw [← uh HN];omega)]
        rfl
       rw [← Lib.hasSuffix_of_drop,show lockL.length=5 from rfl,← uh HN] at hR
       by_cases h5:n<5
       ·have h5i:(n:Int)<5:=by omega
        have HR:=hide (show goodL l=true by rw [hR];simp;omega)
        clear hR hD
        go_wp2
        go_ret
        exact ⟨by rw [uh HR];rfl,gb_refl _ _⟩
       ·have h5i:¬ (n:Int)<5:=by omega
        obtain ⟨k,hk⟩:∃ k,k=n - 5:=⟨_,rfl⟩
        have hk1:(n:Int) - 5=(k:Int):=by omega
        have hk2:IntKind.i64.wrap (k:Int)=(k:Int):=by have:=uh HL;have:=uh HN;rw [IntKind.wrap_i64];omega
        have sf:=uh SF k (by have:=uh HN;omega)
        rw [← hk,show decide (5≤n)=true by simp;omega,Bool.true_and] at hR
        obtain ⟨SX,hSX⟩:∃ s,s=str (l.drop k):=⟨_,rfl⟩
        obtain ⟨LX,hLX⟩:∃ s,s=SX.toList:=⟨_,rfl⟩
        have hLx:LX=l.drop k:=by rw [hLX,hSX,str_list]
        rw [← hSX] at sf
        rw [← hLx] at hR
        have hTX:=hLX.symm
        have HR:=hide hR
        clear hR hD hLx hSX hLX hk
        go_wp2
        go_ret
        exact ⟨by rw [uh HR];rfl,gb_refl _ _⟩
    ·have HR:=hide (show goodL l=false by rw [uh HG,a1,a2,a3];rfl)
     clear HG
     go_enter Tryz.func172,Tryz.ntmps172
     go_wp2
     go_ret
     exact ⟨by rw [uh HR];rfl,gb_refl _ _⟩
   ·have HR:=hide (show goodL l=false by rw [uh HG,a1,a2];rfl)
    clear HG
    go_enter Tryz.func172,Tryz.ntmps172
    go_wp2
    go_ret
    exact ⟨by rw [uh HR];rfl,gb_refl _ _⟩
  ·have HR:=hide (show goodL l=false by rw [uh HG,a1];rfl)
   clear HG
   go_enter Tryz.func172,Tryz.ntmps172
   go_wp2
   go_ret
   exact ⟨by rw [uh HR];rfl,gb_refl _ _⟩
end Go.Proofs.YtlifmipnoeioaaaGreatDoor
