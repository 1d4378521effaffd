/- Lemmas. -/
import Derived.Test.YthhnfloohbdaiaaGreatDoorMRwG
import Derived.Test.YthhnfloohbdaiaaGreatDoorRGHas
import Derived.Laws.AppendOwnNone
import Derived.Deep.AppendLies
import Derived.Deep.RegionHeld3
import Derived.Deep.DrawnRows
import Derived.Test.YthhnfloohbdaiaaGreatDoorGPln
import Derived.Deep.DeepCutAuto
namespace Go.Proofs.YthhnfloohbdaiaaGreatDoor
open Go.RowKit
def stR (x:List UInt8):List Value:=[stv x]
theorem zkg (L:List (List UInt8)):L.flatMap stR=L.map stv:=by induction L <;> simp_all [stR]
theorem zxe (x:List UInt8):∀ u∈stR x,u.oneCell'=true:=by intro u hu;simp[stR] at hu;subst hu;rfl
theorem Stg.rws {w:World} {base:Nat} {v:Value} {L:List (List UInt8)} (h:Stg w base v L):∃ ao c,v = .slice ao L.length c∧Rws w 1 stR ao c L∧∀ ad,ao=some ad→base≤ad.block :=
 Rws.own stR (by rw[zkg];exact h) (fun _ _=>rfl)
theorem za9 {w:World} {ops:Array Oper} {o:Oper} {a:Act} {K:Act→World→Prop} {Q:Exit→Act→World→Prop} {E:Prop} (hw:Region.wanted o (yielded ops a.tmps)=true) (s x:Operand)
  (ho:o.op = .call { callee := .builtin .append,args := #[s,x],argTypes := #[25,25] })
  (base:Nat) (v:Value) (L M:List (List UInt8)) (hs:a.eval s=v) (hown:Stg w base v L) (xo:Option Addr) (m c:Nat) (hx:a.eval x = .slice xo m c) (hm:m=M.length) (hM:Rws w 1 stR xo c M) (hn:L.length+M.length≤1000000) (hbase:base≤w.heap.size)
  (h:∀ v' w',Stg w' base v' (L++M)→w.grownBy w' v.ownBlock→K (a.put o.dst v') w'):if Region.wanted o (yielded ops a.tmps)=true then Oper.wp Tryz.prog o a w K Q else E:=by
 rw[if_pos hw]
 obtain ⟨i0,hi,hz0,hz1,hz2⟩:=info_parts znw
 exact zf6 s x 25 9 ho i0 (.string ⟨#[]⟩) 1 16 Tryz.underlying25 hi hz0 hz1 hz2 rfl (by decide) stR zxe base v L M (fun _ _=>rfl) hs (by rw[zkg];exact hown) xo m c hx hm hM (by omega) (by omega) hbase
  (fun v' w' q1 q2=>h v' w' (by rw[zkg] at q1;exact q1) q2)
theorem Rws.txt {w:World} {ao:Option Addr} {c:Nat} {L:List (List UInt8)} (h:Rws w 1 stR ao c L) (i:Nat) (hi:i<L.length):∃ b o,ao=some ⟨b,o,none⟩∧w.cell? ⟨b,o+i,none⟩=some (.string (str L[i])):=by
 obtain ⟨b,o,e,hr⟩:=h.at i hi
 refine ⟨b,o,e,?_⟩
 have:=hr 0 (.string (str L[i])) rfl
 simpa using this
theorem zym (s:ByteArray) (V:World):(Instr.buildSlice 25 1 #[(0,.string s)]).run Tryz.prog V = .ok (.slice (some ⟨V.heap.size,0,none⟩) 1 1) (V.alloc (.cells #[.string s] 9)):=by kernel_rfl
theorem zr7 (z:Int) (n:Nat) (h:0<n) (hn:n≤1000000):∃ (r s:Int) (q:Nat),z.tmod (n:Int)=r∧IntKind.i64.wrap (r+(n:Int))=s∧s.tmod (n:Int)=(q:Int)∧q<n:=by
 have h1:=Int.tmod_lt_of_pos z (show (0:Int)<(n:Int) by omega)
 have h2:=Int.lt_tmod_of_pos z (show (0:Int)<(n:Int) by omega)
 refine ⟨_,_,((IntKind.i64.wrap (z.tmod (n:Int)+(n:Int))).tmod (n:Int)).toNat,rfl,rfl,?_,?_⟩
 ·have hw:IntKind.i64.wrap (z.tmod (n:Int)+(n:Int))=z.tmod (n:Int)+(n:Int):=by rw[IntKind.wrap_i64];omega
  rw[hw]
  have:=Int.tmod_nonneg (b:=(n:Int)) (show 0≤z.tmod (n:Int)+(n:Int) by omega)
  omega
 ·have hw:IntKind.i64.wrap (z.tmod (n:Int)+(n:Int))=z.tmod (n:Int)+(n:Int):=by rw[IntKind.wrap_i64];omega
  rw[hw]
  have:=Int.tmod_lt_of_pos (z.tmod (n:Int)+(n:Int)) (show (0:Int)<(n:Int) by omega)
  have:=Int.tmod_nonneg (b:=(n:Int)) (show 0≤z.tmod (n:Int)+(n:Int) by omega)
  omega
theorem zyn (V:World):(Instr.buildSlice 29 0 #[]).run Tryz.prog V = .ok (.slice (some ⟨V.heap.size,0,none⟩) 0 0) (V.alloc (.cells #[] 33)):=by kernel_rfl
theorem zkh (V:World) (t:TypeId) (K base:Nat) (h:base≤V.heap.size):∃ Wb,Wb=V.alloc (.cells #[] t)∧Wb.ownsRow base t K (.slice (some ⟨V.heap.size,0,none⟩) 0 0) 0 []∧V.grownBy Wb none:=by
 refine ⟨_,rfl,⟨by simp,Or.inr ⟨V.heap.size,0,#[],rfl,h,?_,Nat.le_refl _,by unfold maxLen;omega,by simp,by simp⟩⟩,zag (zaa _ _) _⟩
 exact heap_alloc_new V (.cells #[] t)
set_option maxRecDepth 100000 in
set_option maxHeartbeats 2000000 in
theorem zp3 (w:World) (ao:Option Addr) (ac:Nat) (I:List (List UInt8)) (hI:Ids w ao ac I) (bo:Option Addr) (bc:Nat) (P:List Int) (hP:Nts w bo bc P) (hl:I.length≤1000) :
  Calls Tryz.prog 21 #[.slice ao I.length ac,.slice bo P.length bc] w fun e w'=>∃ (v:Value) (X:List (List UInt8)),e = .returned v∧w'.ownsRow w.heap.size 33 32 v X.length (X.flatMap (·.map bv))∧(∀ x∈X,x∈I)∧X.length≤6∧w.grownBy w' none:=by
 obtain ⟨n,hn⟩:∃ n,n=I.length:=⟨_,rfl⟩
 obtain ⟨p,hp⟩:∃ p,p=P.length:=⟨_,rfl⟩
 rw[← hn,← hp]
 obtain ⟨W1,hW1,hO1,g1⟩:=zkh w 33 32 w.heap.size (Nat.le_refl _)
 have hbs:=zyn
 obtain ⟨HI,HP,HN,HPP,HW1,HG1⟩:=zh6 hI hP hn hp hW1 g1
 have hn9:n≤1000:=by omega
 have hpm:p≤9223372036854775807:=by rw[hp];have:=hP.fits;have:=hP.most;unfold maxLen at this;omega
 clear hI hP hn hp hl hW1 g1
 go_enter Tryz.func21,Tryz.ntmps21
 go_wp2_with (rw[← uh HW1])
 go_loopw [5,6] (fun v i wr=>∃ (j:Nat) (X:List (List UInt8)),i = .int .i64 j∧j≤p∧j≤6∧X.length=j∧wr.ownsRow w.heap.size 33 32 v j (X.flatMap (·.map bv))∧(∀ x∈X,x∈I)∧w.grownBy wr none) (fun _ i _=>6 - (intOf i).toNat)
 case atStart=>exact ⟨0,[],rfl,Nat.zero_le _,Nat.zero_le _,rfl,hO1,(fun _ h=>by cases h),uh HG1⟩
 case round =>
  obtain ⟨j,X,rfl,hj,hj6,hXl,ho,hX,hg⟩:=hrel
  by_cases h1:j<p
  ·by_cases h2:j<6
   ·by_cases h3:0<n
    ·have h2i:(j:Int)<6:=by omega
     have h3i:(0:Int)<(n:Int):=by omega
     have h3n:¬ (n:Int)=0:=by omega
     have h3m:¬ n=0:=by omega
     obtain ⟨bb,bf,hbo,hcb⟩:=((uh HP).kept hg).at j (by have:=uh HPP;omega)
     obtain ⟨z,hz⟩:∃ z,z=P[j]'(by have:=uh HPP;omega):=⟨_,rfl⟩
     rw[← hz] at hcb
     obtain ⟨r,s,q,e1,e2,e3,hq⟩:=zr7 z n h3 (by omega)
     have hqI:q<I.length:=by have:=uh HN;omega
     obtain ⟨ib,io,hao,hrow⟩:=((uh HI).none hg).at q hqI
     have hrq:=hrow q hqI
     have hid:=(uh HI).ids _ (List.getElem_mem hqI)
     have hin:I[q]∈I:=List.getElem_mem hqI
     obtain ⟨E,hE⟩:∃ E,E=I[q]:=⟨_,rfl⟩
     rw[← hE] at hrq hid hin
     obtain ⟨KB,hKB⟩:∃ KB,KB=E.map bv:=⟨_,rfl⟩
     have hK32:KB.length=32:=by rw[hKB];simpa using hid
     have hK1:∀ u∈KB,u.oneCell'=true:=by rw[hKB];exact za4 _
     have hiK:(Tryz.prog.info? 33).map (·.size)=some KB.length:=by rw[hK32];exact zar
     have hbs1:=zew E hid wr
     obtain ⟨W5,hW5,hB5,g5⟩:=zaf wr 33 KB
     rw[← hKB] at hrq hbs1
     rw[← hW5] at hbs1
     have ho5:=zbb ho g5 (fun _ e=>by cases e)
     have G5:=tn hg g5
     have hjw:IntKind.i64.wrap ((j:Int)+1)=(j:Int)+1:=by rw[IntKind.wrap_i64];omega
     obtain ⟨HKB,HBS,HIN,HO5,HG5,HB5⟩:=zh6 hKB hbs1 hin ho5 G5 hB5
     have HRQ:=hide hrq
     clear hz hrow hE hid hin hKB hbs1 hW5 hB5 g5 ho5 G5 ho hg hrq
     subst hao hbo
     go_wp2_with (first
      | (refine wpList_load_mid rfl 33 _ rfl ib (io+q*32) rfl KB _ (uh HRQ) Tryz.underlying33 rfl hiK ?_)
      | (refine zaq rfl 29 _ rfl (.agg KB.toArray) _ rfl (uh HBS) ?_)
      | (refine zbs rfl _ _ rfl w.heap.size _ _ _ rfl (uh HO5) _ KB (uh HB5) hK32 hK1 rfl (by omega) (uh HG5).size ?_;intro v6 w6 ho6 g6;have HO6:=hide ho6;have HG6:=hide (zad (uh HG5) g6 (fun x e=>Or.inl ((uh HO5).lt x e).1));clear ho6 g6))
     go_roundw
     case rel =>
      refine ⟨j+1,X++[E],by go_num,by omega,by omega,by simp[hXl],?_,fun x hx => ?_,uh HG6⟩
      ·have:=uh HO6
       rw[uh HKB] at this
       simpa using this
      ·rcases List.mem_append.1 hx with hx | hx
       ·exact hX x hx
       ·rw[List.mem_singleton.1 hx];exact uh HIN
     case measure=>simp[intOf];omega
    ·have h3a:n=0:=by omega
     have h3b:¬ (0:Int)<(n:Int):=by omega
     have h2i:(j:Int)<6:=by omega
     subst hXl
     go_wp2
     go_ret
     first | exact ⟨_,X,rfl,ho,hX,hj6,hg⟩ | exact ⟨_,rfl,X,ho,hX,hj6,hg⟩
   ·have h2i:¬ (j:Int)<6:=by omega
    subst hXl
    go_wp2
    go_ret
    first | exact ⟨_,X,rfl,ho,hX,hj6,hg⟩ | exact ⟨_,rfl,X,ho,hX,hj6,hg⟩
  ·subst hXl
   go_wp2
   go_ret
   first | exact ⟨_,X,rfl,ho,hX,hj6,hg⟩ | exact ⟨_,rfl,X,ho,hX,hj6,hg⟩
end Go.Proofs.YthhnfloohbdaiaaGreatDoor
