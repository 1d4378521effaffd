/- Lemmas. -/
import Derived.Test.YthhnfloohbdaiaaGreatDoorMRwG
import Derived.Test.YthhnfloohbdaiaaGreatDoorRGHas
import Derived.Laws.AppendOwnNone
import Derived.Deep.AppendLies
import Derived.Deep.RegionHeld3
import Derived.Deep.DrawnRows
import Derived.Test.YthhnfloohbdaiaaGreatDoorGPln
import Derived.Deep.DeepCutAuto
namespace Go.Proofs.YthhnfloohbdaiaaGreatDoor
open Go.RowKit
def stR (x:List UInt8):List Value:=[stv x]
theorem zkc (L:List (List UInt8)):L.flatMap stR=L.map stv:=by induction L <;> simp_all [stR]
theorem zxa (x:List UInt8):∀ u∈stR x,u.oneCell'=true:=by intro u hu;simp[stR] at hu;subst hu;rfl
theorem Stg.rws {w:World} {base:Nat} {v:Value} {L:List (List UInt8)} (h:Stg w base v L):∃ ao c,v = .slice ao L.length c∧Rws w 1 stR ao c L∧∀ ad,ao=some ad→base≤ad.block :=
 Rws.own stR (by rw[zkc];exact h) (fun _ _=>rfl)
theorem za9 {w:World} {ops:Array Oper} {o:Oper} {a:Act} {K:Act→World→Prop} {Q:Exit→Act→World→Prop} {E:Prop} (hw:Region.wanted o (yielded ops a.tmps)=true) (s x:Operand)
  (ho:o.op = .call { callee := .builtin .append,args := #[s,x],argTypes := #[25,25] })
  (base:Nat) (v:Value) (L M:List (List UInt8)) (hs:a.eval s=v) (hown:Stg w base v L) (xo:Option Addr) (m c:Nat) (hx:a.eval x = .slice xo m c) (hm:m=M.length) (hM:Rws w 1 stR xo c M) (hn:L.length+M.length≤1000000) (hbase:base≤w.heap.size)
  (h:∀ v' w',Stg w' base v' (L++M)→w.grownBy w' v.ownBlock→K (a.put o.dst v') w'):if Region.wanted o (yielded ops a.tmps)=true then Oper.wp Tryz.prog o a w K Q else E:=by
 rw[if_pos hw]
 obtain ⟨i0,hi,hz0,hz1,hz2⟩:=info_parts zns
 exact zf3 s x 25 9 ho i0 (.string ⟨#[]⟩) 1 16 Tryz.underlying25 hi hz0 hz1 hz2 rfl (by decide) stR zxa base v L M (fun _ _=>rfl) hs (by rw[zkc];exact hown) xo m c hx hm hM (by omega) (by omega) hbase
  (fun v' w' q1 q2=>h v' w' (by rw[zkc] at q1;exact q1) q2)
theorem Rws.txt {w:World} {ao:Option Addr} {c:Nat} {L:List (List UInt8)} (h:Rws w 1 stR ao c L) (i:Nat) (hi:i<L.length):∃ b o,ao=some ⟨b,o,none⟩∧w.cell? ⟨b,o+i,none⟩=some (.string (str L[i])):=by
 obtain ⟨b,o,e,hr⟩:=h.at i hi
 refine ⟨b,o,e,?_⟩
 have:=hr 0 (.string (str L[i])) rfl
 simpa using this
theorem zyj (s:ByteArray) (V:World):(Instr.buildSlice 25 1 #[(0,.string s)]).run Tryz.prog V = .ok (.slice (some ⟨V.heap.size,0,none⟩) 1 1) (V.alloc (.cells #[.string s] 9)):=by kernel_rfl
theorem zr4 (z:Int) (n:Nat) (h:0<n) (hn:n≤1000000):∃ (r s:Int) (q:Nat),z.tmod (n:Int)=r∧IntKind.i64.wrap (r+(n:Int))=s∧s.tmod (n:Int)=(q:Int)∧q<n:=by
 have h1:=Int.tmod_lt_of_pos z (show (0:Int)<(n:Int) by omega)
 have h2:=Int.lt_tmod_of_pos z (show (0:Int)<(n:Int) by omega)
 refine ⟨_,_,((IntKind.i64.wrap (z.tmod (n:Int)+(n:Int))).tmod (n:Int)).toNat,rfl,rfl,?_,?_⟩
 ·have hw:IntKind.i64.wrap (z.tmod (n:Int)+(n:Int))=z.tmod (n:Int)+(n:Int):=by rw[IntKind.wrap_i64];omega
  rw[hw]
  have:=Int.tmod_nonneg (b:=(n:Int)) (show 0≤z.tmod (n:Int)+(n:Int) by omega)
  omega
 ·have hw:IntKind.i64.wrap (z.tmod (n:Int)+(n:Int))=z.tmod (n:Int)+(n:Int):=by rw[IntKind.wrap_i64];omega
  rw[hw]
  have:=Int.tmod_lt_of_pos (z.tmod (n:Int)+(n:Int)) (show (0:Int)<(n:Int) by omega)
  have:=Int.tmod_nonneg (b:=(n:Int)) (show 0≤z.tmod (n:Int)+(n:Int) by omega)
  omega
theorem zn3 (V:World) (t:TypeId) (K base:Nat) (h:base≤V.heap.size):∃ Wb,Wb=V.alloc (.cells #[] t)∧Wb.ownsRow base t K (.slice (some ⟨V.heap.size,0,none⟩) 0 0) 0 []∧V.grownBy Wb none:=by
 refine ⟨_,rfl,⟨by simp,Or.inr ⟨V.heap.size,0,#[],rfl,h,?_,Nat.le_refl _,by unfold maxLen;omega,by simp,by simp⟩⟩,zag (zaa _ _) _⟩
 exact heap_alloc_new V (.cells #[] t)
end Go.Proofs.YthhnfloohbdaiaaGreatDoor
