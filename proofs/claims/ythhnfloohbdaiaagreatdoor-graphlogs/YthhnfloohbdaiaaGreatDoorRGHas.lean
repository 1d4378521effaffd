/- Lemmas. -/
import Derived.Test.YthhnfloohbdaiaaGreatDoorMOwn
import Derived.Laws.AppendOwnNone
import Derived.Lib.OthersKept
namespace Go.Proofs.YthhnfloohbdaiaaGreatDoor
open Go.RowKit
theorem zkc:(Tryz.prog.info? 9).map (fun i=>(i.zero,i.size,i.bytes))=some (some (.string ⟨#[]⟩),1,16):=by kernel_rfl
def stv (x:List UInt8):Value := .string (str x)
theorem zxc (L:List (List UInt8)):∀ u∈L.map stv,u.oneCell'=true:=by
 intro u hu
 obtain ⟨_,_,rfl⟩:=List.mem_map.1 hu
 rfl
def Stg (w:World) (base:Nat) (v:Value) (L:List (List UInt8)):Prop:=w.ownsRow base 9 1 v L.length (L.map stv)
theorem Stg.nil (w:World) (base:Nat):Stg w base (.slice none 0 0) []:=World.ownsRow_nil w base _ 1
theorem Stg.kept {w a:World} {base:Nat} {v:Value} {L:List (List UInt8)} (h:Stg w base v L) (g:w.grownBy a none):Stg a base v L :=
 World.ownsRow.kept h g (by cases v.ownBlock <;> simp)
structure Stl (w:World) (base:Nat) (ao:Option Addr) (c:Nat) (L:List (List UInt8)):Prop where
 zip:ao=none→L.length=0
 new:∀ ad,ao=some ad→base≤ad.block∧ad.block<w.heap.size
 cell:∀ ad,ao=some ad→ad.off=0∧ad.spot=none∧∀ i (h:i<L.length),w.cell? ⟨ad.block,i,none⟩=some (.string (str L[i]))
theorem Stg.open {w:World} {base:Nat} {v:Value} {L:List (List UInt8)} (h:Stg w base v L):∃ ao c,v = .slice ao L.length c∧Stl w base ao c L:=by
 rcases h.2 with ⟨rfl,h2⟩ | ⟨g,cap,cur,rfl,hg,hh,h3,h4,h5,h6⟩
 ·rw[h2]
  exact ⟨none,0,rfl,fun _=>h2,(fun _ e=>by cases e),(fun _ e=>by cases e)⟩
 ·refine ⟨some ⟨g,0,none⟩,cap,rfl,(fun e=>by cases e),(fun ad e => ?_),(fun ad e => ?_)⟩
  ·cases e
   exact ⟨hg,(Array.getElem?_eq_some_iff.1 hh).1⟩
  ·cases e
   refine ⟨rfl,rfl,fun i hi => ?_⟩
   have h7:(cur.toList.take (L.length*1))[i]? = (L.map stv)[i]? := by rw[h6]
   rw[List.getElem?_take_of_lt (by omega)] at h7
   simp[World.cell?,hh,hi,stv] at h7 ⊢
   exact h7
theorem Stl.kept {w a:World} {base:Nat} {ao:Option Addr} {c:Nat} {L:List (List UInt8)} (h:Stl w base ao c L) (g:w.grownBy a none):Stl a base ao c L :=
 ⟨h.zip,fun ad e=>⟨(h.new ad e).1,Nat.lt_of_lt_of_le (h.new ad e).2 g.size⟩,fun ad e=>⟨(h.cell ad e).1,(h.cell ad e).2.1,fun i hi=>g.cell ((h.cell ad e).2.2 i hi) (by simp)⟩⟩
theorem Stl.lower {w:World} {base b2:Nat} {ao:Option Addr} {c:Nat} {L:List (List UInt8)} (h:Stl w base ao c L) (hb:b2≤base):Stl w b2 ao c L :=
 ⟨h.zip,fun ad e=>⟨Nat.le_trans hb (h.new ad e).1,(h.new ad e).2⟩,h.cell⟩
theorem Stl.at {w:World} {base:Nat} {ao:Option Addr} {c:Nat} {L:List (List UInt8)} (h:Stl w base ao c L) (i:Nat) (hi:i<L.length):∃ b,ao=some ⟨b,0,none⟩∧w.cell? ⟨b,i,none⟩=some (.string (str L[i])):=by
 cases ao with
 | none=>have:=h.zip rfl;omega
 | some ad =>
  obtain ⟨h1,h2,h3⟩:=h.cell ad rfl
  obtain ⟨b,o,s⟩:=ad
  simp only at h1 h2
  subst h1 h2
  exact ⟨b,rfl,h3 i hi⟩
theorem zb4 {w:World} {ops:Array Oper} {rest:List Oper} {o:Oper} {a:Act} {Q:Exit→Act→World→Prop} (hgd:o.guard=none) (s x:Operand)
  (ho:o.op = .call { callee := .builtin .append,args := #[s,x],argTypes := #[25,25] })
  (base:Nat) (v:Value) (L:List (List UInt8)) (y:List UInt8) (b:Nat) (hs:a.eval s=v) (hown:Stg w base v L)
  (hx:a.eval x = .slice (some ⟨b,0,none⟩) 1 1) (hb:w.cell? ⟨b,0,none⟩=some (stv y)) (hn:L.length≤1000000) (hbase:base≤w.heap.size)
  (h:∀ v' w',Stg w' base v' (L++[y])→w.grownBy w' v.ownBlock→wpList Tryz.prog ops Q rest (a.put o.dst v') w'):wpList Tryz.prog ops Q (o::rest) a w:=by
 obtain ⟨i0,hi,hz0,hz1,hz2⟩:=info_parts zkc
 exact wpList_append_own w hgd s x 25 ho base 9 i0 (.string ⟨#[]⟩) 1 16 Tryz.underlying25 hi hz0 hz1 hz2 rfl (by decide) v L.length (L.map stv) hs hown ⟨b,0,none⟩ 1 1 [stv y] hx (by simp)
  (fun j u hj=>by
   match j,hj with
   | 0,hj=>simp at hj;subst hj;simpa[Addr.add] using hb)
  (fun u hu=>by simp at hu;subst hu;rfl) (by unfold maxLen;omega) (by omega) hbase
  (fun v' w' q1 q2 _=>h v' w' (by unfold Stg;simpa using q1) q2)
set_option maxRecDepth 100000 in
set_option maxHeartbeats 4000000 in
theorem zkd (w:World) (a0:Nat) (ao:Option Addr) (ac:Nat) (A:List (List UInt8)) (hA:Stl w a0 ao ac A) (x:List UInt8) (hm:A.length≤1000000) :
  Calls Tryz.prog 51 #[.slice ao A.length ac,.string (str x)] w fun e w'=>e = .returned (.bool (A.contains x))∧w.grownBy w' none:=by
 obtain ⟨n,hn⟩:∃ n,n=A.length:=⟨_,rfl⟩
 obtain ⟨R,hR⟩:∃ R,R=A.contains x:=⟨_,rfl⟩
 obtain ⟨TX,hTX⟩:∃ T,T=str x:=⟨_,rfl⟩
 rw[← hn,← hR,← hTX]
 rw[← hn] at hm
 have hLX:TX.toList=x:=by rw[hTX,za5]
 obtain ⟨HA,HN,HR,HTX⟩:=zh4 hA hn hR hTX
 clear hA hn hR hTX
 go_enter Tryz.func51,Tryz.ntmps51
 go_wp2
 go_loopw [5] (fun i wr=>∃ j:Nat,i = .int .i64 j∧j≤n∧Hid (x∉A.take j)∧w.grownBy wr none) (fun i _=>n - (intOf i).toNat)
 case atStart=>exact ⟨0,rfl,Nat.zero_le _,(by simp:x∉A.take 0),zab _ _⟩
 case round =>
  obtain ⟨j,rfl,hj,HE,hg⟩:=hrel
  by_cases hlt:j<n
  ·have hla:j<A.length:=by have:=uh HN;omega
   obtain ⟨b,hao,hc⟩:=((uh HA).kept hg).at j hla
   have hta:=List.take_succ_eq_append_getElem hla
   have hin:A[j]∈A:=List.getElem_mem hla
   obtain ⟨F,hF⟩:∃ F,F=A[j]:=⟨_,rfl⟩
   rw[← hF] at hc hta hin
   obtain ⟨TF,hTF⟩:∃ T,T=str F:=⟨_,rfl⟩
   rw[← hTF] at hc
   have hLF:TF.toList=F:=by rw[hTF,za5]
   have hjw:IntKind.i64.wrap ((j:Int)+1)=(j:Int)+1:=by rw[IntKind.wrap_i64];omega
   subst hao
   by_cases hFx:F=x
   ·have hTT:TF=TX:=by rw[hTF,uh HTX,hFx]
    have hRt:R=true:=by rw[uh HR,← hFx];simpa using hin
    subst hTT hRt
    clear hLF hLX hTF hta hin hFx hF hla
    go_wp2
    go_ret
    exact ⟨rfl,hg⟩
   ·have h1:¬ TF.toList=TX.toList:=by rw[hLF,hLX];exact hFx
    have h2:(F == x)=false:=by simpa using hFx
    have hnew:x∉A.take (j+1):=by
     rw[hta]
     intro h
     rcases List.mem_append.1 h with h | h
     ·exact uh HE h
     ·exact hFx (List.mem_singleton.1 h).symm
    have HNW:=hide hnew
    clear hTF hta hin hF hla hnew
    go_wp2
    go_roundw
    case rel=>exact ⟨j+1,by go_num,by omega,HNW,hg⟩
    case measure=>simp[intOf];omega
  ·have hjn:j=A.length:=by have:=uh HN;omega
   have hRf:R=false:=by
    rw[uh HR]
    have:=uh HE
    rw[hjn,List.take_of_length_le (Nat.le_refl _)] at this
    simpa using this
   subst hRf
   clear hjn
   go_wp2
   go_ret
   exact ⟨rfl,hg⟩
end Go.Proofs.YthhnfloohbdaiaaGreatDoor
