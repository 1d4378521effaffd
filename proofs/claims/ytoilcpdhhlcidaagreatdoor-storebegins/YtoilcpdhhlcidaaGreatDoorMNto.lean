/- Lemmas. -/
import Derived.ProofKit
import Derived.OpenShut
import Derived.Deep.Slices
import Derived.SizedLaws
import Derived.Test.YtoilcpdhhlcidaaGreatDoorDkL
namespace Go.Proofs.YtoilcpdhhlcidaaGreatDoor
open Go.ChangeShapes Go.WideShapes Go.ChangeAt Go.RowKit Go.Deep
theorem zoh:ownKnob Tryz.prog.godebug=none:=by kernel_rfl
theorem zoi:laidOutB Tryz.prog=true:=by kernel_rfl
end Go.Proofs.YtoilcpdhhlcidaaGreatDoor

/- Lemmas. -/
namespace Go.Proofs.YtoilcpdhhlcidaaGreatDoor
open Go.RowKit
def ivc (z:Int):Value := .int .i64 z
theorem zm6:(Tryz.prog.info? 90).map (fun i=>(i.zero,i.size,i.bytes))=some (some (.int .i64 0),1,8):=by kernel_rfl
theorem zd6 {w:World} {ops:Array Oper} {rest:List Oper} {o:Oper} {a:Act} {Q:Exit→Act→World→Prop} (hgd:o.guard=none) (s x:Operand)
  (ho:o.op = .call { callee := .builtin .append,args := #[s,x],argTypes := #[57,57] })
  (base:Nat) (v:Value) (n:Nat) (xs:List Value) (hs:a.eval s=v) (hown:w.ownsRow base 90 1 v n xs) (p:Nat) (y:Int) (hB:Blk w p 90 [ivc y])
  (hx:a.eval x = .slice (some ⟨p,0,none⟩) 1 1) (hn:n≤1000000) (hbase:base≤w.heap.size)
  (h:∀ v' w',w'.ownsRow base 90 1 v' (n+1) (xs++[ivc y])→w.grownBy w' v.ownBlock→wpList Tryz.prog ops Q rest (a.put o.dst v') w'):wpList Tryz.prog ops Q (o::rest) a w:=by
 obtain ⟨i0,hi,hz0,hz1,hz2⟩:=info_parts zm6
 exact wpList_append_own w hgd s x 57 ho base 90 i0 (.int .i64 0) 1 8 Tryz.underlying57 hi hz0 hz1 hz2 rfl (by decide) v n xs hs hown ⟨p,0,none⟩ 1 1 [ivc y] hx rfl (fun j u hu=>World.news_of_block hB j u (by simpa using hu)) (fun u hu=>by simp at hu;subst hu;rfl) (by unfold maxLen;omega) (by omega) hbase (fun v' w' q1 q2 _=>h v' w' q1 q2)
theorem zm7 {w:World} {base:Nat} {v:Value} {t:TypeId} {L:List Int} (h:w.ownsRow base t 1 v L.length (L.map ivc)):∃ ao c,v = .slice ao L.length c∧Nts w ao c L∧∀ ad,ao=some ad→base≤ad.block:=by
 rcases h.2 with ⟨rfl,h2⟩ | ⟨g,cap,cur,rfl,hg,hh,h3,h4,h5,h6⟩
 ·have:L=[]:=List.eq_nil_of_length_eq_zero h2
  subst this
  exact ⟨none,0,rfl,⟨fun _=>⟨rfl,rfl⟩,Nat.le_refl _,Nat.zero_le _,(fun _ e=>by cases e),(fun _ e=>by cases e)⟩,fun _ e=>by cases e⟩
 ·refine ⟨_,_,rfl,⟨(fun e=>by cases e),h3,h4,(fun ad e _=>by cases e;rfl),fun ad e i hi => ?_⟩,fun ad e=>by cases e;exact hg⟩
  cases e
  have h7:(cur.toList.take (L.length*1))[i]? = (L.map ivc)[i]? := by rw[h6]
  rw[List.getElem?_take_of_lt (by omega)] at h7
  simp[World.cell?,hh,hi,ivc] at h7 ⊢
  exact h7
set_option maxRecDepth 100000 in
set_option maxHeartbeats 2000000 in
theorem zk3 (w:World) (fo:Option Addr) (fc:Nat) (L:List Int) (hL:Nts w fo fc L) :
  Calls Tryz.prog 24 #[.slice fo L.length fc] w fun e w'=>∃ ao c,e = .returned (.slice ao (L.take 500).length c)∧Nts w' ao c (L.take 500)∧(∀ ad,ao=some ad→w.heap.size≤ad.block)∧w.grownBy w' none:=by
 obtain ⟨n,hn⟩:∃ n,n=L.length:=⟨_,rfl⟩
 obtain ⟨HN,HL⟩:=zh2 hn hL
 rw[← hn]
 clear hn hL
 go_enter Tryz.func24,Tryz.ntmps24
 go_wp2
 go_loopw [3,4] (fun v i wr=>∃ j:Nat,i = .int .i64 j∧j≤n∧j≤500∧Hid (wr.ownsRow w.heap.size 90 1 v j ((L.take j).map ivc)∧w.grownBy wr none)) (fun _ i _=>n - (intOf i).toNat)
 case atStart=>exact ⟨0,rfl,Nat.zero_le _,Nat.zero_le _,World.ownsRow_nil _ _ _ _,zab _ _⟩
 case round =>
  obtain ⟨j,rfl,hj,hj5,HR⟩:=hrel
  by_cases hlt:j<n
  ·have hd1:decide ((j:Int)<(n:Int))=true:=by simp;omega
   by_cases h5:j<500
   ·have hlt' : j<L.length:=by have:=uh HN;omega
    obtain ⟨b,o,hfo,hcell⟩:=((uh HL).kept (uh HR).2).at j hlt'
    obtain ⟨y,hy⟩:∃ y,y=L[j]:=⟨_,rfl⟩
    rw[← hy] at hcell
    obtain ⟨W1,hW1,hB1,g1⟩:=zal wr 90 [ivc y]
    have ho1:W1.ownsRow w.heap.size 90 1 u3 j ((L.take j).map ivc):=(uh HR).1.kept g1 (by cases u3.ownBlock <;> simp)
    have hb1:w.heap.size≤W1.heap.size:=Nat.le_trans (uh HR).2.size g1.size
    have G1:=tn (uh HR).2 g1
    have hsn:(L.take (j+1)).map ivc=(L.take j).map ivc++[ivc y]:=by rw[List.take_succ_eq_append_getElem hlt',List.map_append,← hy];rfl
    have HW1:=hide (show W1=wr.alloc (.cells #[.int .i64 y] 90) from hW1)
    obtain ⟨HB1,HO1,HG1,HSN⟩:=zh4 hB1 ho1 G1 hsn
    have hjw:IntKind.i64.wrap ((j:Int)+1)=(j:Int)+1:=by rw[IntKind.wrap_i64];omega
    have hj1:j≤1000000:=by omega
    clear hy hW1 hB1 ho1 g1 G1 hsn HR hlt'
    subst hfo
    go_wp2_with (rw[← uh HW1];refine zd6 rfl _ _ rfl w.heap.size u3 j _ rfl (uh HO1) wr.heap.size y (uh HB1) rfl hj1 hb1 ?_;intro v5 w5 ho5 g5;have HQ:=hide (And.intro ho5 (zae (uh HG1) g5 (fun x e=>Or.inl ((uh HO1).lt x e).1)));obtain ⟨a5,c5,rfl⟩:=zi3 ho5;clear ho5 g5)
    go_roundw
    case rel =>
     refine ⟨j+1,by go_num,by omega,by omega,?_,(uh HQ).2⟩
     rw[uh HSN]
     exact (uh HQ).1
    case measure=>simp[intOf];omega
   ·have hj5' : j=500:=by omega
    have hd2:¬ (j:Int)<500:=by omega
    obtain ⟨a5,c5,hv⟩:=zi3 (uh HR).1
    have hln:(L.take 500).length=j:=by have:=uh HN;rw[List.length_take];omega
    have hfin:=(uh HR).1
    rw[hj5'] at hfin
    have hfin2:wr.ownsRow w.heap.size 90 1 u3 (L.take 500).length ((L.take 500).map ivc):=by rw[hln,hj5'];exact hfin
    obtain ⟨ao,c,hv2,q1,q2⟩:=zm7 hfin2
    subst hv2
    have HF:=hide (And.intro q1 (And.intro q2 (uh HR).2))
    clear q1 q2 hfin hfin2 hv hln HR hj5'
    go_wp2
    go_ret
    exact ⟨ao,c,rfl,uh HF⟩
  ·have hjn:j=n:=by omega
   have hd1:decide ((j:Int)<(n:Int))=false:=by simp;omega
   have hln:(L.take 500).length=j:=by have:=uh HN;rw[List.length_take];omega
   have hfin2:wr.ownsRow w.heap.size 90 1 u3 (L.take 500).length ((L.take 500).map ivc):=by
    have h6:=(uh HR).1
    have e7:L.take j=L.take 500:=by
     have:=uh HN
     rw[List.take_of_length_le (by omega),List.take_of_length_le (by omega)]
    rw[e7] at h6
    rw[hln]
    exact h6
   obtain ⟨ao,c,hv2,q1,q2⟩:=zm7 hfin2
   subst hv2
   have HF:=hide (And.intro q1 (And.intro q2 (uh HR).2))
   clear q1 q2 hfin2 hln HR hjn
   go_wp2
   go_ret
   exact ⟨ao,c,rfl,uh HF⟩
section
variable {u w:World} {F:List Nat} {d:Nat} {D:Dsk} (h:Dw u w F d D)
include h
end
end Go.Proofs.YtoilcpdhhlcidaaGreatDoor

/- Lemmas. -/
namespace Go.Proofs.YtoilcpdhhlcidaaGreatDoor
open Go.ChangeShapes Go.WideShapes Go.ChangeAt Go.RowKit Go.Deep
theorem zoj {H:Type} {enc:TypeId × Value→H} {W:World} {a:Option Addr} {len cap:Nat} {d:DataW H} {p:List MemPlace} (h:DataW.Trod enc Tryz.prog W 0 (fun _=>true) true 51 (.slice a len cap) d p) :
  ∃ l:List Int,l.length=len∧Nts W a cap l:=by
 obtain ⟨fuel,hf⟩:=h
 rcases open_ints Tryz.underlying51 Tryz.underlying3 (by kernel_rfl) hf with ⟨hcs,_⟩ | ⟨x,l,c,zs,hcs,_,hl,hm,hz,_,hcell,hwz⟩
 ·simp[Value.cells] at hcs
  obtain ⟨rfl,rfl,rfl⟩:=hcs
  exact ⟨[],rfl,⟨fun _=>⟨rfl,rfl⟩,Nat.le_refl _,Nat.zero_le _,(fun _ h=>by cases h),(fun _ h=>by cases h)⟩⟩
 ·simp[Value.cells] at hcs
  obtain ⟨rfl,rfl,rfl⟩:=hcs
  have hzc:zs.length=cap:=by simpa using hz
  have hsp:0<zs.length→x.spot=none:=fun h0=>by
   have:=World.cell?_spot (hcell 0 h0)
   simpa[Addr.add] using this
  refine ⟨zs.take len,by simp;omega,⟨(fun e=>by cases e),by simp;omega,hm,(fun ad e hp=>by cases e;exact hsp (by simp at hp;omega)),(fun ad e i hi => ?_)⟩⟩
  cases e
  have hi' : i<len:=by simp at hi;omega
  have hs:=hsp (by omega)
  have hc:=hcell i (by omega)
  obtain ⟨b,o,s⟩:=x
  simp only at hs
  subst hs
  rw[Addr.add_lit] at hc
  rw[hc]
  simp[List.getD,List.getElem?_eq_getElem (show i<zs.length by omega)]
end Go.Proofs.YtoilcpdhhlcidaaGreatDoor
