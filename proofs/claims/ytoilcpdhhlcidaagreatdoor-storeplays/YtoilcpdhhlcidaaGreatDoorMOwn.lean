/- Lemmas. -/
import Derived.Deep.RegionHeld3
import Derived.Deep.DrawnRows
import Derived.Laws.ResultCell
import Derived.Test.YtoilcpdhhlcidaaGreatDoorMRo0
namespace Go.Proofs.YtoilcpdhhlcidaaGreatDoor
open Go.RowKit
theorem zb3 {P:Program} {w w' : World} {ops:Array Oper} {o:Oper} {a:Act} {K:Act→World→Prop} {Q:Exit→Act→World→Prop} {E:Prop} (hw:Region.wanted o (yielded ops a.tmps)=true) (t:TypeId) (x:Operand) (ho:o.op = .buildSlice t 1 #[(0,x)])
  (X s:Value) (hx:a.eval x=X) (hr:(Instr.buildSlice t 1 #[(0,X)]).run P w = .ok s w') (h:K (a.put o.dst s) w'):if Region.wanted o (yielded ops a.tmps)=true then Oper.wp P o a w K Q else E:=by
 rw[if_pos hw]
 unfold Oper.wp execOp
 simp only[ho,Sem.run_bind,List.map_toArray,List.map_cons,List.map_nil,hx,hr,Result.andThen_ok]
 exact h
theorem za9 {P:Program} {fn:Func} {p u:Tmp} {ty:TypeId} (h:fn.results = #[.cell p ty,.tmp u]) (tmps:Array Value) (w:World) (g:Nat) (t:TypeId) (cs:Array Value) (fr:Nat × Nat) (d:TypeDesc)
  (hp:tmps.getD p undef = .pointer (some ⟨g,0,none⟩)) (hg:w.heap[g]? = some (.cells cs t fr))
  (hu:P.underlying ty=some d) (hd:(match d with | .struct _ | .array _ _=>true | _=>false)=true) (hi:(P.info? ty).map (·.size)=some cs.size) :
  (results fn tmps).run P w = .ok (.tuple #[.agg cs,tmps.getD u undef]) w:=by
 rw[results_cell_tmp h,hp]
 simp[asAddr,run_loadVar_row w g t ty cs fr d hg hu hd hi]
theorem zd1 {w:World} {b1 b2 k n:Nat} {t:TypeId} {v:Value} {xs:List Value} (h:w.ownsRow b1 t k v n xs) (hb:b2≤b1):w.ownsRow b2 t k v n xs:=by
 refine ⟨h.1,?_⟩
 rcases h.2 with h1 | ⟨g,cap,cur,h1,h2,h3⟩
 ·exact Or.inl h1
 ·exact Or.inr ⟨g,cap,cur,h1,Nat.le_trans hb h2,h3⟩
theorem zc1 {w:World} {base n:Nat} {v:Value} {l:List UInt8} (h:w.ownsRow base 5 1 v n (l.map bv)):n=l.length∧∃ ao c,v = .slice ao n c∧Bts w ao c l∧∀ ad,ao=some ad→base≤ad.block∧Typ w ad.block:=by
 have hn:n=l.length:=by have:=h.1;simpa using this.symm
 refine ⟨hn,?_⟩
 rcases h.2 with ⟨rfl,h2⟩ | ⟨g,cap,cur,rfl,hg,hh,_⟩
 ·have:l=[]:=List.eq_nil_of_length_eq_zero (by omega)
  subst this
  exact ⟨none,0,by rw[hn];rfl,Bts.nil _,fun _ e=>by cases e⟩
 ·obtain ⟨_,h3,h4⟩:=Bts.own h
  exact ⟨_,_,rfl,h4,fun ad e=>by cases e;exact ⟨h3,⟨cur,_,hh⟩⟩⟩
end Go.Proofs.YtoilcpdhhlcidaaGreatDoor
