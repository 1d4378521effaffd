/- Lemmas. -/
import Derived.Laws.ResultCell
import Derived.Test.YtoilcpdhhlcidaaGreatDoorMNts
namespace Go.Proofs.YtoilcpdhhlcidaaGreatDoor
open Go.RowKit
theorem zgv {w:World} {b1 b2 k n:Nat} {t:TypeId} {v:Value} {xs:List Value} (h:w.ownsRow b1 t k v n xs) (hb:b2≤b1):w.ownsRow b2 t k v n xs:=by
 refine ⟨h.1,?_⟩
 rcases h.2 with h1 | ⟨g,cap,cur,h1,h2,h3⟩
 ·exact Or.inl h1
 ·exact Or.inr ⟨g,cap,cur,h1,Nat.le_trans hb h2,h3⟩
theorem zcj {w:World} {base n:Nat} {v:Value} {l:List UInt8} (h:w.ownsRow base 5 1 v n (l.map bv)):n=l.length∧∃ ao c,v = .slice ao n c∧Bts w ao c l∧∀ ad,ao=some ad→base≤ad.block∧Typ w ad.block:=by
 have hn:n=l.length:=by have:=h.1;simpa using this.symm
 refine ⟨hn,?_⟩
 rcases h.2 with ⟨rfl,h2⟩ | ⟨g,cap,cur,rfl,hg,hh,_⟩
 ·have:l=[]:=List.eq_nil_of_length_eq_zero (by omega)
  subst this
  exact ⟨none,0,by rw[hn];rfl,Bts.nil _,fun _ e=>by cases e⟩
 ·obtain ⟨_,h3,h4⟩:=Bts.own h
  exact ⟨_,_,rfl,h4,fun ad e=>by cases e;exact ⟨h3,⟨cur,_,hh⟩⟩⟩
theorem zlg:(Tryz.prog.info? 3).map (fun i=>(i.zero,i.size,i.bytes))=some (some (.int .i64 0),1,8):=by kernel_rfl
theorem znn (M:Nat) (hM:M<4611686018427387904) (a:Int):∃ j:Nat,j≤M∧bits .and .i64 a (M:Int)=(j:Int):=by
 have hm:(BitVec.ofInt 64 (M:Int)).toNat=M:=by rw[BitVec.toNat_ofInt];omega
 have h:(BitVec.ofInt 64 a &&& BitVec.ofInt 64 (M:Int)).toNat≤M:=by
  rw[BitVec.toNat_and,hm]
  exact Nat.and_le_right
 refine ⟨(BitVec.ofInt 64 a &&& BitVec.ofInt 64 (M:Int)).toNat,h,?_⟩
 show IntKind.i64.wrap (((BitVec.ofInt 64 a &&& BitVec.ofInt 64 (M:Int)).toNat:Nat):Int)=_
 rw[IntKind.wrap_i64]
 omega
end Go.Proofs.YtoilcpdhhlcidaaGreatDoor
