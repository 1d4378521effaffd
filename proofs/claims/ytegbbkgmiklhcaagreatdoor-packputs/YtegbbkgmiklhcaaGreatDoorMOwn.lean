/- Lemmas. -/
import Derived.Test.YtegbbkgmiklhcaaGreatDoorMStr
import Derived.Lib.Strings
import Derived.Test.YtegbbkgmiklhcaaGreatDoorMRwG
namespace Go.Proofs.YtegbbkgmiklhcaaGreatDoor
open Go.RowKit
theorem zjz (l:List UInt8) (a b:Nat):(str l).extract a b=str ((l.drop a).take (b - a)):=by
 apply ByteArray.ext
 apply Array.toList_inj.1
 rw[Lib.extract_data]
 rfl
theorem zgj (l:List UInt8) (p:Nat) (n:Nat) (hp:p<l.length) (hn:n=l[p].toNat) (W:World):(Instr.index 9 (.string (str l)) (.int .i64 (p:Int))).run Tryz.prog W = .ok (.int .u8 (n:Int)) W:=by
 subst hn
 have hs:p<(str l).size:=by rw[zaj];exact hp
 rw[run_index_string _ _ _ _ _ Tryz.underlying9]
 simp
 rw[dif_pos hs]
 rfl
theorem ziw (l:List UInt8) (lo hi:Nat) (h1:lo≤hi) (h2:hi≤l.length) (W:World):(Instr.slice 9 (.string (str l)) (some (.int .i64 (lo:Int))) (some (.int .i64 (hi:Int))) none).run Tryz.prog W = .ok (.string (str ((l.drop lo).take (hi - lo)))) W:=by
 rw[run_slice_string_if _ _ _ _ _ _ _ Tryz.underlying9]
 rw[if_pos (by rw[zaj];omega),if_pos ⟨by omega,by omega⟩,Int.toNat_natCast,Int.toNat_natCast,zjz]
theorem zej (l:List UInt8) (lo:Nat) (h2:lo≤l.length) (W:World):(Instr.slice 9 (.string (str l)) (some (.int .i64 (lo:Int))) none none).run Tryz.prog W = .ok (.string (str (l.drop lo))) W:=by
 rw[run_slice_string_l W 9 _ Tryz.underlying9 .i64 (lo:Int) (by omega) (by rw[zaj];omega),Int.toNat_natCast,zaj,zjz,List.take_of_length_le (by rw[List.length_drop];omega)]
theorem zby {w:World} {b1 b2 k n:Nat} {t:TypeId} {v:Value} {xs:List Value} (h:w.ownsRow b1 t k v n xs) (hb:b2≤b1):w.ownsRow b2 t k v n xs:=by
 refine ⟨h.1,?_⟩
 rcases h.2 with h1 | ⟨g,cap,cur,h1,h2,h3⟩
 ·exact Or.inl h1
 ·exact Or.inr ⟨g,cap,cur,h1,Nat.le_trans hb h2,h3⟩
theorem zdd {w:World} {base n:Nat} {v:Value} {l:List UInt8} (h:w.ownsRow base 5 1 v n (l.map bv)):n=l.length∧∃ ao c,v = .slice ao n c∧Bts w ao c l∧∀ ad,ao=some ad→base≤ad.block∧Typ w ad.block:=by
 have hn:n=l.length:=by have:=h.1;simpa using this.symm
 refine ⟨hn,?_⟩
 rcases h.2 with ⟨rfl,h2⟩ | ⟨g,cap,cur,rfl,hg,hh,_⟩
 ·have:l=[]:=List.eq_nil_of_length_eq_zero (by omega)
  subst this
  exact ⟨none,0,by rw[hn];rfl,Bts.nil _,fun _ e=>by cases e⟩
 ·obtain ⟨_,h3,h4⟩:=Bts.own h
  exact ⟨_,_,rfl,h4,fun ad e=>by cases e;exact ⟨h3,⟨cur,_,hh⟩⟩⟩
end Go.Proofs.YtegbbkgmiklhcaaGreatDoor
