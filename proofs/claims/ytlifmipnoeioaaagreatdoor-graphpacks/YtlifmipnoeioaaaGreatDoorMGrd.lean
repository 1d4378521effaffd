/- Lemmas. -/
import Derived.Test.YtlifmipnoeioaaaGreatDoorMStr
import Derived.Lib.Strings
import Derived.Test.YtlifmipnoeioaaaGreatDoorMem
namespace Go.Proofs.YtlifmipnoeioaaaGreatDoor
open Go.RowKit
theorem str_sub (l:List UInt8) (a b:Nat):(str l).extract a b=str ((l.drop a).take (b - a)):=by
 apply ByteArray.ext
 apply Array.toList_inj.1
 rw [Lib.extract_data]
 rfl
theorem idx_str (l:List UInt8) (p:Nat) (n:Nat) (hp:p<l.length) (hn:n=l[p].toNat) (W:World):(Instr.index 9 (.string (str l)) (.int .i64 (p:Int))).run Tryz.prog W = .ok (.int .u8 (n:Int)) W:=by
 subst hn
 have hs:p<(str l).size:=by rw [str_size];exact hp
 rw [run_index_string _ _ _ _ _ Tryz.underlying9]
 simp
 rw [dif_pos hs]
 rfl
theorem slice_str (l:List UInt8) (lo hi:Nat) (h1:lo≤hi) (h2:hi≤l.length) (W:World):(Instr.slice 9 (.string (str l)) (some (.int .i64 (lo:Int))) (some (.int .i64 (hi:Int))) none).run Tryz.prog W = .ok (.string (str ((l.drop lo).take (hi - lo)))) W:=by
 rw [run_slice_string_if _ _ _ _ _ _ _ Tryz.underlying9]
 rw [if_pos (by rw [str_size];omega),if_pos ⟨by omega,by omega⟩,Int.toNat_natCast,Int.toNat_natCast,str_sub]
theorem slice_str_from (l:List UInt8) (lo:Nat) (h2:lo≤l.length) (W:World):(Instr.slice 9 (.string (str l)) (some (.int .i64 (lo:Int))) none none).run Tryz.prog W = .ok (.string (str (l.drop lo))) W:=by
 rw [run_slice_string_l W 9 _ Tryz.underlying9 .i64 (lo:Int) (by omega) (by rw [str_size];omega),Int.toNat_natCast,str_size,str_sub,List.take_of_length_le (by rw [List.length_drop];omega)]
end Go.Proofs.YtlifmipnoeioaaaGreatDoor

/- Lemmas. -/
namespace Go.Proofs.YtlifmipnoeioaaaGreatDoor
open Go.RowKit
theorem region_named {P:Program} {Q:Exit→Act→World→Prop} {a:Act} {w:World} {id:Nat} {l:List Oper} (h:∀ O:Array Oper,O=l.toArray→wpList P O Q l a w):(Code.region id l.toArray false).wp P Q a w :=
 wp_region_lit (h _ rfl)
theorem wpList_val {P:Program} {ops:Array Oper} {rest:List Oper} {o:Oper} {a:Act} {w:World} {Q:Exit→Act→World→Prop} (hw:Region.wanted o (yielded ops a.tmps)=true) (v:Value)
  (hv:∀ K:Act→World→Prop,K (a.put o.dst v) w→o.wp P a w K Q) (h:wpList P ops Q rest (a.put o.dst v) w):wpList P ops Q (o::rest) a w :=
 wpList_step fun K hK=>by rw [if_pos hw];exact hv K (hK _ _ h)
theorem wpList_want {P:Program} {ops:Array Oper} {rest:List Oper} {o:Oper} {a:Act} {w:World} {Q:Exit→Act→World→Prop} (hw:Region.wanted o (yielded ops a.tmps)=true)
  (h:∀ K:Act→World→Prop,(∀ a w,wpList P ops Q rest a w→K a w)→o.wp P a w K Q):wpList P ops Q (o::rest) a w :=
 wpList_step fun K hK=>by rw [if_pos hw];exact h K hK
theorem wpList_skip {P:Program} {ops:Array Oper} {rest:List Oper} {o:Oper} {a:Act} {w:World} {Q:Exit→Act→World→Prop} (hw:Region.wanted o (yielded ops a.tmps)=false)
  (h:wpList P ops Q rest (a.put o.dst undef) w):wpList P ops Q (o::rest) a w :=
 wpList_step fun K hK=>by rw [hw,if_neg (by simp)];exact hK _ _ h
end Go.Proofs.YtlifmipnoeioaaaGreatDoor
