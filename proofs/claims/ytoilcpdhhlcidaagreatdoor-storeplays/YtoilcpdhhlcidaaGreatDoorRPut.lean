/- Lemmas. -/
import Derived.Test.YtoilcpdhhlcidaaGreatDoorMMsk
import Derived.Test.YtoilcpdhhlcidaaGreatDoorMStr
import Derived.Deep.Slices
namespace Go.Proofs.YtoilcpdhhlcidaaGreatDoor
open Go.RowKit
set_option maxRecDepth 100000
theorem zo5 (v k:Nat):lb v (k+1)=UInt8.ofNat (v / 256 ^ k)::lb v k:=by
 unfold lb
 rw[List.range_succ_eq_map,List.map_cons,List.map_map]
 congr 1
 apply List.map_congr_left
 intro i _
 show UInt8.ofNat (v / 256 ^ (k+1 - 1 - (i+1)))=UInt8.ofNat (v / 256 ^ (k - 1 - i))
 rw[show k+1 - 1 - (i+1)=k - 1 - i from by omega]
set_option maxHeartbeats 400000 in
theorem zry (w:World) (b:List UInt8) (v k:Nat) (hk:1≤k) (hk8:k≤8) (n:Int) (hn:n=(k:Int)∨(8<n∧k=8)) (hv:v<18446744073709551616) (hb:b.length≤70368744177664) :
  Calls Tryz.prog 82 #[.string (str b),.int .u64 v,.int .i64 n] w fun e w'=>e = .returned (.string (str (b++lb v k)))∧w.grownBy w' none:=by
 have hsz:=zaq b
 rcases hn with rfl | ⟨hn8,hk8⟩
 ·skip
  go_enter Tryz.func82,Tryz.ntmps82
  go_wp2
  go_loopw [1,7,8] (fun x o i wr=>∃ j:Nat,j≤k∧i = .int .i64 j∧x = .int .u64 ((v / 256 ^ j:Nat):Int)∧o = .string (str (lb v j))∧w.grownBy wr none) (fun _ _ i _=>k - (intOf i).toNat)
  case atStart=>exact ⟨0,Nat.zero_le _,rfl,by simp,rfl,zac _ _⟩
  case round =>
   obtain ⟨j,hj,rfl,rfl,rfl,hg⟩:=hrel
   by_cases hlt:j<k
   ·obtain ⟨y,hy⟩:∃ y,y=v / 256 ^ j:=⟨_,rfl⟩
    rw[← hy]
    have cv:(convert 53 9 (.slice (some ⟨wr.heap.size,0,none⟩) 1 1)).run Tryz.prog (wr.alloc (.cells #[.int .u8 ((y:Int) % 256)] 5)) = .ok (.string (str [UInt8.ofNat y])) (wr.alloc (.cells #[.int .u8 ((y:Int) % 256)] 5)):=zb7 (zms wr y)
    have hs1:(str [UInt8.ofNat y]).size=1:=zaq [UInt8.ofNat y]
    have hs2:=zaq (lb v j)
    rw[zb6] at hs2
    have hy64:y<18446744073709551616:=by rw[hy];exact Nat.lt_of_le_of_lt (Nat.div_le_self _ _) hv
    have HY:=hide hy
    clear hy
    go_wp2
    go_roundw
    case rel =>
     refine ⟨j+1,by omega,by go_num,?_,?_,zaf hg _⟩
     ·rw[Nat.pow_succ,← Nat.div_div_eq_div_mul,← uh HY]
      go_num
     ·rw[zdx,zo5,← uh HY]
      rfl
    case measure=>simp[intOf];omega
   ·have hjk:j=k:=by omega
    have hs2:=zaq (lb v j)
    rw[zb6] at hs2
    have HF:Hid (str (b++lb v k)=str b++str (lb v j)):=by rw[hjk,zdx];exact rfl
    clear hjk
    go_wp2
    go_ret
    exact ⟨(by rw[uh HF];rfl),hg⟩
 ·subst hk8
  go_enter Tryz.func82,Tryz.ntmps82
  go_wp2
  go_loopw [1,7,8] (fun x o i wr=>∃ j:Nat,j≤8∧i = .int .i64 j∧x = .int .u64 ((v / 256 ^ j:Nat):Int)∧o = .string (str (lb v j))∧w.grownBy wr none) (fun _ _ i _=>8 - (intOf i).toNat)
  case atStart=>exact ⟨0,Nat.zero_le _,rfl,by simp,rfl,zac _ _⟩
  case round =>
   obtain ⟨j,hj,rfl,rfl,rfl,hg⟩:=hrel
   by_cases hlt:j<8
   ·obtain ⟨y,hy⟩:∃ y,y=v / 256 ^ j:=⟨_,rfl⟩
    rw[← hy]
    have cv:(convert 53 9 (.slice (some ⟨wr.heap.size,0,none⟩) 1 1)).run Tryz.prog (wr.alloc (.cells #[.int .u8 ((y:Int) % 256)] 5)) = .ok (.string (str [UInt8.ofNat y])) (wr.alloc (.cells #[.int .u8 ((y:Int) % 256)] 5)):=zb7 (zms wr y)
    have hs1:(str [UInt8.ofNat y]).size=1:=zaq [UInt8.ofNat y]
    have hs2:=zaq (lb v j)
    rw[zb6] at hs2
    have hy64:y<18446744073709551616:=by rw[hy];exact Nat.lt_of_le_of_lt (Nat.div_le_self _ _) hv
    have HY:=hide hy
    clear hy
    go_wp2
    go_roundw
    case rel =>
     refine ⟨j+1,by omega,by go_num,?_,?_,zaf hg _⟩
     ·rw[Nat.pow_succ,← Nat.div_div_eq_div_mul,← uh HY]
      go_num
     ·rw[zdx,zo5,← uh HY]
      rfl
    case measure=>simp[intOf];omega
   ·have hjk:j=8:=by omega
    have hs2:=zaq (lb v j)
    rw[zb6] at hs2
    have HF:Hid (str (b++lb v 8)=str b++str (lb v j)):=by rw[hjk,zdx];exact rfl
    clear hjk
    go_wp2
    go_ret
    exact ⟨(by rw[uh HF];rfl),hg⟩
theorem zlh (w:World) (b:List UInt8) (v:Nat) (n:Int) (hv:v<18446744073709551616) (hb:b.length≤70368744177664) :
  Calls Tryz.prog 82 #[.string (str b),.int .u64 v,.int .i64 n] w fun e w'=>e = .returned (.string (str (b++lb v (nb n))))∧w.grownBy w' none:=by
 by_cases hn:n<1
 ·have h0:nb n=0:=by unfold nb;omega
  rw[h0,show lb v 0=[] from rfl,List.append_nil]
  clear h0
  go_enter Tryz.func82,Tryz.ntmps82
  go_wp2
  go_ret
  exact ⟨rfl,zac _ _⟩
 ·exact zry w b v (nb n) (by unfold nb;omega) (by unfold nb;omega) n (by unfold nb;omega) hv hb
theorem zmp (w:World) (b x:List UInt8) (hb:b.length+16+x.length≤70368744177664) :
  Calls Tryz.prog 83 #[.string (str b),.string (str x)] w fun e w'=>e = .returned (.string (str (b++layS x)))∧w.grownBy w' none:=by
 have hs1:=zaq x
 have hs2:=zaq (b++lb x.length 4)
 rw[List.length_append,zb6] at hs2
 have h1:=zlh w b x.length 4 (by omega) (by omega)
 rw[show nb 4=4 from by decide] at h1
 have HF:Hid (str (b++layS x)=str (b++lb x.length 4)++str x):=by unfold layS;rw[zdx,List.append_assoc];exact rfl
 go_enter Tryz.func83,Tryz.ntmps83
 go_wp2_with fail
 refine h1.mono ?_
 rintro e w1 ⟨rfl,g1⟩
 clear h1
 go_wp2
 go_ret
 exact ⟨(by rw[uh HF];rfl),g1⟩
end Go.Proofs.YtoilcpdhhlcidaaGreatDoor
