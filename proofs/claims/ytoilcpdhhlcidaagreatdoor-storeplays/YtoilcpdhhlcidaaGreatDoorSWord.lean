/- Lemmas. -/
import Derived.Test.YtoilcpdhhlcidaaGreatDoorMRo0
import Derived.Test.YtoilcpdhhlcidaaGreatDoorSMath
import Derived.Laws.BitsAllLaws
import Derived.Laws.Bits64
import Derived.Laws.Unary
namespace Go.Proofs.YtoilcpdhhlcidaaGreatDoor
open Go.RowKit
def wz (x:W):Int:=((x.toNat:Nat):Int)
def wv (x:W):Value := .int .u32 (wz x)
theorem zsk (x:W):0≤wz x:=by unfold wz;omega
theorem zsl (x:W):wz x<4294967296:=by have:=x.isLt;unfold wz;omega
theorem zpu (x y:W):bits .xor .u32 (wz x) (wz y)=wz (x ^^^ y):=by
 unfold wz;rw[u32_xor_nat _ _ x.isLt y.isLt,BitVec.toNat_xor]
theorem zsm (x y:W):bits .and .u32 (wz x) (wz y)=wz (x &&& y):=by
 unfold wz;rw[u32_and_nat _ _ x.isLt y.isLt,BitVec.toNat_and]
theorem w_or (x y:W):bits .or .u32 (wz x) (wz y)=wz (x ||| y):=by
 unfold wz;rw[u32_or_nat _ _ x.isLt y.isLt,BitVec.toNat_or]
theorem zi2 (x y:W):(wz x+wz y) % 4294967296=wz (x+y):=by
 unfold wz;rw[BitVec.toNat_add];omega
theorem zpv (x y:W):IntKind.u32.wrap (wz x+wz y)=wz (x+y):=by rw[IntKind.wrap_u32,zi2]
theorem zsn (x:W):bits .xor .u32 4294967295 (wz x)=wz (~~~x):=by
 have h:(4294967295:Int)=wz (BitVec.allOnes 32):=rfl
 rw[h,zpu,BitVec.allOnes_xor]
theorem zrg (x:W) (n:Nat):wz x / 2 ^ n=wz (x >>> n):=by
 unfold wz;rw[BitVec.toNat_ushiftRight,Nat.shiftRight_eq_div_pow]
 exact (Int.natCast_ediv _ _).symm ▸ by simp
theorem zr3 (x:W) (n:Nat):wz x*2 ^ n % 4294967296=wz (x <<< n):=by
 unfold wz;rw[BitVec.toNat_shiftLeft,Nat.shiftLeft_eq]
 simp
theorem zr4 (n:Nat) (h0:0<n) (h1:n<32):bits .and .u64 (IntKind.u64.wrap (-(n:Int))) 31=((32 - n:Nat):Int):=by
 have:∀ k:Fin 32,0<k.val→bits .and .u64 (IntKind.u64.wrap (-(k.val:Int))) 31=((32 - k.val:Nat):Int):=by decide +kernel
 exact this ⟨n,h1⟩ h0
theorem zrh (w:World) (x:W) (n:Nat) (h0:0<n) (h1:n<32) :
  Calls Tryz.prog 145 #[wv x,.int .i64 (-(n:Int))] w fun e w'=>e = .returned (wv (ror x n))∧w'=w:=by
 have hl:=zr4 n h0 h1
 unfold wv
 go_enter Tryz.func145,Tryz.ntmps145
 go_wp2
 go_ret
 rw[zr3,zrg,w_or,show 32 - (32 - n)=n by omega,ror,BitVec.or_comm]
 exact ⟨rfl,rfl⟩
theorem zgc (w:World):(Go.sizeOf 165).run Tryz.prog w = .ok 1 w:=by kernel_rfl
theorem zhx (w:World):(isAgg 165).run Tryz.prog w = .ok false w:=by kernel_rfl
theorem zi3 (l:List W):∀ u∈l.map wv,u.oneCell'=true:=by
 intro u hu
 obtain ⟨_,_,rfl⟩:=List.mem_map.1 hu
 rfl
theorem zno (xs:List W) (n k:Nat) (x:W) (hk:k<xs.length) (hx:x=xs[k]) (hn:k<n):((xs.take k++List.replicate (n - k) 0).map wv).set k (wv x)=(xs.take (k+1)++List.replicate (n - (k+1)) 0).map wv:=by
 subst hx
 rw[← List.map_set,List.take_succ_eq_append_getElem hk,show n - k=(n - (k+1))+1 by omega,List.replicate_succ,List.append_assoc]
 rw[List.set_append_right _ _ (by simp;omega)]
 congr 2
 have:k - (xs.take k).length=0:=by simp;omega
 rw[this]
 rfl
theorem znp (xs:List W) (n:Nat) (x:W) (hn:0<n):((xs++List.replicate n 0).map wv).set xs.length (wv x)=((xs++[x])++List.replicate (n - 1) 0).map wv:=by
 rw[← List.map_set,show n=(n - 1)+1 by omega,List.replicate_succ,List.set_append_right _ _ (by omega),Nat.sub_self]
 simp
theorem zpw (xs ys:List W) (k:Nat) (hk:k<xs.length) (hl:ys.length=xs.length) (v:W) (hv:v=xs.getD k 0+ys.getD k 0) :
  (((List.zipWith (· + ·) xs ys).take k++xs.drop k).map wv).set k (wv v)=((List.zipWith (· + ·) xs ys).take (k+1)++xs.drop (k+1)).map wv:=by
 subst hv
 have hz:k<(List.zipWith (· + ·) xs ys).length:=by simp;omega
 rw[← List.map_set,List.take_succ_eq_append_getElem hz,List.set_append_right _ _ (by simp;omega)]
 have:k - ((List.zipWith (· + ·) xs ys).take k).length=0:=by simp;omega
 rw[this,List.drop_eq_getElem_cons hk,List.append_assoc]
 have hky:k<ys.length:=by omega
 rw[List.set_cons_zero]
 simp[List.getD,hk,hky]
theorem zlw (w:World) (x:W) (n:Nat) (h0:0<n) (h1:n<32) :
  Calls Tryz.prog 141 #[wv x,.int .i64 (n:Int)] w fun e w'=>e = .returned (wv (ror x n))∧w'=w:=by
 go_enter Tryz.func141,Tryz.ntmps141
 go_wp2_with (go_at_call 145;refine (zrh _ x n h0 h1).mono ?_;rintro e w' ⟨rfl,rfl⟩)
 go_ret
 exact ⟨rfl,rfl⟩
end Go.Proofs.YtoilcpdhhlcidaaGreatDoor
