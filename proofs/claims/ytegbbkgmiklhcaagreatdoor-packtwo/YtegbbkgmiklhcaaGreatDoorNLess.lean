/- Lemmas. -/
import Derived.Test.YtegbbkgmiklhcaaGreatDoorMCpy
import Derived.BigQuiet
import Derived.Deep.QuietTactic
namespace Go.Proofs.YtegbbkgmiklhcaaGreatDoor
open Go.RowKit
def za5 (a b:List UInt8):Bool:=Op.bytesLess a b
theorem zc3 (a:List UInt8):za5 a []=false:=by cases a <;> rfl
theorem zcn (x y:UInt8) (a b:List UInt8):za5 (x::a) (y::b)=(decide (x<y) || (x == y && za5 a b)):=rfl
theorem zhc (a:List UInt8):za5 a a=false:=by
 induction a with
 | nil=>rfl
 | cons x r ih=>rw[zcn,ih];simp[UInt8.lt_irrefl]
theorem ze6 (a:List UInt8):∀ b,za5 a b=true→za5 b a=false:=by
 induction a with
 | nil=>intro b _;exact zc3 b
 | cons x r ih =>
  intro b h
  cases b with
  | nil=>rw[zc3] at h;cases h
  | cons y s =>
   rw[zcn] at h ⊢
   simp only[Bool.or_eq_true,decide_eq_true_eq,Bool.and_eq_true,beq_iff_eq] at h
   rcases h with h | ⟨rfl,h⟩
   ·have h1:¬ y<x:=by rw[UInt8.lt_iff_toNat_lt] at h ⊢;omega
    have h2:¬ y=x:=fun e=>by subst e;exact UInt8.lt_irrefl _ h
    simp[h1,h2]
   ·rw[ih s h];simp[UInt8.lt_irrefl]
theorem ze7 (a:List UInt8):∀ b,za5 a b=false→za5 b a=false→a=b:=by
 induction a with
 | nil =>
  intro b h _
  cases b with
  | nil=>rfl
  | cons y s=>cases h
 | cons x r ih =>
  intro b h k
  cases b with
  | nil=>cases k
  | cons y s =>
   rw[zcn] at h k
   simp only[Bool.or_eq_false_iff,decide_eq_false_iff_not] at h k
   have e:x=y:=by
    apply UInt8.toNat_inj.1
    have h1:=h.1;have k1:=k.1
    rw[UInt8.lt_iff_toNat_lt] at h1 k1
    omega
   subst e
   simp at h k
   rw[ih s h k]
theorem zdm (a:List UInt8):∀ b c,za5 a b=true→za5 b c=true→za5 a c=true:=by
 induction a with
 | nil =>
  intro b c h k
  cases c with
  | nil=>rw[zc3] at k;cases k
  | cons z t=>rfl
 | cons x r ih =>
  intro b c h k
  cases b with
  | nil=>rw[zc3] at h;cases h
  | cons y s =>
   cases c with
   | nil=>rw[zc3] at k;cases k
   | cons z t =>
    rw[zcn] at h k ⊢
    simp only[Bool.or_eq_true,decide_eq_true_eq,Bool.and_eq_true,beq_iff_eq] at h k ⊢
    simp only[UInt8.lt_iff_toNat_lt] at h k ⊢
    rcases h with h | ⟨rfl,h⟩
    ·rcases k with k | ⟨rfl,k⟩
     ·left;omega
     ·left;exact h
    ·rcases k with k | ⟨rfl,k⟩
     ·left;exact k
     ·right;exact ⟨rfl,ih s t h k⟩
theorem zlm (w:World) (a b:List UInt8):Calls Tryz.prog 136 #[.string (str a),.string (str b)] w fun e w'=>e = .returned (.bool (za5 a b))∧w'=w:=by
 go_enter Tryz.func136,Tryz.ntmps136
 go_wp2
 go_ret
 exact ⟨by rw[zct,zct];rfl,rfl⟩
end Go.Proofs.YtegbbkgmiklhcaaGreatDoor
