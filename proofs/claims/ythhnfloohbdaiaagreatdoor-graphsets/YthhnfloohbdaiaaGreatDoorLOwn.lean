/- Lemmas. -/
import Derived.Test.YthhnfloohbdaiaaGreatDoorRCheck
import Derived.Test.YthhnfloohbdaiaaGreatDoorMNeq
namespace Go.Proofs.YthhnfloohbdaiaaGreatDoor
open Go.RowKit
set_option maxRecDepth 100000 in
theorem zoj (w:World) (k:Int) (ao:Option Addr) (c:Nat) (d:List UInt8) (hb:Bts w ao c d):Calls Tryz.prog 16 #[.agg #[.int .i64 k,.slice ao d.length c]] w fun e w'=>e = .returned (.agg #[.int .i64 k,.string (str d)])∧w.grownBy w' none:=by
 obtain ⟨n,hn⟩:∃ n,n=d.length:=⟨_,rfl⟩
 obtain ⟨S0,hS0⟩:∃ S,S=str []:=⟨_,rfl⟩
 have hzv:=zge
 rw[← hS0] at hzv
 obtain ⟨W1,hW1⟩:∃ W,W=(w.alloc (.cells #[.int .i64 k,.slice ao n c] 42)).alloc (.cells #[.int .i64 0,.string S0] 47):=⟨_,rfl⟩
 have G1:w.grownBy W1 none:=by rw[hW1];exact zah (zah (zab _ _) _) _
 have hcv:=zaz (hb.kept G1 (fun _ e=>by cases e))
 rw[← hn] at hcv ⊢
 rw[hW1] at hcv
 obtain ⟨SS,hSS⟩:∃ S,S=str d:=⟨_,rfl⟩
 rw[← hSS] at hcv ⊢
 clear hSS hn hb G1 hW1 W1 hS0
 go_enter Tryz.func16,Tryz.ntmps16
 go_wp2
 exact bodyPost_ret (v := .agg #[.int .i64 k,.string SS]) (by simp[results,Tryz.results16,go_sem]) rfl ⟨rfl,zah (zah (zab _ _) _) _⟩
end Go.Proofs.YthhnfloohbdaiaaGreatDoor
