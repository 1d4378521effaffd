/- Lemmas. -/
import Derived.Test.YthhnfloohbdaiaaGreatDoorRCheck
import Derived.Test.YthhnfloohbdaiaaGreatDoorOObj
import Derived.Test.YthhnfloohbdaiaaGreatDoorGTexts
namespace Go.Proofs.YthhnfloohbdaiaaGreatDoor
open Go.RowKit
theorem zd3 {P:Program} {fn:Func} {p u x:Tmp} {ty:TypeId} (h:fn.results = #[.cell p ty,.tmp u,.tmp x]) (tmps:Array Value) (w:World) (g:Nat) (t:TypeId) (cs:Array Value) (fr:Nat × Nat) (d:TypeDesc)
  (hp:tmps.getD p undef = .pointer (some ⟨g,0,none⟩)) (hg:w.heap[g]? = some (.cells cs t fr))
  (hu:P.underlying ty=some d) (hd:(match d with | .struct _ | .array _ _=>true | _=>false)=true) (hi:(P.info? ty).map (·.size)=some cs.size) :
  (results fn tmps).run P w = .ok (.tuple #[.agg cs,tmps.getD u undef,tmps.getD x undef]) w:=by
 have key:(results fn tmps).run P w=((asAddr (tmps.getD p undef)).run P w).andThen fun a w1=>((loadVar ty a).run P w1).andThen fun v w2 => .ok (.tuple #[v,tmps.getD u undef,tmps.getD x undef]) w2:=by
  simp only[results,h]
  simp[Sem.run_bind,Result.andThen]
 rw[key,hp]
 simp[asAddr,run_loadVar_row w g t ty cs fr d hg hu hd hi]
theorem ziu {P:Program} {fn:Func} {p u x:Tmp} {ty:TypeId} (h:fn.results = #[.tmp u,.cell p ty,.tmp x]) (tmps:Array Value) (w:World) (g:Nat) (t:TypeId) (cs:Array Value) (fr:Nat × Nat) (d:TypeDesc)
  (hp:tmps.getD p undef = .pointer (some ⟨g,0,none⟩)) (hg:w.heap[g]? = some (.cells cs t fr))
  (hu:P.underlying ty=some d) (hd:(match d with | .struct _ | .array _ _=>true | _=>false)=true) (hi:(P.info? ty).map (·.size)=some cs.size) :
  (results fn tmps).run P w = .ok (.tuple #[tmps.getD u undef,.agg cs,tmps.getD x undef]) w:=by
 have key:(results fn tmps).run P w=((asAddr (tmps.getD p undef)).run P w).andThen fun a w1=>((loadVar ty a).run P w1).andThen fun v w2 => .ok (.tuple #[tmps.getD u undef,v,tmps.getD x undef]) w2:=by
  simp only[results,h]
  simp[Sem.run_bind,Result.andThen]
 rw[key,hp]
 simp[asAddr,run_loadVar_row w g t ty cs fr d hg hu hd hi]
theorem zx1 (c:ChgL) (po:Option Addr) (pc:Nat):∀ u∈rcC c po pc,u.oneCell'=true:=by
 intro u hu
 simp only[rcC,List.mem_cons,List.not_mem_nil,or_false] at hu
 rcases hu with rfl | rfl | rfl | rfl | rfl <;> rfl
set_option maxRecDepth 100000 in
theorem zvs (w:World) (k:Int) (ao:Option Addr) (c:Nat) (d:List UInt8) (hb:Bts w ao c d):Calls Tryz.prog 16 #[.agg #[.int .i64 k,.slice ao d.length c]] w fun e w'=>e = .returned (.agg #[.int .i64 k,.string (str d)])∧w.grownBy w' none:=by
 obtain ⟨n,hn⟩:∃ n,n=d.length:=⟨_,rfl⟩
 obtain ⟨S0,hS0⟩:∃ S,S=str []:=⟨_,rfl⟩
 have hzv:=zgb
 rw[← hS0] at hzv
 obtain ⟨W1,hW1⟩:∃ W,W=(w.alloc (.cells #[.int .i64 k,.slice ao n c] 42)).alloc (.cells #[.int .i64 0,.string S0] 47):=⟨_,rfl⟩
 have G1:w.grownBy W1 none:=by rw[hW1];exact zah (zah (zab _ _) _) _
 have hcv:=zaz (hb.kept G1 (fun _ e=>by cases e))
 rw[← hn] at hcv ⊢
 rw[hW1] at hcv
 obtain ⟨SS,hSS⟩:∃ S,S=str d:=⟨_,rfl⟩
 rw[← hSS] at hcv ⊢
 clear hSS hn hb G1 hW1 W1 hS0
 go_enter Tryz.func16,Tryz.ntmps16
 go_wp2
 exact bodyPost_ret (v := .agg #[.int .i64 k,.string SS]) (by simp[results,Tryz.results16,go_sem]) rfl ⟨rfl,zah (zah (zab _ _) _) _⟩
end Go.Proofs.YthhnfloohbdaiaaGreatDoor
