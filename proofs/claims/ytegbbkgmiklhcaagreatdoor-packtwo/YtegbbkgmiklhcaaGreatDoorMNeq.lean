/- Lemmas. -/
import Derived.Laws.Tables
import Derived.Test.YtegbbkgmiklhcaaGreatDoorOData
import Derived.Deep.AppendLies
import Derived.Deep.RegionHeld3
import Derived.Deep.DrawnRows
import Derived.Stop.BytesEq
import Derived.Laws.StructEq
namespace Go.Proofs.YtegbbkgmiklhcaaGreatDoor
open Go.RowKit
theorem zat {n:Nat} (l:List UInt8) (h:l.length=n+1):∃ a r,l=a::r∧r.length=n:=by
 cases l with
 | nil=>simp at h
 | cons a r=>exact ⟨a,r,rfl,by simpa using h⟩
theorem zem (l:List UInt8) (h:l.length=32):∃ a0 a1 a2 a3 a4 a5 a6 a7 a8 a9 a10 a11 a12 a13 a14 a15 a16 a17 a18 a19 a20 a21 a22 a23 a24 a25 a26 a27 a28 a29 a30 a31,l=[a0,a1,a2,a3,a4,a5,a6,a7,a8,a9,a10,a11,a12,a13,a14,a15,a16,a17,a18,a19,a20,a21,a22,a23,a24,a25,a26,a27,a28,a29,a30,a31]:=by
 obtain ⟨a0,l0,e0,h0⟩:=zat l h
 obtain ⟨a1,l1,e1,h1⟩:=zat l0 h0
 obtain ⟨a2,l2,e2,h2⟩:=zat l1 h1
 obtain ⟨a3,l3,e3,h3⟩:=zat l2 h2
 obtain ⟨a4,l4,e4,h4⟩:=zat l3 h3
 obtain ⟨a5,l5,e5,h5⟩:=zat l4 h4
 obtain ⟨a6,l6,e6,h6⟩:=zat l5 h5
 obtain ⟨a7,l7,e7,h7⟩:=zat l6 h6
 obtain ⟨a8,l8,e8,h8⟩:=zat l7 h7
 obtain ⟨a9,l9,e9,h9⟩:=zat l8 h8
 obtain ⟨a10,l10,e10,h10⟩:=zat l9 h9
 obtain ⟨a11,l11,e11,h11⟩:=zat l10 h10
 obtain ⟨a12,l12,e12,h12⟩:=zat l11 h11
 obtain ⟨a13,l13,e13,h13⟩:=zat l12 h12
 obtain ⟨a14,l14,e14,h14⟩:=zat l13 h13
 obtain ⟨a15,l15,e15,h15⟩:=zat l14 h14
 obtain ⟨a16,l16,e16,h16⟩:=zat l15 h15
 obtain ⟨a17,l17,e17,h17⟩:=zat l16 h16
 obtain ⟨a18,l18,e18,h18⟩:=zat l17 h17
 obtain ⟨a19,l19,e19,h19⟩:=zat l18 h18
 obtain ⟨a20,l20,e20,h20⟩:=zat l19 h19
 obtain ⟨a21,l21,e21,h21⟩:=zat l20 h20
 obtain ⟨a22,l22,e22,h22⟩:=zat l21 h21
 obtain ⟨a23,l23,e23,h23⟩:=zat l22 h22
 obtain ⟨a24,l24,e24,h24⟩:=zat l23 h23
 obtain ⟨a25,l25,e25,h25⟩:=zat l24 h24
 obtain ⟨a26,l26,e26,h26⟩:=zat l25 h25
 obtain ⟨a27,l27,e27,h27⟩:=zat l26 h26
 obtain ⟨a28,l28,e28,h28⟩:=zat l27 h27
 obtain ⟨a29,l29,e29,h29⟩:=zat l28 h28
 obtain ⟨a30,l30,e30,h30⟩:=zat l29 h29
 obtain ⟨a31,l31,e31,h31⟩:=zat l30 h30
 have e32:l31=[]:=List.eq_nil_of_length_eq_zero h31
 exact ⟨a0,a1,a2,a3,a4,a5,a6,a7,a8,a9,a10,a11,a12,a13,a14,a15,a16,a17,a18,a19,a20,a21,a22,a23,a24,a25,a26,a27,a28,a29,a30,a31,by rw[e0,e1,e2,e3,e4,e5,e6,e7,e8,e9,e10,e11,e12,e13,e14,e15,e16,e17,e18,e19,e20,e21,e22,e23,e24,e25,e26,e27,e28,e29,e30,e31,e32]⟩
theorem za3 {P:Program} {ops:Array Oper} {rest:List Oper} {o:Oper} {a:Act} {w:World} {Q:Exit→Act→World→Prop} (hg:o.guard=none) (t:TypeId) (parts:Array (Nat × Operand)) (ho:o.op = .build t parts) (cells:Array Value)
  (hf:P.built t (parts.map fun (i,x)=>(i,a.eval x)).toList=some cells)
  (h:wpList P ops Q rest (a.put o.dst (.agg cells)) w):wpList P ops Q (o::rest) a w :=
 wpList_build hg t parts ho (by rw[hf];rfl) (by rw[hf];exact h)
theorem zkc (t:List UInt8) (a x:ByteArray) (h:t.length=32):Tryz.prog.built 156 [(0,.agg (t.map bv).toArray),(3,.string a),(4,.string x)]=some (t.map bv++([.slice none 0 0,.int .u64 0,.string a,.string x]:List Value)).toArray:=by
 obtain ⟨a0,a1,a2,a3,a4,a5,a6,a7,a8,a9,a10,a11,a12,a13,a14,a15,a16,a17,a18,a19,a20,a21,a22,a23,a24,a25,a26,a27,a28,a29,a30,a31,rfl⟩:=zem t h
 kernel_rfl
theorem zf6 (t:List UInt8) (h:t.length=32):Tryz.prog.built 156 [(0,.agg (t.map bv).toArray)]=some (chC ⟨t,[],0,[],[]⟩ none 0).toArray:=by
 obtain ⟨a0,a1,a2,a3,a4,a5,a6,a7,a8,a9,a10,a11,a12,a13,a14,a15,a16,a17,a18,a19,a20,a21,a22,a23,a24,a25,a26,a27,a28,a29,a30,a31,rfl⟩:=zem t h
 kernel_rfl
theorem zhh (s:ByteArray) (b:Bool) (t:List UInt8) (h:t.length=32):Tryz.prog.built 154 [(0,.string s),(1,.bool b),(2,.agg (t.map bv).toArray)]=some (Value.string s::Value.bool b::t.map bv).toArray:=by
 obtain ⟨a0,a1,a2,a3,a4,a5,a6,a7,a8,a9,a10,a11,a12,a13,a14,a15,a16,a17,a18,a19,a20,a21,a22,a23,a24,a25,a26,a27,a28,a29,a30,a31,rfl⟩:=zem t h
 kernel_rfl
theorem zlw (t:List UInt8) (a x:ByteArray) (h:t.length=32):Tryz.prog.built 160 [(0,.agg (t.map bv).toArray),(1,.string a),(2,.string x)]=some (t.map bv++([.string a,.string x]:List Value)).toArray:=by
 obtain ⟨a0,a1,a2,a3,a4,a5,a6,a7,a8,a9,a10,a11,a12,a13,a14,a15,a16,a17,a18,a19,a20,a21,a22,a23,a24,a25,a26,a27,a28,a29,a30,a31,rfl⟩:=zem t h
 kernel_rfl
theorem zlx:(Tryz.prog.info? 154).map (fun i=>(i.zero,i.size,i.bytes))=some (some (.agg (enC ⟨[],false,List.replicate 32 0⟩).toArray),34,56):=by kernel_rfl
theorem zbt {w:World} {ops:Array Oper} {o:Oper} {a:Act} {K:Act→World→Prop} {Q:Exit→Act→World→Prop} {E:Prop} (hw:Region.wanted o (yielded ops a.tmps)=true) (s x:Operand)
  (ho:o.op = .call { callee := .builtin .append,args := #[s,x],argTypes := #[150,150] })
  (base:Nat) (v:Value) (n:Nat) (xs:List Value) (hs:a.eval s=v) (hown:w.ownsRow base 154 34 v n xs) (p:Nat) (EC:List Value) (hB:Blk w p 154 EC) (hEl:EC.length=34) (hE1:∀ u∈EC,u.oneCell'=true)
  (hx:a.eval x = .slice (some ⟨p,0,none⟩) 1 1) (hn:n≤100000) (hbase:base≤w.heap.size)
  (h:∀ v' w',w'.ownsRow base 154 34 v' (n+1) (xs++EC)→w.grownBy w' v.ownBlock→K (a.put o.dst v') w') :
  if Region.wanted o (yielded ops a.tmps)=true then Oper.wp Tryz.prog o a w K Q else E:=by
 rw[if_pos hw]
 obtain ⟨i0,hi,hz0,hz1,hz2⟩:=info_parts zlx
 exact wp_append_own w s x 150 ho base 154 i0 _ 34 56 Tryz.underlying150 hi hz0 hz1 hz2 rfl (by decide) v n xs hs hown ⟨p,0,none⟩ 1 1 EC hx (by rw[hEl]) (fun j u hu=>World.news_of_block hB j u (by simpa using hu)) hE1 (by unfold maxLen;omega) (by omega) hbase (fun v' w' q1 q2 _=>h v' w' q1 q2)
theorem zbh {w a:World} {base n:Nat} {v:Value} {xs:List Value} (h:w.ownsRow base 154 34 v n xs) {r:Option Nat} (g:w.grownBy a r) (hr:∀ x,r=some x→x<base):a.ownsRow base 154 34 v n xs :=
 h.kept g (by
  by_cases e:v.ownBlock=none
  ·exact Or.inl e
  ·refine Or.inr fun e2 => ?_
   cases hv:v.ownBlock with
   | none=>exact e hv
   | some b =>
    have h1:=(h.lt b hv).1
    have h2:=hr b (by rw[← e2,hv])
    omega)
theorem zgu:(Tryz.prog.info? 47).map (fun i=>(i.zero,i.size,i.bytes))=some (some (.agg ((List.replicate 32 (0:UInt8)).map bv).toArray),32,32):=by kernel_rfl
theorem za7 {w:World} {ops:Array Oper} {o:Oper} {a:Act} {K:Act→World→Prop} {Q:Exit→Act→World→Prop} {E:Prop} (hw:Region.wanted o (yielded ops a.tmps)=true) (s x:Operand)
  (ho:o.op = .call { callee := .builtin .append,args := #[s,x],argTypes := #[59,59] })
  (base:Nat) (v:Value) (n:Nat) (xs:List Value) (hs:a.eval s=v) (hown:w.ownsRow base 47 32 v n xs) (p:Nat) (EC:List Value) (hB:Blk w p 47 EC) (hEl:EC.length=32) (hE1:∀ u∈EC,u.oneCell'=true)
  (hx:a.eval x = .slice (some ⟨p,0,none⟩) 1 1) (hn:n≤100000) (hbase:base≤w.heap.size)
  (h:∀ v' w',w'.ownsRow base 47 32 v' (n+1) (xs++EC)→w.grownBy w' v.ownBlock→K (a.put o.dst v') w') :
  if Region.wanted o (yielded ops a.tmps)=true then Oper.wp Tryz.prog o a w K Q else E:=by
 rw[if_pos hw]
 obtain ⟨i0,hi,hz0,hz1,hz2⟩:=info_parts zgu
 exact wp_append_own w s x 59 ho base 47 i0 _ 32 32 Tryz.underlying59 hi hz0 hz1 hz2 rfl (by decide) v n xs hs hown ⟨p,0,none⟩ 1 1 EC hx (by rw[hEl]) (fun j u hu=>World.news_of_block hB j u (by simpa using hu)) hE1 (by unfold maxLen;omega) (by omega) hbase (fun v' w' q1 q2 _=>h v' w' q1 q2)
theorem zb7 {w:World} {ops:Array Oper} {rest:List Oper} {o:Oper} {a:Act} {Q:Exit→Act→World→Prop} (hgd:o.guard=none) (s x:Operand)
  (ho:o.op = .call { callee := .builtin .append,args := #[s,x],argTypes := #[59,59] })
  (base:Nat) (v:Value) (n:Nat) (xs:List Value) (hs:a.eval s=v) (hown:w.ownsRow base 47 32 v n xs) (p:Nat) (EC:List Value) (hB:Blk w p 47 EC) (hEl:EC.length=32) (hE1:∀ u∈EC,u.oneCell'=true)
  (hx:a.eval x = .slice (some ⟨p,0,none⟩) 1 1) (hn:n≤100000) (hbase:base≤w.heap.size)
  (h:∀ v' w',w'.ownsRow base 47 32 v' (n+1) (xs++EC)→w.grownBy w' v.ownBlock→wpList Tryz.prog ops Q rest (a.put o.dst v') w'):wpList Tryz.prog ops Q (o::rest) a w:=by
 obtain ⟨i0,hi,hz0,hz1,hz2⟩:=info_parts zgu
 exact wpList_append_own w hgd s x 59 ho base 47 i0 _ 32 32 Tryz.underlying59 hi hz0 hz1 hz2 rfl (by decide) v n xs hs hown ⟨p,0,none⟩ 1 1 EC hx (by rw[hEl]) (fun j u hu=>World.news_of_block hB j u (by simpa using hu)) hE1 (by unfold maxLen;omega) (by omega) hbase (fun v' w' q1 q2 _=>h v' w' q1 q2)
theorem za8 {w a:World} {base n:Nat} {v:Value} {xs:List Value} (h:w.ownsRow base 47 32 v n xs) {r:Option Nat} (g:w.grownBy a r) (hr:∀ x,r=some x→x<base):a.ownsRow base 47 32 v n xs :=
 h.kept g (by
  by_cases e:v.ownBlock=none
  ·exact Or.inl e
  ·refine Or.inr fun e2 => ?_
   cases hv:v.ownBlock with
   | none=>exact e hv
   | some b =>
    have h1:=(h.lt b hv).1
    have h2:=hr b (by rw[← e2,hv])
    omega)
theorem zou (s:ByteArray) (b:Bool) (t:List UInt8) (h:t.length=32) (V:World):(Instr.buildSlice 150 1 #[(0,.agg (Value.string s::Value.bool b::t.map bv).toArray)]).run Tryz.prog V = .ok (.slice (some ⟨V.heap.size,0,none⟩) 1 1) (V.alloc (.cells (Value.string s::Value.bool b::t.map bv).toArray 154)):=by
 obtain ⟨a0,a1,a2,a3,a4,a5,a6,a7,a8,a9,a10,a11,a12,a13,a14,a15,a16,a17,a18,a19,a20,a21,a22,a23,a24,a25,a26,a27,a28,a29,a30,a31,rfl⟩:=zem t h
 kernel_rfl
theorem zif (t:List UInt8) (h:t.length=32) (V:World):(Instr.buildSlice 59 1 #[(0,.agg (t.map bv).toArray)]).run Tryz.prog V = .ok (.slice (some ⟨V.heap.size,0,none⟩) 1 1) (V.alloc (.cells (t.map bv).toArray 47)):=by
 obtain ⟨a0,a1,a2,a3,a4,a5,a6,a7,a8,a9,a10,a11,a12,a13,a14,a15,a16,a17,a18,a19,a20,a21,a22,a23,a24,a25,a26,a27,a28,a29,a30,a31,rfl⟩:=zem t h
 kernel_rfl
theorem za4 {P:Program} {w w' : World} {ops:Array Oper} {o:Oper} {a:Act} {K:Act→World→Prop} {Q:Exit→Act→World→Prop} {E:Prop} (hw:Region.wanted o (yielded ops a.tmps)=true) (t:TypeId) (x:Operand) (ho:o.op = .buildSlice t 1 #[(0,x)])
  (X s:Value) (hx:a.eval x=X) (hr:(Instr.buildSlice t 1 #[(0,X)]).run P w = .ok s w') (h:K (a.put o.dst s) w'):if Region.wanted o (yielded ops a.tmps)=true then Oper.wp P o a w K Q else E:=by
 rw[if_pos hw]
 unfold Oper.wp execOp
 simp only[ho,Sem.run_bind,List.map_toArray,List.map_cons,List.map_nil,hx,hr,Result.andThen_ok]
 exact h
theorem zav {P:Program} {w w' : World} {ops:Array Oper} {rest:List Oper} {o:Oper} {a:Act} {Q:Exit→Act→World→Prop} (hg:o.guard=none) (t:TypeId) (x:Operand) (ho:o.op = .buildSlice t 1 #[(0,x)])
  (X s:Value) (hx:a.eval x=X) (hr:(Instr.buildSlice t 1 #[(0,X)]).run P w = .ok s w') (h:wpList P ops Q rest (a.put o.dst s) w'):wpList P ops Q (o::rest) a w :=
 wpList_plain hg fun _ hK=>by
  unfold Oper.wp execOp
  simp only[ho,Sem.run_bind,List.map_toArray,List.map_cons,List.map_nil,hx,hr,Result.andThen_ok]
  exact hK _ _ h
theorem zdx {P:Program} {ops:Array Oper} {S:World→Prop} {op:Oper} {a:Act} (hw:Region.wanted op (yielded ops a.tmps)=true) (t t' : TypeId) (x y:Operand) (ho:op.op = .binOp .eql t x y t') (X Z:Array Value) (r:Bool)
  (hx:a.eval x = .agg X) (hy:a.eval y = .agg Z) (hm:P.eqGuardType P.depth t=false) (hq:∀ w:World,(binOp .eql t (.agg X) (.agg Z)).run P w = .ok (.bool r) w):YieldsIf P ops S op (.bool r) a :=
 .inl ⟨hw,fun w _=>by
  unfold execOp
  simp only[ho,hx,hy,Sem.run_bind,run_eqGuard_agg w .eql t x y X Z hm,hq,Result.andThen_ok]
  rfl⟩
theorem zbk {P:Program} {ops:Array Oper} {S:World→Prop} {op:Oper} {a:Act} (hw:Region.wanted op (yielded ops a.tmps)=true) (t:TypeId) (parts:Array (Nat × Operand)) (ho:op.op = .build t parts) (cells:Array Value)
  (hf:P.built t (parts.map fun (i,x)=>(i,a.eval x)).toList=some cells):YieldsIf P ops S op (.agg cells) a :=
 .inl ⟨hw,fun w _=>by
  unfold execOp
  simp only[ho,Sem.run_bind,run_build w t _ cells hf,Result.andThen_ok]
  rfl⟩
theorem zqk (k:Nat) (hk:k<256) (d m:List UInt8):putL (k:Int) d++m=lb k 1++(layS d++m):=by
 have h1:lb k 1=[UInt8.ofNat k]:=by
  match k with
  | k=>simp[lb]
 have h2:UInt8.ofInt (k:Int)=UInt8.ofNat k:=by
  simp only[UInt8.ofInt]
  congr 1
  omega
 unfold putL
 rw[h1,h2]
 simp
theorem zfg {P:Program} {ops:Array Oper} {S:World→Prop} {op:Oper} {a:Act} (hw:Region.wanted op (yielded ops a.tmps)=true) (t t' : TypeId) (x y:Operand) (ho:op.op = .binOp .neq t x y t') (X Z:Array Value) (r:Bool)
  (hx:a.eval x = .agg X) (hy:a.eval y = .agg Z) (hm:P.eqGuardType P.depth t=false) (hq:∀ w:World,(binOp .neq t (.agg X) (.agg Z)).run P w = .ok (.bool r) w):YieldsIf P ops S op (.bool r) a :=
 .inl ⟨hw,fun w _=>by
  unfold execOp
  simp only[ho,hx,hy,Sem.run_bind,run_eqGuard_agg w .neq t x y X Z hm,hq,Result.andThen_ok]
  rfl⟩
end Go.Proofs.YtegbbkgmiklhcaaGreatDoor
