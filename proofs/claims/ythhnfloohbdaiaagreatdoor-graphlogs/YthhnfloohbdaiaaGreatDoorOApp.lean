/- Lemmas. -/
import Derived.Laws.Tables
import Derived.Test.YthhnfloohbdaiaaGreatDoorRPure
import Derived.Deep.AppendLies
import Derived.Deep.RegionHeld3
import Derived.Deep.DrawnRows
namespace Go.Proofs.YthhnfloohbdaiaaGreatDoor
open Go.RowKit
theorem zba {n:Nat} (l:List UInt8) (h:l.length=n+1):∃ a r,l=a::r∧r.length=n:=by
 cases l with
 | nil=>simp at h
 | cons a r=>exact ⟨a,r,rfl,by simpa using h⟩
theorem zew (l:List UInt8) (h:l.length=32):∃ a0 a1 a2 a3 a4 a5 a6 a7 a8 a9 a10 a11 a12 a13 a14 a15 a16 a17 a18 a19 a20 a21 a22 a23 a24 a25 a26 a27 a28 a29 a30 a31,l=[a0,a1,a2,a3,a4,a5,a6,a7,a8,a9,a10,a11,a12,a13,a14,a15,a16,a17,a18,a19,a20,a21,a22,a23,a24,a25,a26,a27,a28,a29,a30,a31]:=by
 obtain ⟨a0,l0,e0,h0⟩:=zba l h
 obtain ⟨a1,l1,e1,h1⟩:=zba l0 h0
 obtain ⟨a2,l2,e2,h2⟩:=zba l1 h1
 obtain ⟨a3,l3,e3,h3⟩:=zba l2 h2
 obtain ⟨a4,l4,e4,h4⟩:=zba l3 h3
 obtain ⟨a5,l5,e5,h5⟩:=zba l4 h4
 obtain ⟨a6,l6,e6,h6⟩:=zba l5 h5
 obtain ⟨a7,l7,e7,h7⟩:=zba l6 h6
 obtain ⟨a8,l8,e8,h8⟩:=zba l7 h7
 obtain ⟨a9,l9,e9,h9⟩:=zba l8 h8
 obtain ⟨a10,l10,e10,h10⟩:=zba l9 h9
 obtain ⟨a11,l11,e11,h11⟩:=zba l10 h10
 obtain ⟨a12,l12,e12,h12⟩:=zba l11 h11
 obtain ⟨a13,l13,e13,h13⟩:=zba l12 h12
 obtain ⟨a14,l14,e14,h14⟩:=zba l13 h13
 obtain ⟨a15,l15,e15,h15⟩:=zba l14 h14
 obtain ⟨a16,l16,e16,h16⟩:=zba l15 h15
 obtain ⟨a17,l17,e17,h17⟩:=zba l16 h16
 obtain ⟨a18,l18,e18,h18⟩:=zba l17 h17
 obtain ⟨a19,l19,e19,h19⟩:=zba l18 h18
 obtain ⟨a20,l20,e20,h20⟩:=zba l19 h19
 obtain ⟨a21,l21,e21,h21⟩:=zba l20 h20
 obtain ⟨a22,l22,e22,h22⟩:=zba l21 h21
 obtain ⟨a23,l23,e23,h23⟩:=zba l22 h22
 obtain ⟨a24,l24,e24,h24⟩:=zba l23 h23
 obtain ⟨a25,l25,e25,h25⟩:=zba l24 h24
 obtain ⟨a26,l26,e26,h26⟩:=zba l25 h25
 obtain ⟨a27,l27,e27,h27⟩:=zba l26 h26
 obtain ⟨a28,l28,e28,h28⟩:=zba l27 h27
 obtain ⟨a29,l29,e29,h29⟩:=zba l28 h28
 obtain ⟨a30,l30,e30,h30⟩:=zba l29 h29
 obtain ⟨a31,l31,e31,h31⟩:=zba l30 h30
 have e32:l31=[]:=List.eq_nil_of_length_eq_zero h31
 exact ⟨a0,a1,a2,a3,a4,a5,a6,a7,a8,a9,a10,a11,a12,a13,a14,a15,a16,a17,a18,a19,a20,a21,a22,a23,a24,a25,a26,a27,a28,a29,a30,a31,by rw[e0,e1,e2,e3,e4,e5,e6,e7,e8,e9,e10,e11,e12,e13,e14,e15,e16,e17,e18,e19,e20,e21,e22,e23,e24,e25,e26,e27,e28,e29,e30,e31,e32]⟩
theorem za4 {P:Program} {ops:Array Oper} {rest:List Oper} {o:Oper} {a:Act} {w:World} {Q:Exit→Act→World→Prop} (hg:o.guard=none) (t:TypeId) (parts:Array (Nat × Operand)) (ho:o.op = .build t parts) (cells:Array Value)
  (hf:P.built t (parts.map fun (i,x)=>(i,a.eval x)).toList=some cells)
  (h:wpList P ops Q rest (a.put o.dst (.agg cells)) w):wpList P ops Q (o::rest) a w :=
 wpList_build hg t parts ho (by rw[hf];rfl) (by rw[hf];exact h)
theorem zo0 (t:List UInt8) (a x:ByteArray) (h:t.length=32):Tryz.prog.built 70 [(0,.agg (t.map bv).toArray),(3,.string a),(4,.string x)]=some (t.map bv++([.slice none 0 0,.int .u64 0,.string a,.string x]:List Value)).toArray:=by
 obtain ⟨a0,a1,a2,a3,a4,a5,a6,a7,a8,a9,a10,a11,a12,a13,a14,a15,a16,a17,a18,a19,a20,a21,a22,a23,a24,a25,a26,a27,a28,a29,a30,a31,rfl⟩:=zew t h
 kernel_rfl
theorem zjg (t:List UInt8) (h:t.length=32):Tryz.prog.built 70 [(0,.agg (t.map bv).toArray)]=some (chC ⟨t,[],0,[],[]⟩ none 0).toArray:=by
 obtain ⟨a0,a1,a2,a3,a4,a5,a6,a7,a8,a9,a10,a11,a12,a13,a14,a15,a16,a17,a18,a19,a20,a21,a22,a23,a24,a25,a26,a27,a28,a29,a30,a31,rfl⟩:=zew t h
 kernel_rfl
theorem zk7 (s:ByteArray) (b:Bool) (t:List UInt8) (h:t.length=32):Tryz.prog.built 123 [(0,.string s),(1,.bool b),(2,.agg (t.map bv).toArray)]=some (Value.string s::Value.bool b::t.map bv).toArray:=by
 obtain ⟨a0,a1,a2,a3,a4,a5,a6,a7,a8,a9,a10,a11,a12,a13,a14,a15,a16,a17,a18,a19,a20,a21,a22,a23,a24,a25,a26,a27,a28,a29,a30,a31,rfl⟩:=zew t h
 kernel_rfl
theorem zrc (t:List UInt8) (a x:ByteArray) (h:t.length=32):Tryz.prog.built 126 [(0,.agg (t.map bv).toArray),(1,.string a),(2,.string x)]=some (t.map bv++([.string a,.string x]:List Value)).toArray:=by
 obtain ⟨a0,a1,a2,a3,a4,a5,a6,a7,a8,a9,a10,a11,a12,a13,a14,a15,a16,a17,a18,a19,a20,a21,a22,a23,a24,a25,a26,a27,a28,a29,a30,a31,rfl⟩:=zew t h
 kernel_rfl
theorem zrd:(Tryz.prog.info? 123).map (fun i=>(i.zero,i.size,i.bytes))=some (some (.agg (enC ⟨[],false,List.replicate 32 0⟩).toArray),34,56):=by kernel_rfl
theorem zcj {w:World} {ops:Array Oper} {o:Oper} {a:Act} {K:Act→World→Prop} {Q:Exit→Act→World→Prop} {E:Prop} (hw:Region.wanted o (yielded ops a.tmps)=true) (s x:Operand)
  (ho:o.op = .call { callee := .builtin .append,args := #[s,x],argTypes := #[121,121] })
  (base:Nat) (v:Value) (n:Nat) (xs:List Value) (hs:a.eval s=v) (hown:w.ownsRow base 123 34 v n xs) (p:Nat) (EC:List Value) (hB:Blk w p 123 EC) (hEl:EC.length=34) (hE1:∀ u∈EC,u.oneCell'=true)
  (hx:a.eval x = .slice (some ⟨p,0,none⟩) 1 1) (hn:n≤100000) (hbase:base≤w.heap.size)
  (h:∀ v' w',w'.ownsRow base 123 34 v' (n+1) (xs++EC)→w.grownBy w' v.ownBlock→K (a.put o.dst v') w') :
  if Region.wanted o (yielded ops a.tmps)=true then Oper.wp Tryz.prog o a w K Q else E:=by
 rw[if_pos hw]
 obtain ⟨i0,hi,hz0,hz1,hz2⟩:=info_parts zrd
 exact wp_append_own w s x 121 ho base 123 i0 _ 34 56 Tryz.underlying121 hi hz0 hz1 hz2 rfl (by decide) v n xs hs hown ⟨p,0,none⟩ 1 1 EC hx (by rw[hEl]) (fun j u hu=>World.news_of_block hB j u (by simpa using hu)) hE1 (by unfold maxLen;omega) (by omega) hbase (fun v' w' q1 q2 _=>h v' w' q1 q2)
theorem zck {w a:World} {base n:Nat} {v:Value} {xs:List Value} (h:w.ownsRow base 123 34 v n xs) {r:Option Nat} (g:w.grownBy a r) (hr:∀ x,r=some x→x<base):a.ownsRow base 123 34 v n xs :=
 h.kept g (by
  by_cases e:v.ownBlock=none
  ·exact Or.inl e
  ·refine Or.inr fun e2 => ?_
   cases hv:v.ownBlock with
   | none=>exact e hv
   | some b =>
    have h1:=(h.lt b hv).1
    have h2:=hr b (by rw[← e2,hv])
    omega)
theorem zf6:(Tryz.prog.info? 33).map (fun i=>(i.zero,i.size,i.bytes))=some (some (.agg ((List.replicate 32 (0:UInt8)).map bv).toArray),32,32):=by kernel_rfl
theorem zbp {w:World} {ops:Array Oper} {o:Oper} {a:Act} {K:Act→World→Prop} {Q:Exit→Act→World→Prop} {E:Prop} (hw:Region.wanted o (yielded ops a.tmps)=true) (s x:Operand)
  (ho:o.op = .call { callee := .builtin .append,args := #[s,x],argTypes := #[29,29] })
  (base:Nat) (v:Value) (n:Nat) (xs:List Value) (hs:a.eval s=v) (hown:w.ownsRow base 33 32 v n xs) (p:Nat) (EC:List Value) (hB:Blk w p 33 EC) (hEl:EC.length=32) (hE1:∀ u∈EC,u.oneCell'=true)
  (hx:a.eval x = .slice (some ⟨p,0,none⟩) 1 1) (hn:n≤100000) (hbase:base≤w.heap.size)
  (h:∀ v' w',w'.ownsRow base 33 32 v' (n+1) (xs++EC)→w.grownBy w' v.ownBlock→K (a.put o.dst v') w') :
  if Region.wanted o (yielded ops a.tmps)=true then Oper.wp Tryz.prog o a w K Q else E:=by
 rw[if_pos hw]
 obtain ⟨i0,hi,hz0,hz1,hz2⟩:=info_parts zf6
 exact wp_append_own w s x 29 ho base 33 i0 _ 32 32 Tryz.underlying29 hi hz0 hz1 hz2 rfl (by decide) v n xs hs hown ⟨p,0,none⟩ 1 1 EC hx (by rw[hEl]) (fun j u hu=>World.news_of_block hB j u (by simpa using hu)) hE1 (by unfold maxLen;omega) (by omega) hbase (fun v' w' q1 q2 _=>h v' w' q1 q2)
theorem zb8 {w:World} {ops:Array Oper} {rest:List Oper} {o:Oper} {a:Act} {Q:Exit→Act→World→Prop} (hgd:o.guard=none) (s x:Operand)
  (ho:o.op = .call { callee := .builtin .append,args := #[s,x],argTypes := #[29,29] })
  (base:Nat) (v:Value) (n:Nat) (xs:List Value) (hs:a.eval s=v) (hown:w.ownsRow base 33 32 v n xs) (p:Nat) (EC:List Value) (hB:Blk w p 33 EC) (hEl:EC.length=32) (hE1:∀ u∈EC,u.oneCell'=true)
  (hx:a.eval x = .slice (some ⟨p,0,none⟩) 1 1) (hn:n≤100000) (hbase:base≤w.heap.size)
  (h:∀ v' w',w'.ownsRow base 33 32 v' (n+1) (xs++EC)→w.grownBy w' v.ownBlock→wpList Tryz.prog ops Q rest (a.put o.dst v') w'):wpList Tryz.prog ops Q (o::rest) a w:=by
 obtain ⟨i0,hi,hz0,hz1,hz2⟩:=info_parts zf6
 exact wpList_append_own w hgd s x 29 ho base 33 i0 _ 32 32 Tryz.underlying29 hi hz0 hz1 hz2 rfl (by decide) v n xs hs hown ⟨p,0,none⟩ 1 1 EC hx (by rw[hEl]) (fun j u hu=>World.news_of_block hB j u (by simpa using hu)) hE1 (by unfold maxLen;omega) (by omega) hbase (fun v' w' q1 q2 _=>h v' w' q1 q2)
theorem zbg {w a:World} {base n:Nat} {v:Value} {xs:List Value} (h:w.ownsRow base 33 32 v n xs) {r:Option Nat} (g:w.grownBy a r) (hr:∀ x,r=some x→x<base):a.ownsRow base 33 32 v n xs :=
 h.kept g (by
  by_cases e:v.ownBlock=none
  ·exact Or.inl e
  ·refine Or.inr fun e2 => ?_
   cases hv:v.ownBlock with
   | none=>exact e hv
   | some b =>
    have h1:=(h.lt b hv).1
    have h2:=hr b (by rw[← e2,hv])
    omega)
theorem zre (s:ByteArray) (b:Bool) (t:List UInt8) (h:t.length=32) (V:World):(Instr.buildSlice 121 1 #[(0,.agg (Value.string s::Value.bool b::t.map bv).toArray)]).run Tryz.prog V = .ok (.slice (some ⟨V.heap.size,0,none⟩) 1 1) (V.alloc (.cells (Value.string s::Value.bool b::t.map bv).toArray 123)):=by
 obtain ⟨a0,a1,a2,a3,a4,a5,a6,a7,a8,a9,a10,a11,a12,a13,a14,a15,a16,a17,a18,a19,a20,a21,a22,a23,a24,a25,a26,a27,a28,a29,a30,a31,rfl⟩:=zew t h
 kernel_rfl
theorem zfl (t:List UInt8) (h:t.length=32) (V:World):(Instr.buildSlice 29 1 #[(0,.agg (t.map bv).toArray)]).run Tryz.prog V = .ok (.slice (some ⟨V.heap.size,0,none⟩) 1 1) (V.alloc (.cells (t.map bv).toArray 33)):=by
 obtain ⟨a0,a1,a2,a3,a4,a5,a6,a7,a8,a9,a10,a11,a12,a13,a14,a15,a16,a17,a18,a19,a20,a21,a22,a23,a24,a25,a26,a27,a28,a29,a30,a31,rfl⟩:=zew t h
 kernel_rfl
theorem zar {P:Program} {w w' : World} {ops:Array Oper} {o:Oper} {a:Act} {K:Act→World→Prop} {Q:Exit→Act→World→Prop} {E:Prop} (hw:Region.wanted o (yielded ops a.tmps)=true) (t:TypeId) (x:Operand) (ho:o.op = .buildSlice t 1 #[(0,x)])
  (X s:Value) (hx:a.eval x=X) (hr:(Instr.buildSlice t 1 #[(0,X)]).run P w = .ok s w') (h:K (a.put o.dst s) w'):if Region.wanted o (yielded ops a.tmps)=true then Oper.wp P o a w K Q else E:=by
 rw[if_pos hw]
 unfold Oper.wp execOp
 simp only[ho,Sem.run_bind,List.map_toArray,List.map_cons,List.map_nil,hx,hr,Result.andThen_ok]
 exact h
theorem zaq {P:Program} {w w' : World} {ops:Array Oper} {rest:List Oper} {o:Oper} {a:Act} {Q:Exit→Act→World→Prop} (hg:o.guard=none) (t:TypeId) (x:Operand) (ho:o.op = .buildSlice t 1 #[(0,x)])
  (X s:Value) (hx:a.eval x=X) (hr:(Instr.buildSlice t 1 #[(0,X)]).run P w = .ok s w') (h:wpList P ops Q rest (a.put o.dst s) w'):wpList P ops Q (o::rest) a w :=
 wpList_plain hg fun _ hK=>by
  unfold Oper.wp execOp
  simp only[ho,Sem.run_bind,List.map_toArray,List.map_cons,List.map_nil,hx,hr,Result.andThen_ok]
  exact hK _ _ h
end Go.Proofs.YthhnfloohbdaiaaGreatDoor
