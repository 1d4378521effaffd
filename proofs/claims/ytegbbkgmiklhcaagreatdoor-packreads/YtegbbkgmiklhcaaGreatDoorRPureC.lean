/- Lemmas. -/
import Derived.Laws.Tables
import Derived.Deep.AppendLies
import Derived.Deep.RegionHeld3
import Derived.Deep.DrawnRows
import Derived.Test.YtegbbkgmiklhcaaGreatDoorMObs
import Derived.Test.YtegbbkgmiklhcaaGreatDoorRPure
namespace Go.Proofs.YtegbbkgmiklhcaaGreatDoor
open Go.RowKit
set_option maxRecDepth 100000
theorem za2 {n:Nat} (l:List UInt8) (h:l.length=n+1):∃ a r,l=a::r∧r.length=n:=by
 cases l with
 | nil=>simp at h
 | cons a r=>exact ⟨a,r,rfl,by simpa using h⟩
theorem zea (l:List UInt8) (h:l.length=32):∃ a0 a1 a2 a3 a4 a5 a6 a7 a8 a9 a10 a11 a12 a13 a14 a15 a16 a17 a18 a19 a20 a21 a22 a23 a24 a25 a26 a27 a28 a29 a30 a31,l=[a0,a1,a2,a3,a4,a5,a6,a7,a8,a9,a10,a11,a12,a13,a14,a15,a16,a17,a18,a19,a20,a21,a22,a23,a24,a25,a26,a27,a28,a29,a30,a31]:=by
 obtain ⟨a0,l0,e0,h0⟩:=za2 l h
 obtain ⟨a1,l1,e1,h1⟩:=za2 l0 h0
 obtain ⟨a2,l2,e2,h2⟩:=za2 l1 h1
 obtain ⟨a3,l3,e3,h3⟩:=za2 l2 h2
 obtain ⟨a4,l4,e4,h4⟩:=za2 l3 h3
 obtain ⟨a5,l5,e5,h5⟩:=za2 l4 h4
 obtain ⟨a6,l6,e6,h6⟩:=za2 l5 h5
 obtain ⟨a7,l7,e7,h7⟩:=za2 l6 h6
 obtain ⟨a8,l8,e8,h8⟩:=za2 l7 h7
 obtain ⟨a9,l9,e9,h9⟩:=za2 l8 h8
 obtain ⟨a10,l10,e10,h10⟩:=za2 l9 h9
 obtain ⟨a11,l11,e11,h11⟩:=za2 l10 h10
 obtain ⟨a12,l12,e12,h12⟩:=za2 l11 h11
 obtain ⟨a13,l13,e13,h13⟩:=za2 l12 h12
 obtain ⟨a14,l14,e14,h14⟩:=za2 l13 h13
 obtain ⟨a15,l15,e15,h15⟩:=za2 l14 h14
 obtain ⟨a16,l16,e16,h16⟩:=za2 l15 h15
 obtain ⟨a17,l17,e17,h17⟩:=za2 l16 h16
 obtain ⟨a18,l18,e18,h18⟩:=za2 l17 h17
 obtain ⟨a19,l19,e19,h19⟩:=za2 l18 h18
 obtain ⟨a20,l20,e20,h20⟩:=za2 l19 h19
 obtain ⟨a21,l21,e21,h21⟩:=za2 l20 h20
 obtain ⟨a22,l22,e22,h22⟩:=za2 l21 h21
 obtain ⟨a23,l23,e23,h23⟩:=za2 l22 h22
 obtain ⟨a24,l24,e24,h24⟩:=za2 l23 h23
 obtain ⟨a25,l25,e25,h25⟩:=za2 l24 h24
 obtain ⟨a26,l26,e26,h26⟩:=za2 l25 h25
 obtain ⟨a27,l27,e27,h27⟩:=za2 l26 h26
 obtain ⟨a28,l28,e28,h28⟩:=za2 l27 h27
 obtain ⟨a29,l29,e29,h29⟩:=za2 l28 h28
 obtain ⟨a30,l30,e30,h30⟩:=za2 l29 h29
 obtain ⟨a31,l31,e31,h31⟩:=za2 l30 h30
 have e32:l31=[]:=List.eq_nil_of_length_eq_zero h31
 exact ⟨a0,a1,a2,a3,a4,a5,a6,a7,a8,a9,a10,a11,a12,a13,a14,a15,a16,a17,a18,a19,a20,a21,a22,a23,a24,a25,a26,a27,a28,a29,a30,a31,by rw[e0,e1,e2,e3,e4,e5,e6,e7,e8,e9,e10,e11,e12,e13,e14,e15,e16,e17,e18,e19,e20,e21,e22,e23,e24,e25,e26,e27,e28,e29,e30,e31,e32]⟩
theorem zbi {P:Program} {ops:Array Oper} {rest:List Oper} {o:Oper} {a:Act} {w:World} {Q:Exit→Act→World→Prop} (hg:o.guard=none) (t:TypeId) (parts:Array (Nat × Operand)) (ho:o.op = .build t parts) (cells:Array Value)
  (hf:P.built t (parts.map fun (i,x)=>(i,a.eval x)).toList=some cells)
  (h:wpList P ops Q rest (a.put o.dst (.agg cells)) w):wpList P ops Q (o::rest) a w :=
 wpList_build hg t parts ho (by rw[hf];rfl) (by rw[hf];exact h)
theorem zmw (t:List UInt8) (a x:ByteArray) (h:t.length=32):Tryz.prog.built 156 [(0,.agg (t.map bv).toArray),(3,.string a),(4,.string x)]=some (t.map bv++([.slice none 0 0,.int .u64 0,.string a,.string x]:List Value)).toArray:=by
 obtain ⟨a0,a1,a2,a3,a4,a5,a6,a7,a8,a9,a10,a11,a12,a13,a14,a15,a16,a17,a18,a19,a20,a21,a22,a23,a24,a25,a26,a27,a28,a29,a30,a31,rfl⟩:=zea t h
 kernel_rfl
theorem zho (t:List UInt8) (h:t.length=32):Tryz.prog.built 156 [(0,.agg (t.map bv).toArray)]=some (chC ⟨t,[],0,[],[]⟩ none 0).toArray:=by
 obtain ⟨a0,a1,a2,a3,a4,a5,a6,a7,a8,a9,a10,a11,a12,a13,a14,a15,a16,a17,a18,a19,a20,a21,a22,a23,a24,a25,a26,a27,a28,a29,a30,a31,rfl⟩:=zea t h
 kernel_rfl
theorem zji (s:ByteArray) (b:Bool) (t:List UInt8) (h:t.length=32):Tryz.prog.built 154 [(0,.string s),(1,.bool b),(2,.agg (t.map bv).toArray)]=some (Value.string s::Value.bool b::t.map bv).toArray:=by
 obtain ⟨a0,a1,a2,a3,a4,a5,a6,a7,a8,a9,a10,a11,a12,a13,a14,a15,a16,a17,a18,a19,a20,a21,a22,a23,a24,a25,a26,a27,a28,a29,a30,a31,rfl⟩:=zea t h
 kernel_rfl
theorem zoz (t:List UInt8) (a x:ByteArray) (h:t.length=32):Tryz.prog.built 160 [(0,.agg (t.map bv).toArray),(1,.string a),(2,.string x)]=some (t.map bv++([.string a,.string x]:List Value)).toArray:=by
 obtain ⟨a0,a1,a2,a3,a4,a5,a6,a7,a8,a9,a10,a11,a12,a13,a14,a15,a16,a17,a18,a19,a20,a21,a22,a23,a24,a25,a26,a27,a28,a29,a30,a31,rfl⟩:=zea t h
 kernel_rfl
theorem zo0:(Tryz.prog.info? 154).map (fun i=>(i.zero,i.size,i.bytes))=some (some (.agg (enC ⟨[],false,List.replicate 32 0⟩).toArray),34,56):=by kernel_rfl
theorem zch {w:World} {ops:Array Oper} {o:Oper} {a:Act} {K:Act→World→Prop} {Q:Exit→Act→World→Prop} {E:Prop} (hw:Region.wanted o (yielded ops a.tmps)=true) (s x:Operand)
  (ho:o.op = .call { callee := .builtin .append,args := #[s,x],argTypes := #[150,150] })
  (base:Nat) (v:Value) (n:Nat) (xs:List Value) (hs:a.eval s=v) (hown:w.ownsRow base 154 34 v n xs) (p:Nat) (EC:List Value) (hB:Blk w p 154 EC) (hEl:EC.length=34) (hE1:∀ u∈EC,u.oneCell'=true)
  (hx:a.eval x = .slice (some ⟨p,0,none⟩) 1 1) (hn:n≤100000) (hbase:base≤w.heap.size)
  (h:∀ v' w',w'.ownsRow base 154 34 v' (n+1) (xs++EC)→w.grownBy w' v.ownBlock→K (a.put o.dst v') w') :
  if Region.wanted o (yielded ops a.tmps)=true then Oper.wp Tryz.prog o a w K Q else E:=by
 rw[if_pos hw]
 obtain ⟨i0,hi,hz0,hz1,hz2⟩:=info_parts zo0
 exact wp_append_own w s x 150 ho base 154 i0 _ 34 56 Tryz.underlying150 hi hz0 hz1 hz2 rfl (by decide) v n xs hs hown ⟨p,0,none⟩ 1 1 EC hx (by rw[hEl]) (fun j u hu=>World.news_of_block hB j u (by simpa using hu)) hE1 (by unfold maxLen;omega) (by omega) hbase (fun v' w' q1 q2 _=>h v' w' q1 q2)
theorem zb7 {w a:World} {base n:Nat} {v:Value} {xs:List Value} (h:w.ownsRow base 154 34 v n xs) {r:Option Nat} (g:w.grownBy a r) (hr:∀ x,r=some x→x<base):a.ownsRow base 154 34 v n xs :=
 h.kept g (by
  by_cases e:v.ownBlock=none
  ·exact Or.inl e
  ·refine Or.inr fun e2 => ?_
   cases hv:v.ownBlock with
   | none=>exact e hv
   | some b =>
    have h1:=(h.lt b hv).1
    have h2:=hr b (by rw[← e2,hv])
    omega)
theorem zim:(Tryz.prog.info? 47).map (fun i=>(i.zero,i.size,i.bytes))=some (some (.agg ((List.replicate 32 (0:UInt8)).map bv).toArray),32,32):=by kernel_rfl
theorem zbq {w:World} {ops:Array Oper} {o:Oper} {a:Act} {K:Act→World→Prop} {Q:Exit→Act→World→Prop} {E:Prop} (hw:Region.wanted o (yielded ops a.tmps)=true) (s x:Operand)
  (ho:o.op = .call { callee := .builtin .append,args := #[s,x],argTypes := #[59,59] })
  (base:Nat) (v:Value) (n:Nat) (xs:List Value) (hs:a.eval s=v) (hown:w.ownsRow base 47 32 v n xs) (p:Nat) (EC:List Value) (hB:Blk w p 47 EC) (hEl:EC.length=32) (hE1:∀ u∈EC,u.oneCell'=true)
  (hx:a.eval x = .slice (some ⟨p,0,none⟩) 1 1) (hn:n≤100000) (hbase:base≤w.heap.size)
  (h:∀ v' w',w'.ownsRow base 47 32 v' (n+1) (xs++EC)→w.grownBy w' v.ownBlock→K (a.put o.dst v') w') :
  if Region.wanted o (yielded ops a.tmps)=true then Oper.wp Tryz.prog o a w K Q else E:=by
 rw[if_pos hw]
 obtain ⟨i0,hi,hz0,hz1,hz2⟩:=info_parts zim
 exact wp_append_own w s x 59 ho base 47 i0 _ 32 32 Tryz.underlying59 hi hz0 hz1 hz2 rfl (by decide) v n xs hs hown ⟨p,0,none⟩ 1 1 EC hx (by rw[hEl]) (fun j u hu=>World.news_of_block hB j u (by simpa using hu)) hE1 (by unfold maxLen;omega) (by omega) hbase (fun v' w' q1 q2 _=>h v' w' q1 q2)
theorem zcz {w:World} {ops:Array Oper} {rest:List Oper} {o:Oper} {a:Act} {Q:Exit→Act→World→Prop} (hgd:o.guard=none) (s x:Operand)
  (ho:o.op = .call { callee := .builtin .append,args := #[s,x],argTypes := #[59,59] })
  (base:Nat) (v:Value) (n:Nat) (xs:List Value) (hs:a.eval s=v) (hown:w.ownsRow base 47 32 v n xs) (p:Nat) (EC:List Value) (hB:Blk w p 47 EC) (hEl:EC.length=32) (hE1:∀ u∈EC,u.oneCell'=true)
  (hx:a.eval x = .slice (some ⟨p,0,none⟩) 1 1) (hn:n≤100000) (hbase:base≤w.heap.size)
  (h:∀ v' w',w'.ownsRow base 47 32 v' (n+1) (xs++EC)→w.grownBy w' v.ownBlock→wpList Tryz.prog ops Q rest (a.put o.dst v') w'):wpList Tryz.prog ops Q (o::rest) a w:=by
 obtain ⟨i0,hi,hz0,hz1,hz2⟩:=info_parts zim
 exact wpList_append_own w hgd s x 59 ho base 47 i0 _ 32 32 Tryz.underlying59 hi hz0 hz1 hz2 rfl (by decide) v n xs hs hown ⟨p,0,none⟩ 1 1 EC hx (by rw[hEl]) (fun j u hu=>World.news_of_block hB j u (by simpa using hu)) hE1 (by unfold maxLen;omega) (by omega) hbase (fun v' w' q1 q2 _=>h v' w' q1 q2)
theorem zbw {w a:World} {base n:Nat} {v:Value} {xs:List Value} (h:w.ownsRow base 47 32 v n xs) {r:Option Nat} (g:w.grownBy a r) (hr:∀ x,r=some x→x<base):a.ownsRow base 47 32 v n xs :=
 h.kept g (by
  by_cases e:v.ownBlock=none
  ·exact Or.inl e
  ·refine Or.inr fun e2 => ?_
   cases hv:v.ownBlock with
   | none=>exact e hv
   | some b =>
    have h1:=(h.lt b hv).1
    have h2:=hr b (by rw[← e2,hv])
    omega)
theorem zsy (s:ByteArray) (b:Bool) (t:List UInt8) (h:t.length=32) (V:World):(Instr.buildSlice 150 1 #[(0,.agg (Value.string s::Value.bool b::t.map bv).toArray)]).run Tryz.prog V = .ok (.slice (some ⟨V.heap.size,0,none⟩) 1 1) (V.alloc (.cells (Value.string s::Value.bool b::t.map bv).toArray 154)):=by
 obtain ⟨a0,a1,a2,a3,a4,a5,a6,a7,a8,a9,a10,a11,a12,a13,a14,a15,a16,a17,a18,a19,a20,a21,a22,a23,a24,a25,a26,a27,a28,a29,a30,a31,rfl⟩:=zea t h
 kernel_rfl
theorem zkn (t:List UInt8) (h:t.length=32) (V:World):(Instr.buildSlice 59 1 #[(0,.agg (t.map bv).toArray)]).run Tryz.prog V = .ok (.slice (some ⟨V.heap.size,0,none⟩) 1 1) (V.alloc (.cells (t.map bv).toArray 47)):=by
 obtain ⟨a0,a1,a2,a3,a4,a5,a6,a7,a8,a9,a10,a11,a12,a13,a14,a15,a16,a17,a18,a19,a20,a21,a22,a23,a24,a25,a26,a27,a28,a29,a30,a31,rfl⟩:=zea t h
 kernel_rfl
theorem zbj {P:Program} {w w' : World} {ops:Array Oper} {o:Oper} {a:Act} {K:Act→World→Prop} {Q:Exit→Act→World→Prop} {E:Prop} (hw:Region.wanted o (yielded ops a.tmps)=true) (t:TypeId) (x:Operand) (ho:o.op = .buildSlice t 1 #[(0,x)])
  (X s:Value) (hx:a.eval x=X) (hr:(Instr.buildSlice t 1 #[(0,X)]).run P w = .ok s w') (h:K (a.put o.dst s) w'):if Region.wanted o (yielded ops a.tmps)=true then Oper.wp P o a w K Q else E:=by
 rw[if_pos hw]
 unfold Oper.wp execOp
 simp only[ho,Sem.run_bind,List.map_toArray,List.map_cons,List.map_nil,hx,hr,Result.andThen_ok]
 exact h
theorem zaw {P:Program} {w w' : World} {ops:Array Oper} {rest:List Oper} {o:Oper} {a:Act} {Q:Exit→Act→World→Prop} (hg:o.guard=none) (t:TypeId) (x:Operand) (ho:o.op = .buildSlice t 1 #[(0,x)])
  (X s:Value) (hx:a.eval x=X) (hr:(Instr.buildSlice t 1 #[(0,X)]).run P w = .ok s w') (h:wpList P ops Q rest (a.put o.dst s) w'):wpList P ops Q (o::rest) a w :=
 wpList_plain hg fun _ hK=>by
  unfold Oper.wp execOp
  simp only[ho,Sem.run_bind,List.map_toArray,List.map_cons,List.map_nil,hx,hr,Result.andThen_ok]
  exact hK _ _ h
theorem zin (s:List UInt8 × Int) (j:Nat):(runE s j).1.length=j:=by
 induction j with
 | zero=>rfl
 | succ j ih=>rw[runE,zer];simp[ih]
theorem zrb (s:List UInt8 × Int) (j:Nat):∀ e∈(runE s j).1,e.id.length=32:=by
 induction j with
 | zero=>intro e he;simp[runE] at he
 | succ j ih =>
  intro e he
  rw[runE,zer] at he
  simp only[List.mem_append,List.mem_singleton] at he
  rcases he with he | rfl
  ·exact ih e he
  ·exact zbh _ _
theorem zg0 (s:List UInt8 × Int) (j:Nat):(runE s j).2.1.length≤s.1.length:=by
 induction j with
 | zero=>exact Nat.le_refl _
 | succ j ih =>
  rw[runE,zer]
  exact Nat.le_trans (zca _ _ _) (Nat.le_trans (za5 _ _) (Nat.le_trans (za9 _ _ _) ih))
theorem zmx (s:List UInt8 × Int) (j:Nat):∀ e∈(runE s j).1,e.name.length≤s.1.length:=by
 induction j with
 | zero=>intro e he;simp[runE] at he
 | succ j ih =>
  intro e he
  have h0:=zg0 s j
  rw[runE,zer] at he
  simp only[List.mem_append,List.mem_singleton] at he
  rcases he with he | rfl
  ·exact ih e he
  ·exact Nat.le_trans (zbz _ _) (Nat.le_trans (za9 _ _ _) h0)
theorem zhp {s:List UInt8 × Int} {j:Nat} {es:List EntL} {l' : List UInt8} {e' : Int} (h:runE s j=(es,l',e')) {v1:Nat} {l1:List UInt8} {e1:Int} (h1:numS l' e' 1=(v1,l1,e1)) {x l2:List UInt8} {e2:Int} (h2:zal l1 e1=(x,l2,e2)) {y l3:List UInt8} {e3:Int} (h3:rawS l2 e2 32=(y,l3,e3)) :
  runE s (j+1)=(es++[⟨x,decide (v1=1),zcj y⟩],l3,e3):=by
 rw[runE,h,zer]
 simp only[h1,h2,h3]
set_option maxHeartbeats 4000000 in
theorem zjj (w:World) (rb:Nat) (d:List UInt8) (hl:d.length≤1000000) (h:Rd w rb d 0) :
  Calls Tryz.prog 117 #[.pointer (some ⟨rb,0,none⟩)] w fun e w'=>∃ v,e = .returned v∧w'.ownsRow w.heap.size 154 34 v (zbo d).length ((zbo d).flatMap enC)∧w.grownBy w' (some rb):=by
 have hrb:=h.lt
 have cn:=zd8 w rb d 0 2 h
 have hll:=za9 d 0 2
 have hn6:=zlq d 0
 have hRT:zbo d=(runE (numS d 0 2).2 (min (numS d 0 2).1 32)).1:=rfl
 obtain ⟨⟨n0,l0,e0⟩,ha⟩:∃ a,a=numS d 0 2:=⟨_,rfl⟩
 rw[← ha] at cn hll hn6 hRT
 simp only at cn hll hn6 hRT
 obtain ⟨m,hm⟩:∃ m,m=min n0 32:=⟨_,rfl⟩
 have hm32:m≤32:=by omega
 rw[← hm] at hRT
 have HRT:=hide hRT
 have HLL:=hide (Nat.le_trans hll hl)
 have hcase:(32<n0∧m=32)∨n0=m:=by omega
 clear ha hRT hll hl h hm
 rcases hcase with ⟨hc,hm⟩ | hm
 ·have hci:(32:Int)<(n0:Int):=by omega
  have h32:Value.int IntKind.u64 32=Value.int IntKind.u64 (m:Int):=by rw[hm];rfl
  have H32:=hide h32
  clear h32 hm hc
  go_enter Tryz.func117,Tryz.ntmps117
  go_wp2_with fail
  refine cn.mono ?_
  rintro e w1 ⟨rfl,hR1,g1⟩
  clear cn
  go_wp2
  rw[uh H32]
  clear H32 hci
  go_loopw [3,8] (fun v i wr=>∃ (j:Nat) (es:List EntL) (l' : List UInt8) (e' : Int),j≤m∧i = .int .u64 (j:Int)∧Hid (runE (l0,e0) j=(es,l',e'))∧wr.ownsRow w.heap.size 154 34 v es.length (es.flatMap enC)∧Rd wr rb l' e'∧w.grownBy wr (some rb)) (fun _ i _=>m - (intOf i).toNat)
  case atStart=>exact ⟨0,[],l0,e0,Nat.zero_le _,rfl,rfl,World.ownsRow_nil _ _ _ _,hR1,g1⟩
  case round =>
   obtain ⟨j,es,l',e',hj,rfl,HE,ho,hR,hg⟩:=hrel
   by_cases hlt:j<m
   ·have hel:es.length=j:=by have:=zin (l0,e0) j;rw[uh HE] at this;exact this
    have hlf:l'.length≤1000000:=by have:=zg0 (l0,e0) j;rw[uh HE] at this;exact Nat.le_trans this (uh HLL)
    have cn:=zd8 wr rb l' e' 1 hR
    have hl1:=za9 l' e' 1
    have hsl1:∀ l1 e1,(zal l1 e1).2.1.length≤l1.length:=za5
    obtain ⟨⟨v1,l1,e1⟩,ha⟩:∃ a,a=numS l' e' 1:=⟨_,rfl⟩
    rw[← ha] at cn hl1
    simp only at cn hl1
    have H1:=hide ha.symm
    clear ha
    go_wp2_with fail
    refine cn.mono ?_
    rintro e w2 ⟨rfl,hR2,g2⟩
    have ho2:=zb7 ho g2 (fun x e=>by cases e;omega)
    have G2:w.grownBy w2 (some rb):=zae hg g2 (fun x e=>Or.inr e)
    clear cn hR hg ho g2
    go_upto_region 5 with fail
    have cs:∀ V,Rd V rb l1 e1→Calls Tryz.prog 38 #[.pointer (some ⟨rb,0,none⟩)] V fun e w'=>∃ v,e = .returned v∧NewB V w' v (zal l1 e1).1∧Rd w' rb (zal l1 e1).2.1 (zal l1 e1).2.2∧V.grownBy w' (some rb):=fun V hV=>zct V rb l1 e1 (by omega) hV
    have hsz1:=za5 l1 e1
    obtain ⟨⟨x,l2,e2⟩,ha⟩:∃ a,a=zal l1 e1:=⟨_,rfl⟩
    rw[← ha] at cs hsz1
    simp only at cs hsz1
    have H2:=hide ha.symm
    clear ha
    have ci:∀ V,Rd V rb l2 e2→Calls Tryz.prog 134 #[.pointer (some ⟨rb,0,none⟩)] V fun e w'=>e = .returned (.agg ((zcj (rawS l2 e2 32).1).map bv).toArray)∧Rd w' rb (rawS l2 e2 32).2.1 (rawS l2 e2 32).2.2∧V.grownBy w' (some rb):=fun V hV=>zc7 V rb l2 e2 (by omega) hV
    have hy32:=zbh l2 e2
    obtain ⟨⟨y,l3,e3⟩,ha⟩:∃ a,a=rawS l2 e2 32:=⟨_,rfl⟩
    rw[← ha] at ci hy32
    simp only at ci hy32
    have H3:=hide ha.symm
    clear ha
    obtain ⟨D,hD⟩:∃ D,D=decide (v1=1):=⟨_,rfl⟩
    have hD2:((v1:Int) == 1)=D:=by rw[hD];by_cases q:v1=1 <;> simp[q] <;> omega
    have hrd:=zhp (uh HE) (uh H1) (uh H2) (uh H3)
    rw[← hD] at hrd
    obtain ⟨I,hI⟩:∃ I,I=zcj y:=⟨_,rfl⟩
    rw[← hI] at ci hy32 hrd
    have hbt:=zji (str x) D I hy32
    have hbs:=zsy (str x) D I hy32
    obtain ⟨IV,hIV⟩:∃ V,V=Value.agg (I.map bv).toArray:=⟨_,rfl⟩
    rw[← hIV] at ci hbt
    obtain ⟨EC,hEC⟩:∃ L,L=(Value.string (str x)::Value.bool D::I.map bv):=⟨_,rfl⟩
    rw[← hEC] at hbt hbs
    have hEe:EC=enC ⟨x,D,I⟩:=hEC
    have hEl:EC.length=34:=by rw[hEe];exact zfr _ hy32
    have hE1:∀ u∈EC,u.oneCell'=true:=by rw[hEe];exact zgy _
    have hfl:(es++[(⟨x,D,I⟩:EntL)]).flatMap enC=es.flatMap enC++EC:=by rw[hEe];simp
    obtain ⟨N,hN⟩:∃ N,N=str x:=⟨_,rfl⟩
    rw[← hN] at hbt
    obtain ⟨HN,HBT,HEL,HE1,HFL,HRD⟩:=zh6 hN hbt hEl hE1 hfl hrd
    have h0:w.grownBy w2.drew (some rb):=zam G2
    have hRd:Rd w2.drew rb l1 e1:=hR2.kept (zam (zaa _ none)) (Or.inl rfl)
    have hod:w2.drew.ownsRow w.heap.size 154 34 u3 es.length (es.flatMap enC):=zb7 ho2 (zam (zaa _ none)) (fun x e=>by cases e)
    have hj100:es.length≤100000:=by omega
    clear hD hI hIV hEC hEe hEl hE1 hfl hN hbt hrd hy32 hsz1 hl1 hsl1 ho2 hR2 G2 HE H1 H2 H3 hlf hel
    try rw[hD2]
    clear hD2
    refine wp_region_noPanic ?_
    refine wp_region_held_drew (S:=fun V=>w.grownBy V (some rb)) (by kernel_rfl) h0 (fun _ => ?_)
    refine tq 0 13 (.move (.tmp 3)) u3 h0 ?_
    refine tq 1 14 (.move (.tmp 0)) (.pointer (some ⟨rb,0,none⟩)) h0 ?_
    refine tq 4 17 (.move (.tmp 4)) (.bool D) h0 ?_
    refine tq 5 18 (.move (.tmp 0)) (.pointer (some ⟨rb,0,none⟩)) h0 ?_
    (try simp only[pq])
    refine rdq 2 (some 15) (.call { callee := .value (.func 38),args := #[(.tmp 14)],argTypes := #[84] }) (fun K9 hK9 => ?_)
    go_simp
    go_at_call 38
    refine (cs _ hRd).mono ?_
    rintro e w3 ⟨v3,rfl,⟨ao,c,rfl,hb3,hn3⟩,hR3,g3⟩
    have G3:w.grownBy w3 (some rb):=zae h0 g3 (fun x e=>Or.inr e)
    go_wp2_with fail
    refine hK9.out _ _ G3 (fun _ => ?_)
    clear hK9 K9
    (try simp only[pq])
    have hs0:w.heap.size≤w2.drew.heap.size:=h0.size
    have ho3:=zb7 hod g3 (fun x e=>by cases e;exact hrb)
    have hof:Off ao rb:=fun ad e e2=>by have:=(hn3 ad e).1;omega
    clear hod g3 cs hRd hs0
    refine wpAnyH_ready (rs:=[3,6]) (by kernel_rfl) (by simp) ?_
    refine AllReadyH.cons (o:=⟨some 16,.convert 24 9 (.tmp 15),_,_,_,_⟩) rfl (fun K9 hK9 => ?_) (AllReadyH.cons (o:=⟨some 19,.call { callee := .value (.func 134),args := #[(.tmp 18)],argTypes := #[84] },_,_,_,_⟩) rfl (fun K9 hK9 => ?_) AllReadyH.nil)
    ·have hcv:=zat hb3
     rw[← uh HN] at hcv
     go_simp
     refine hK9.out _ _ G3 (fun _ => ?_)
     clear hK9 K9 hcv
     (try simp only[pq])
     refine rdq 6 (some 19) (.call { callee := .value (.func 134),args := #[(.tmp 18)],argTypes := #[84] }) (fun K9 hK9 => ?_)
     go_simp
     go_at_call 134
     refine (ci _ hR3).mono ?_
     rintro e w4 ⟨rfl,hR4,g4⟩
     have G4:w.grownBy w4 (some rb):=zae G3 g4 (fun x e=>Or.inr e)
     go_wp2_with fail
     refine hK9.out _ _ G4 (fun _ => ?_)
     clear hK9 K9
     (try simp only[pq])
     have ho4:=zb7 ho3 g4 (fun x e=>by cases e;exact hrb)
     clear ci hR3 ho3 g4
     refine tz 7 20 (.build 154 #[(0,(.tmp 16)),(1,(.tmp 17)),(2,(.tmp 19))]) (.agg EC.toArray) G4 ?_ (y:=(zbp (by rfl) _ _ rfl _ (Eq.trans (b:=Tryz.prog.built 154 [(0,.string N),(1,.bool D),(2,IV)]) (by kernel_rfl) (uh HBT))))
     (try simp only[pq])
     refine rdq 8 (some 21) (.buildSlice 150 1 #[(0,(.tmp 20))]) (fun K9 hK9 => ?_)
     obtain ⟨w5,hw5,hB5,g5⟩:=zag w4 154 EC
     refine zbj (by rfl) _ _ rfl _ _ rfl (hbs w4) ?_
     rw[← hw5]
     have G5:=tn G4 g5
     refine hK9.out _ _ G5 (fun _ => ?_)
     clear hK9 K9 hw5
     (try simp only[pq])
     have ho5:=zb7 ho4 g5 (fun x e=>by cases e)
     have hR5:=hR4.kept g5 (Or.inl rfl)
     refine rdq 9 (some 22) (.call { callee := .builtin .append,args := #[(.tmp 13),(.tmp 21)],argTypes := #[150,150] }) (fun K9 hK9 => ?_)
     refine zch (by rfl) _ _ rfl w.heap.size u3 _ _ rfl ho5 _ EC hB5 (uh HEL) (uh HE1) rfl hj100 G5.size ?_
     intro v6 w6 ho6 g6
     have G6:w.grownBy w6 (some rb):=zae G5 g6 (fun x e=>Or.inl (ho5.lt x e).1)
     have hR6:Rd w6 rb l3 e3:=hR5.keptTyp g6 (fun x e=>⟨by have:=(ho5.lt x e).1;omega,zcq ho5 e (by decide)⟩)
     refine hK9.out _ _ G6 (fun _ => ?_)
     clear hK9 K9 g6 ho5 hR5 hB5 g5
     refine tq 10 3 (.assign (.tmp 22)) v6 G6 ?_
     (try simp only[pq])
     refine wpAnyH_done (by kernel_rfl) ?_ _
     refine NoPanic.normal ?_
     obtain ⟨HR6,HO6⟩:=zh2 hR6 ho6
     clear hR6 ho6
     go_wp2
     go_roundw
     case rel =>
      refine ⟨j+1,_,l3,e3,by omega,by go_num,HRD,?_,uh HR6,G6⟩
      rw[List.length_append,uh HFL]
      exact uh HO6
     case measure=>simp[intOf];omega
    ·go_simp
     go_at_call 134
     refine (ci _ hR3).mono ?_
     rintro e w4 ⟨rfl,hR4,g4⟩
     have G4:w.grownBy w4 (some rb):=zae G3 g4 (fun x e=>Or.inr e)
     go_wp2_with fail
     refine hK9.out _ _ G4 (fun _ => ?_)
     clear hK9 K9
     (try simp only[pq])
     have ho4:=zb7 ho3 g4 (fun x e=>by cases e;exact hrb)
     have hb4:=hb3.kept g4 (fun x e=>by cases e;exact hof)
     clear ci hR3 ho3 g4
     refine rdq 3 (some 16) (.convert 24 9 (.tmp 15)) (fun K9 hK9 => ?_)
     have hcv:=zat hb4
     rw[← uh HN] at hcv
     go_simp
     refine hK9.out _ _ G4 (fun _ => ?_)
     clear hK9 K9 hcv
     refine tz 7 20 (.build 154 #[(0,(.tmp 16)),(1,(.tmp 17)),(2,(.tmp 19))]) (.agg EC.toArray) G4 ?_ (y:=(zbp (by rfl) _ _ rfl _ (Eq.trans (b:=Tryz.prog.built 154 [(0,.string N),(1,.bool D),(2,IV)]) (by kernel_rfl) (uh HBT))))
     (try simp only[pq])
     refine rdq 8 (some 21) (.buildSlice 150 1 #[(0,(.tmp 20))]) (fun K9 hK9 => ?_)
     obtain ⟨w5,hw5,hB5,g5⟩:=zag w4 154 EC
     refine zbj (by rfl) _ _ rfl _ _ rfl (hbs w4) ?_
     rw[← hw5]
     have G5:=tn G4 g5
     refine hK9.out _ _ G5 (fun _ => ?_)
     clear hK9 K9 hw5
     (try simp only[pq])
     have ho5:=zb7 ho4 g5 (fun x e=>by cases e)
     have hR5:=hR4.kept g5 (Or.inl rfl)
     refine rdq 9 (some 22) (.call { callee := .builtin .append,args := #[(.tmp 13),(.tmp 21)],argTypes := #[150,150] }) (fun K9 hK9 => ?_)
     refine zch (by rfl) _ _ rfl w.heap.size u3 _ _ rfl ho5 _ EC hB5 (uh HEL) (uh HE1) rfl hj100 G5.size ?_
     intro v6 w6 ho6 g6
     have G6:w.grownBy w6 (some rb):=zae G5 g6 (fun x e=>Or.inl (ho5.lt x e).1)
     have hR6:Rd w6 rb l3 e3:=hR5.keptTyp g6 (fun x e=>⟨by have:=(ho5.lt x e).1;omega,zcq ho5 e (by decide)⟩)
     refine hK9.out _ _ G6 (fun _ => ?_)
     clear hK9 K9 g6 ho5 hR5 hB5 g5
     refine tq 10 3 (.assign (.tmp 22)) v6 G6 ?_
     (try simp only[pq])
     refine wpAnyH_done (by kernel_rfl) ?_ _
     refine NoPanic.normal ?_
     obtain ⟨HR6,HO6⟩:=zh2 hR6 ho6
     clear hR6 ho6
     go_wp2
     go_roundw
     case rel =>
      refine ⟨j+1,_,l3,e3,by omega,by go_num,HRD,?_,uh HR6,G6⟩
      rw[List.length_append,uh HFL]
      exact uh HO6
     case measure=>simp[intOf];omega
   ·have hjm:j=m:=by omega
    have hfin:zbo d=es:=by
     rw[uh HRT,← hjm,uh HE]
    have HF:=hide hfin
    clear hfin hjm
    go_wp2
    go_ret
    exact ⟨_,rfl,by rw[uh HF];exact ho,hg⟩
 ·subst n0
  have hci:¬ (32:Int)<(m:Int):=by omega
  go_enter Tryz.func117,Tryz.ntmps117
  go_wp2_with fail
  refine cn.mono ?_
  rintro e w1 ⟨rfl,hR1,g1⟩
  clear cn
  go_wp2
  clear hci
  go_loopw [3,8] (fun v i wr=>∃ (j:Nat) (es:List EntL) (l' : List UInt8) (e' : Int),j≤m∧i = .int .u64 (j:Int)∧Hid (runE (l0,e0) j=(es,l',e'))∧wr.ownsRow w.heap.size 154 34 v es.length (es.flatMap enC)∧Rd wr rb l' e'∧w.grownBy wr (some rb)) (fun _ i _=>m - (intOf i).toNat)
  case atStart=>exact ⟨0,[],l0,e0,Nat.zero_le _,rfl,rfl,World.ownsRow_nil _ _ _ _,hR1,g1⟩
  case round =>
   obtain ⟨j,es,l',e',hj,rfl,HE,ho,hR,hg⟩:=hrel
   by_cases hlt:j<m
   ·have hel:es.length=j:=by have:=zin (l0,e0) j;rw[uh HE] at this;exact this
    have hlf:l'.length≤1000000:=by have:=zg0 (l0,e0) j;rw[uh HE] at this;exact Nat.le_trans this (uh HLL)
    have cn:=zd8 wr rb l' e' 1 hR
    have hl1:=za9 l' e' 1
    have hsl1:∀ l1 e1,(zal l1 e1).2.1.length≤l1.length:=za5
    obtain ⟨⟨v1,l1,e1⟩,ha⟩:∃ a,a=numS l' e' 1:=⟨_,rfl⟩
    rw[← ha] at cn hl1
    simp only at cn hl1
    have H1:=hide ha.symm
    clear ha
    go_wp2_with fail
    refine cn.mono ?_
    rintro e w2 ⟨rfl,hR2,g2⟩
    have ho2:=zb7 ho g2 (fun x e=>by cases e;omega)
    have G2:w.grownBy w2 (some rb):=zae hg g2 (fun x e=>Or.inr e)
    clear cn hR hg ho g2
    go_upto_region 5 with fail
    have cs:∀ V,Rd V rb l1 e1→Calls Tryz.prog 38 #[.pointer (some ⟨rb,0,none⟩)] V fun e w'=>∃ v,e = .returned v∧NewB V w' v (zal l1 e1).1∧Rd w' rb (zal l1 e1).2.1 (zal l1 e1).2.2∧V.grownBy w' (some rb):=fun V hV=>zct V rb l1 e1 (by omega) hV
    have hsz1:=za5 l1 e1
    obtain ⟨⟨x,l2,e2⟩,ha⟩:∃ a,a=zal l1 e1:=⟨_,rfl⟩
    rw[← ha] at cs hsz1
    simp only at cs hsz1
    have H2:=hide ha.symm
    clear ha
    have ci:∀ V,Rd V rb l2 e2→Calls Tryz.prog 134 #[.pointer (some ⟨rb,0,none⟩)] V fun e w'=>e = .returned (.agg ((zcj (rawS l2 e2 32).1).map bv).toArray)∧Rd w' rb (rawS l2 e2 32).2.1 (rawS l2 e2 32).2.2∧V.grownBy w' (some rb):=fun V hV=>zc7 V rb l2 e2 (by omega) hV
    have hy32:=zbh l2 e2
    obtain ⟨⟨y,l3,e3⟩,ha⟩:∃ a,a=rawS l2 e2 32:=⟨_,rfl⟩
    rw[← ha] at ci hy32
    simp only at ci hy32
    have H3:=hide ha.symm
    clear ha
    obtain ⟨D,hD⟩:∃ D,D=decide (v1=1):=⟨_,rfl⟩
    have hD2:((v1:Int) == 1)=D:=by rw[hD];by_cases q:v1=1 <;> simp[q] <;> omega
    have hrd:=zhp (uh HE) (uh H1) (uh H2) (uh H3)
    rw[← hD] at hrd
    obtain ⟨I,hI⟩:∃ I,I=zcj y:=⟨_,rfl⟩
    rw[← hI] at ci hy32 hrd
    have hbt:=zji (str x) D I hy32
    have hbs:=zsy (str x) D I hy32
    obtain ⟨IV,hIV⟩:∃ V,V=Value.agg (I.map bv).toArray:=⟨_,rfl⟩
    rw[← hIV] at ci hbt
    obtain ⟨EC,hEC⟩:∃ L,L=(Value.string (str x)::Value.bool D::I.map bv):=⟨_,rfl⟩
    rw[← hEC] at hbt hbs
    have hEe:EC=enC ⟨x,D,I⟩:=hEC
    have hEl:EC.length=34:=by rw[hEe];exact zfr _ hy32
    have hE1:∀ u∈EC,u.oneCell'=true:=by rw[hEe];exact zgy _
    have hfl:(es++[(⟨x,D,I⟩:EntL)]).flatMap enC=es.flatMap enC++EC:=by rw[hEe];simp
    obtain ⟨N,hN⟩:∃ N,N=str x:=⟨_,rfl⟩
    rw[← hN] at hbt
    obtain ⟨HN,HBT,HEL,HE1,HFL,HRD⟩:=zh6 hN hbt hEl hE1 hfl hrd
    have h0:w.grownBy w2.drew (some rb):=zam G2
    have hRd:Rd w2.drew rb l1 e1:=hR2.kept (zam (zaa _ none)) (Or.inl rfl)
    have hod:w2.drew.ownsRow w.heap.size 154 34 u3 es.length (es.flatMap enC):=zb7 ho2 (zam (zaa _ none)) (fun x e=>by cases e)
    have hj100:es.length≤100000:=by omega
    clear hD hI hIV hEC hEe hEl hE1 hfl hN hbt hrd hy32 hsz1 hl1 hsl1 ho2 hR2 G2 HE H1 H2 H3 hlf hel
    try rw[hD2]
    clear hD2
    refine wp_region_noPanic ?_
    refine wp_region_held_drew (S:=fun V=>w.grownBy V (some rb)) (by kernel_rfl) h0 (fun _ => ?_)
    refine tq 0 13 (.move (.tmp 3)) u3 h0 ?_
    refine tq 1 14 (.move (.tmp 0)) (.pointer (some ⟨rb,0,none⟩)) h0 ?_
    refine tq 4 17 (.move (.tmp 4)) (.bool D) h0 ?_
    refine tq 5 18 (.move (.tmp 0)) (.pointer (some ⟨rb,0,none⟩)) h0 ?_
    (try simp only[pq])
    refine rdq 2 (some 15) (.call { callee := .value (.func 38),args := #[(.tmp 14)],argTypes := #[84] }) (fun K9 hK9 => ?_)
    go_simp
    go_at_call 38
    refine (cs _ hRd).mono ?_
    rintro e w3 ⟨v3,rfl,⟨ao,c,rfl,hb3,hn3⟩,hR3,g3⟩
    have G3:w.grownBy w3 (some rb):=zae h0 g3 (fun x e=>Or.inr e)
    go_wp2_with fail
    refine hK9.out _ _ G3 (fun _ => ?_)
    clear hK9 K9
    (try simp only[pq])
    have hs0:w.heap.size≤w2.drew.heap.size:=h0.size
    have ho3:=zb7 hod g3 (fun x e=>by cases e;exact hrb)
    have hof:Off ao rb:=fun ad e e2=>by have:=(hn3 ad e).1;omega
    clear hod g3 cs hRd hs0
    refine wpAnyH_ready (rs:=[3,6]) (by kernel_rfl) (by simp) ?_
    refine AllReadyH.cons (o:=⟨some 16,.convert 24 9 (.tmp 15),_,_,_,_⟩) rfl (fun K9 hK9 => ?_) (AllReadyH.cons (o:=⟨some 19,.call { callee := .value (.func 134),args := #[(.tmp 18)],argTypes := #[84] },_,_,_,_⟩) rfl (fun K9 hK9 => ?_) AllReadyH.nil)
    ·have hcv:=zat hb3
     rw[← uh HN] at hcv
     go_simp
     refine hK9.out _ _ G3 (fun _ => ?_)
     clear hK9 K9 hcv
     (try simp only[pq])
     refine rdq 6 (some 19) (.call { callee := .value (.func 134),args := #[(.tmp 18)],argTypes := #[84] }) (fun K9 hK9 => ?_)
     go_simp
     go_at_call 134
     refine (ci _ hR3).mono ?_
     rintro e w4 ⟨rfl,hR4,g4⟩
     have G4:w.grownBy w4 (some rb):=zae G3 g4 (fun x e=>Or.inr e)
     go_wp2_with fail
     refine hK9.out _ _ G4 (fun _ => ?_)
     clear hK9 K9
     (try simp only[pq])
     have ho4:=zb7 ho3 g4 (fun x e=>by cases e;exact hrb)
     clear ci hR3 ho3 g4
     refine tz 7 20 (.build 154 #[(0,(.tmp 16)),(1,(.tmp 17)),(2,(.tmp 19))]) (.agg EC.toArray) G4 ?_ (y:=(zbp (by rfl) _ _ rfl _ (Eq.trans (b:=Tryz.prog.built 154 [(0,.string N),(1,.bool D),(2,IV)]) (by kernel_rfl) (uh HBT))))
     (try simp only[pq])
     refine rdq 8 (some 21) (.buildSlice 150 1 #[(0,(.tmp 20))]) (fun K9 hK9 => ?_)
     obtain ⟨w5,hw5,hB5,g5⟩:=zag w4 154 EC
     refine zbj (by rfl) _ _ rfl _ _ rfl (hbs w4) ?_
     rw[← hw5]
     have G5:=tn G4 g5
     refine hK9.out _ _ G5 (fun _ => ?_)
     clear hK9 K9 hw5
     (try simp only[pq])
     have ho5:=zb7 ho4 g5 (fun x e=>by cases e)
     have hR5:=hR4.kept g5 (Or.inl rfl)
     refine rdq 9 (some 22) (.call { callee := .builtin .append,args := #[(.tmp 13),(.tmp 21)],argTypes := #[150,150] }) (fun K9 hK9 => ?_)
     refine zch (by rfl) _ _ rfl w.heap.size u3 _ _ rfl ho5 _ EC hB5 (uh HEL) (uh HE1) rfl hj100 G5.size ?_
     intro v6 w6 ho6 g6
     have G6:w.grownBy w6 (some rb):=zae G5 g6 (fun x e=>Or.inl (ho5.lt x e).1)
     have hR6:Rd w6 rb l3 e3:=hR5.keptTyp g6 (fun x e=>⟨by have:=(ho5.lt x e).1;omega,zcq ho5 e (by decide)⟩)
     refine hK9.out _ _ G6 (fun _ => ?_)
     clear hK9 K9 g6 ho5 hR5 hB5 g5
     refine tq 10 3 (.assign (.tmp 22)) v6 G6 ?_
     (try simp only[pq])
     refine wpAnyH_done (by kernel_rfl) ?_ _
     refine NoPanic.normal ?_
     obtain ⟨HR6,HO6⟩:=zh2 hR6 ho6
     clear hR6 ho6
     go_wp2
     go_roundw
     case rel =>
      refine ⟨j+1,_,l3,e3,by omega,by go_num,HRD,?_,uh HR6,G6⟩
      rw[List.length_append,uh HFL]
      exact uh HO6
     case measure=>simp[intOf];omega
    ·go_simp
     go_at_call 134
     refine (ci _ hR3).mono ?_
     rintro e w4 ⟨rfl,hR4,g4⟩
     have G4:w.grownBy w4 (some rb):=zae G3 g4 (fun x e=>Or.inr e)
     go_wp2_with fail
     refine hK9.out _ _ G4 (fun _ => ?_)
     clear hK9 K9
     (try simp only[pq])
     have ho4:=zb7 ho3 g4 (fun x e=>by cases e;exact hrb)
     have hb4:=hb3.kept g4 (fun x e=>by cases e;exact hof)
     clear ci hR3 ho3 g4
     refine rdq 3 (some 16) (.convert 24 9 (.tmp 15)) (fun K9 hK9 => ?_)
     have hcv:=zat hb4
     rw[← uh HN] at hcv
     go_simp
     refine hK9.out _ _ G4 (fun _ => ?_)
     clear hK9 K9 hcv
     refine tz 7 20 (.build 154 #[(0,(.tmp 16)),(1,(.tmp 17)),(2,(.tmp 19))]) (.agg EC.toArray) G4 ?_ (y:=(zbp (by rfl) _ _ rfl _ (Eq.trans (b:=Tryz.prog.built 154 [(0,.string N),(1,.bool D),(2,IV)]) (by kernel_rfl) (uh HBT))))
     (try simp only[pq])
     refine rdq 8 (some 21) (.buildSlice 150 1 #[(0,(.tmp 20))]) (fun K9 hK9 => ?_)
     obtain ⟨w5,hw5,hB5,g5⟩:=zag w4 154 EC
     refine zbj (by rfl) _ _ rfl _ _ rfl (hbs w4) ?_
     rw[← hw5]
     have G5:=tn G4 g5
     refine hK9.out _ _ G5 (fun _ => ?_)
     clear hK9 K9 hw5
     (try simp only[pq])
     have ho5:=zb7 ho4 g5 (fun x e=>by cases e)
     have hR5:=hR4.kept g5 (Or.inl rfl)
     refine rdq 9 (some 22) (.call { callee := .builtin .append,args := #[(.tmp 13),(.tmp 21)],argTypes := #[150,150] }) (fun K9 hK9 => ?_)
     refine zch (by rfl) _ _ rfl w.heap.size u3 _ _ rfl ho5 _ EC hB5 (uh HEL) (uh HE1) rfl hj100 G5.size ?_
     intro v6 w6 ho6 g6
     have G6:w.grownBy w6 (some rb):=zae G5 g6 (fun x e=>Or.inl (ho5.lt x e).1)
     have hR6:Rd w6 rb l3 e3:=hR5.keptTyp g6 (fun x e=>⟨by have:=(ho5.lt x e).1;omega,zcq ho5 e (by decide)⟩)
     refine hK9.out _ _ G6 (fun _ => ?_)
     clear hK9 K9 g6 ho5 hR5 hB5 g5
     refine tq 10 3 (.assign (.tmp 22)) v6 G6 ?_
     (try simp only[pq])
     refine wpAnyH_done (by kernel_rfl) ?_ _
     refine NoPanic.normal ?_
     obtain ⟨HR6,HO6⟩:=zh2 hR6 ho6
     clear hR6 ho6
     go_wp2
     go_roundw
     case rel =>
      refine ⟨j+1,_,l3,e3,by omega,by go_num,HRD,?_,uh HR6,G6⟩
      rw[List.length_append,uh HFL]
      exact uh HO6
     case measure=>simp[intOf];omega
   ·have hjm:j=m:=by omega
    have hfin:zbo d=es:=by
     rw[uh HRT,← hjm,uh HE]
    have HF:=hide hfin
    clear hfin hjm
    go_wp2
    go_ret
    exact ⟨_,rfl,by rw[uh HF];exact ho,hg⟩
def chR (t:List UInt8) (v:Value) (n:Nat) (a x:List UInt8):List Value:=t.map bv++[v,.int .u64 (n:Int),.string (str a),.string (str x)]
theorem ztk (c:ChgL) (po:Option Addr) (pc:Nat):chC c po pc=chR c.tree (.slice po c.pars.length pc) c.time c.author c.text:=rfl
theorem zfs (t:List UInt8) (v:Value) (n:Nat) (a x:List UInt8) (h:t.length=32):(chR t v n a x).length=36:=by simp[chR,h]
theorem zb8 (t:List UInt8) (v:Value) (n:Nat) (a x:List UInt8) (h:t.length=32):(chR t v n a x)[32]? = some v∧(chR t v n a x)[33]? = some (.int .u64 (n:Int))∧(chR t v n a x)[34]? = some (.string (str a))∧(chR t v n a x)[35]? = some (.string (str x)):=by
 have hl:(t.map bv).length=32:=by simp[h]
 unfold chR
 refine ⟨?_,?_,?_,?_⟩ <;> rw[List.getElem?_append_right (by omega),hl] <;> rfl
theorem zci (t:List UInt8) (v v' : Value) (n n' : Nat) (a a' x x' : List UInt8) (h:t.length=32):(chR t v n a x).set 32 v'=chR t v' n a x∧(chR t v n a x).set 33 (.int .u64 (n' : Int))=chR t v n' a x∧(chR t v n a x).set 34 (.string (str a'))=chR t v n a' x∧(chR t v n a x).set 35 (.string (str x'))=chR t v n a x':=by
 have hl:(t.map bv).length=32:=by simp[h]
 unfold chR
 refine ⟨?_,?_,?_,?_⟩ <;> rw[List.set_append_right _ _ (by omega),hl] <;> rfl
theorem zft (t:List UInt8) (v:Value) (n:Nat) (a x:List UInt8) (hv:v.oneCell'=true):∀ u∈chR t v n a x,u.oneCell'=true:=by
 intro u hu
 simp only[chR,List.mem_append,List.mem_cons,List.not_mem_nil,or_false] at hu
 rcases hu with hu | rfl | rfl | rfl | rfl
 ·exact za6 _ u hu
 ·exact hv
 all_goals rfl
theorem Rd.blk {w:World} {rb p:Nat} {l:List UInt8} {e:Int} {cs:List Value} {t:TypeId} (h:Rd w rb l e) (hB:Blk w p t cs) (ht:t≠5) (hp:p≠rb) (j:Nat) (v:Value):Rd (w.setCell ⟨p,j,none⟩ v) rb l e :=
 h.keptTyp (zd4 w p j v) (fun x e=>by cases e;exact ⟨hp,hB.typ ht⟩)
theorem zio (s:List UInt8 × Int) (j:Nat):(runP s j).1.length=j:=by
 induction j with
 | zero=>rfl
 | succ j ih=>rw[runP,zjd];simp[ih]
theorem zrc (s:List UInt8 × Int) (j:Nat):∀ x∈(runP s j).1,x.length=32:=by
 induction j with
 | zero=>intro e he;simp[runP] at he
 | succ j ih =>
  intro e he
  rw[runP,zjd] at he
  simp only[List.mem_append,List.mem_singleton] at he
  rcases he with he | rfl
  ·exact ih e he
  ·exact zbh _ _
theorem zeb (s:List UInt8 × Int) (j:Nat):(runP s j).2.1.length≤s.1.length:=by
 induction j with
 | zero=>exact Nat.le_refl _
 | succ j ih =>
  rw[runP,zjd]
  exact Nat.le_trans (zca _ _ _) ih
theorem zhq {s:List UInt8 × Int} {j:Nat} {ps:List (List UInt8)} {l' : List UInt8} {e' : Int} (h:runP s j=(ps,l',e')) {y l3:List UInt8} {e3:Int} (h3:rawS l' e' 32=(y,l3,e3)):runP s (j+1)=(ps++[zcj y],l3,e3):=by
 rw[runP,h,zjd]
 simp only[h3]
theorem zg1 (w:World):(zeroValue 156).run Tryz.prog w = .ok (.agg (chR (List.replicate 32 0) (.slice none 0 0) 0 [] []).toArray) w:=by kernel_rfl
set_option maxHeartbeats 4000000 in
theorem zko (w:World) (rb:Nat) (d:List UInt8) (hl:d.length≤1000000) (h:Rd w rb d 0) :
  Calls Tryz.prog 120 #[.int .i64 4,.pointer (some ⟨rb,0,none⟩)] w fun e w'=>e = .returned (.agg (chR (zbl d).target (.slice none 0 0) 0 (zbl d).name (zbl d).text).toArray)∧w.grownBy w' (some rb):=by
 have hRM:zbl d=⟨zcj (rawS d 0 32).1,(zal (rawS d 0 32).2.1 (rawS d 0 32).2.2).1,(zal (zal (rawS d 0 32).2.1 (rawS d 0 32).2.2).2.1 (zal (rawS d 0 32).2.1 (rawS d 0 32).2.2).2.2).1⟩:=rfl
 rw[hRM]
 clear hRM
 simp only
 have hrb:=h.lt
 obtain ⟨Z,hZ⟩:∃ Z:List Value,Z=chR (List.replicate 32 0) (.slice none 0 0) 0 [] []:=⟨_,rfl⟩
 have hzv:∀ w,(zeroValue 156).run Tryz.prog w = .ok (.agg Z.toArray) w:=fun w=>by rw[hZ];exact zg1 w
 have hZl:Z.length=36:=by rw[hZ];rfl
 obtain ⟨W1,hW1,hB1,g1⟩:∃ W1,W1=w.alloc (.cells Z.toArray 156)∧Blk W1 w.heap.size 156 Z∧w.grownBy W1 none:=zag w _ _
 have ci:=zc7 W1 rb d 0 (by omega) (h.kept g1 (Or.inl rfl))
 have hl1:=zca d 0 32
 have hT32:=zbh d 0
 obtain ⟨⟨t0,l1,e1⟩,ha⟩:∃ a,a=rawS d 0 32:=⟨_,rfl⟩
 rw[← ha] at ci hl1 hT32 ⊢
 simp only at ci hl1 hT32 ⊢
 clear ha
 obtain ⟨T,hT⟩:∃ T,T=zcj t0:=⟨_,rfl⟩
 rw[← hT] at ci hT32 ⊢
 have hbt:Tryz.prog.built 156 [(0,.agg (T.map bv).toArray)]=some (chR T (.slice none 0 0) 0 [] []).toArray:=zho T hT32
 obtain ⟨TV,hTV⟩:∃ V,V=Value.agg (T.map bv).toArray:=⟨_,rfl⟩
 rw[← hTV] at ci hbt
 obtain ⟨CB,hCB⟩:∃ L,L=chR T (.slice none 0 0) 0 [] []:=⟨_,rfl⟩
 rw[← hCB] at hbt
 have hCl:CB.length=36:=by rw[hCB];exact zfs _ _ _ _ _ hT32
 have hCo:CB.toArray.all (·.oneCell')=true:=by rw[hCB];exact all_oneCell_toArray (zft _ _ _ _ _ rfl)
 obtain ⟨HW1,HB1,HG1,HZL,HBT,HCB⟩:=zh6 hW1 hB1 g1 hZl hbt hCB
 obtain ⟨HCO,HCL,HT32⟩:=zh3 hCo hCl hT32
 clear hZ hZl hW1 hB1 g1 hT hbt hTV hCB hCl hCo hT32 h
 obtain ⟨la,hla⟩:∃ l,l=l1:=⟨_,rfl⟩
 obtain ⟨ea,hea⟩:∃ e,e=e1:=⟨_,rfl⟩
 rw[← hla] at hl1
 rw[← hla,← hea] at ci ⊢
 clear hla hea
 obtain ⟨⟨nm,lb1,eb1⟩,hnm⟩:∃ a,a=zal la ea:=⟨_,rfl⟩
 have hlb:=za5 la ea
 rw[← hnm] at hlb ⊢
 simp only at hlb ⊢
 obtain ⟨⟨tx,lc1,ec1⟩,htx⟩:∃ a,a=zal lb1 eb1:=⟨_,rfl⟩
 rw[← htx]
 simp only
 obtain ⟨HNM,HTX⟩:=zh2 hnm htx
 clear hnm htx
 go_enter Tryz.func120,Tryz.ntmps120
 go_wp2_with (rw[← uh HW1])
 refine ci.mono ?_
 rintro e w2 ⟨rfl,hR2,g2⟩
 clear ci
 obtain ⟨W3,hW3,hB3,g3⟩:=zb6 w2 156 Z.toArray CB
 have G2:w.grownBy w2 (some rb):=zae (zav _ (uh HG1)) g2 (fun x e=>Or.inr e)
 have hA2:=(uh HB1).kept g2 (by simp;omega)
 have HA3:=hide (hA2.kept g3 (by simp))
 have HR3:=hide (hR2.kept g3 (Or.inl rfl))
 have HG3:=hide (tn G2 g3)
 have hps:w.heap.size<w2.heap.size:=hA2.lt
 have hp2:rb<w2.heap.size:=hR2.lt
 obtain ⟨p,hp⟩:∃ p,p=w2.heap.size:=⟨_,rfl⟩
 rw[← hp] at hB3 hps hp2 hW3
 have HB3:Hid (Blk W3 p 156 (chR T (.slice none 0 0) 0 [] [])):=by rw[← uh HCB];exact hB3
 obtain ⟨HP,HW3⟩:=zh2 hp hW3
 have hi36:(Tryz.prog.info? 156).map (·.size)=some CB.toArray.size:=by rw[show CB.toArray.size=36 by simpa using uh HCL];exact zcg
 have HI36:=hide hi36
 have hZ36:Z.toArray.size=CB.toArray.size:=by rw[show CB.toArray.size=36 by simpa using uh HCL];simpa using uh HZL
 have HZ36:=hide hZ36
 clear hW3 hB3 g3 G2 hA2 hR2 g2 hp hi36 hZ36
 go_wp2_with (first
  | (refine zbi rfl 156 _ rfl CB.toArray ?hbs ?_)
  | (refine wpList_store_row rfl 156 _ _ rfl w2.heap.size CB.toArray rfl rfl _ _ (heap_alloc_new _ _) (uh HI36) (uh HZ36) (uh HCO) ?_;rw[← uh HP,← uh HW3]))
 case hbs=>simpa using uh HBT
 obtain ⟨wa,hwa⟩:∃ V,V=W3:=⟨_,rfl⟩
 obtain ⟨TM,hTM⟩:∃ n:Nat,n=0:=⟨_,rfl⟩
 obtain ⟨PV,hPV⟩:∃ V:Value,V = .slice none 0 0:=⟨_,rfl⟩
 have hPo:PV.oneCell'=true:=by rw[hPV];rfl
 have hBa:Blk wa p 156 (chR T PV TM [] []):=by rw[hwa,hTM,hPV];exact uh HB3
 have hAa:Blk wa w.heap.size 156 Z:=by rw[hwa];exact uh HA3
 have hRa:Rd wa rb la ea:=by rw[hwa];exact uh HR3
 have Ga:w.grownBy wa (some rb):=by rw[hwa];exact uh HG3
 obtain ⟨HWA,HTM,HPV⟩:=zh3 hwa hTM hPV
 clear hwa hTM hPV HB3 HA3 HR3 HG3
 have cs1:=zct wa rb la ea (by omega) hRa
 rw[← uh HWA]
 rw[← uh HNM] at cs1
 simp only at cs1
 refine cs1.mono ?_
 rintro e wb1 ⟨v1,rfl,⟨ao1,k1,rfl,hb1,hn1⟩,hR1,g1⟩
 have hcv1:=zat hb1
 have hBb1:=hBa.kept g1 (by simp;omega)
 have hAb1:=hAa.kept g1 (by simp;omega)
 have Gb1:w.grownBy wb1 (some rb):=zae Ga g1 (fun x e=>Or.inr e)
 have hc1:=hBb1.cell 34
 rw[(zb8 _ _ _ _ _ (uh HT32)).2.2.1] at hc1
 have hf1:=hBb1.fz 34
 obtain ⟨wc1,hwc1⟩:∃ V,V=wb1.setCell ⟨p,34,none⟩ (.string (str nm)):=⟨_,rfl⟩
 have hBc1:Blk wc1 p 156 (chR T PV TM nm []):=by
  have:=hBb1.set 34 (.string (str nm))
  rw[(zci _ _ (.slice none 0 0) _ 0 _ nm _ nm (uh HT32)).2.2.1] at this
  rw[hwc1];exact this
 have hAc1:Blk wc1 w.heap.size 156 Z:=by rw[hwc1];exact hAb1.other _ _ (by simp;omega)
 have hRc1:Rd wc1 rb lb1 eb1:=by rw[hwc1];exact hR1.blk hBb1 (by decide) (by omega) 34 _
 have Gc1:w.grownBy wc1 (some rb):=by rw[hwc1];exact zab Gb1 _ _ (Or.inl (by simp;omega))
 have HWC1:=hide hwc1
 clear cs1 hb1 hn1 hR1 g1 hBb1 hAb1 Gb1 hwc1 hBa hAa Ga hRa
 have cs2:=zct wc1 rb lb1 eb1 (by omega) hRc1
 rw[← uh HTX] at cs2
 simp only at cs2
 have hBc1':=hide hBc1
 go_wp2_with (rw[← uh HWC1])
 clear hcv1 hc1 hf1
 refine cs2.mono ?_
 rintro e wb2 ⟨v2,rfl,⟨ao2,k2,rfl,hb2,hn2⟩,hR2,g2⟩
 have hcv2:=zat hb2
 have hBb2:=hBc1.kept g2 (by simp;omega)
 have hAb2:=hAc1.kept g2 (by simp;omega)
 have Gb2:w.grownBy wb2 (some rb):=zae Gc1 g2 (fun x e=>Or.inr e)
 have hc2:=hBb2.cell 35
 rw[(zb8 _ _ _ _ _ (uh HT32)).2.2.2] at hc2
 have hf2:=hBb2.fz 35
 obtain ⟨wc2,hwc2⟩:∃ V,V=wb2.setCell ⟨p,35,none⟩ (.string (str tx)):=⟨_,rfl⟩
 have hBc2:Blk wc2 p 156 (chR T PV TM nm tx):=by
  have:=hBb2.set 35 (.string (str tx))
  rw[(zci _ _ (.slice none 0 0) _ 0 _ tx _ tx (uh HT32)).2.2.2] at this
  rw[hwc2];exact this
 have hAc2:Blk wc2 w.heap.size 156 Z:=by rw[hwc2];exact hAb2.other _ _ (by simp;omega)
 have hRc2:Rd wc2 rb lc1 ec1:=by rw[hwc2];exact hR2.blk hBb2 (by decide) (by omega) 35 _
 have Gc2:w.grownBy wc2 (some rb):=by rw[hwc2];exact zab Gb2 _ _ (Or.inl (by simp;omega))
 have HWC2:=hide hwc2
 clear cs2 hb2 hn2 hR2 g2 hBb2 hAb2 Gb2 hwc2 hBc1 hAc1 Gc1 hRc1
 have hrF:=zas hBc2
 obtain ⟨FC,hFC⟩:∃ L,L=chR T PV TM nm tx:=⟨_,rfl⟩
 have hF36:FC.length=36:=by rw[hFC];exact zfs _ _ _ _ _ (uh HT32)
 have hFo:FC.toArray.all (·.oneCell')=true:=by rw[hFC];exact all_oneCell_toArray (zft _ _ _ _ _ hPo)
 rw[← hFC] at hrF
 have hiF:(Tryz.prog.info? 156).map (·.size)=some FC.length:=by rw[hF36];exact zcg
 have hiF2:(Tryz.prog.info? 156).map (·.size)=some FC.toArray.size:=by simpa using hiF
 have hZF:Z.toArray.size=FC.toArray.size:=by have:=uh HZL;simp[this,hF36]
 obtain ⟨HIF,HIF2,HZF,HFO,HFC⟩:=zh5 hiF hiF2 hZF hFo hFC
 clear hFC hF36 hFo hiF hiF2 hZF
 go_wp2_with (first
  | (rw[← uh HWC2];refine wpList_load_mid rfl 156 _ rfl p 0 rfl FC _ hrF Tryz.underlying156 rfl (uh HIF) ?_;clear hrF)
  | (refine wpList_store_row rfl 156 _ _ rfl w.heap.size FC.toArray rfl rfl _ _ hAc2 (uh HIF2) (uh HZF) (uh HFO) ?_))
 refine bodyPost_ret (results_cell_row rfl _ _ _ _ _ _ _ rfl (hAc2.row FC) Tryz.underlying156 rfl (uh HIF2)) rfl ?_
 have gF:=zar Gc2 FC.toArray (Or.inl (Nat.le_refl _))
 rw[uh HFC] at gF ⊢
 rw[uh HPV,uh HTM] at gF ⊢
 exact ⟨rfl,gF⟩
theorem zlx (l:List UInt8) (k:Int):(numS l k 8).1<18446744073709551616:=by
 have hnb:nb 8=8:=by decide
 unfold numS
 rw[hnb]
 repeat' split
 ·simp
 ·have h1:=zi3 (l.take 8)
  have h2:256 ^ (l.take 8).length≤256 ^ 8:=Nat.pow_le_pow_right (by omega) (by simp;omega)
  simp only
  omega
 ·simp
def rdC (d:List UInt8) (j:Nat):ChgL × List UInt8 × Int :=
 let t:=rawS d 0 32
 let n:=numS t.2.1 t.2.2 1
 let q:=runQ n.2 j
 let m:=numS q.2.1 q.2.2 8
 let a:=zal m.2.1 m.2.2
 let x:=zal a.2.1 a.2.2
 (⟨t.1,q.1,m.1,a.1,x.1⟩,x.2)
def rdN (d:List UInt8):Nat × List UInt8 × Int:=numS (rawS d 0 32).2.1 (rawS d 0 32).2.2 1
theorem zly (s:List UInt8 × Int) (j:Nat):(runQ s j).1.length=j:=by
 induction j with
 | zero=>rfl
 | succ j ih=>rw[runQ,zhj];simp[ih]
theorem zo1 (s:List UInt8 × Int) (j:Nat):(runQ s j).2.1.length≤s.1.length:=by
 induction j with
 | zero=>exact Nat.le_refl _
 | succ j ih =>
  rw[runQ,zhj]
  exact Nat.le_trans (zca _ _ _) ih
theorem zmy (s:List UInt8 × Int) (j:Nat):∀ x∈(runQ s j).1,x.length≤32:=by
 induction j with
 | zero=>intro e he;simp[runQ] at he
 | succ j ih =>
  intro e he
  rw[runQ,zhj] at he
  simp only[List.mem_append,List.mem_singleton] at he
  rcases he with he | rfl
  ·exact ih e he
  ·exact zfq _ _ 32
theorem zmz {s:List UInt8 × Int} {j:Nat} {ps:List (List UInt8)} {l' : List UInt8} {e' : Int} (h:runQ s j=(ps,l',e')) {y l3:List UInt8} {e3:Int} (h3:rawS l' e' 32=(y,l3,e3)):runQ s (j+1)=(ps++[y],l3,e3):=by
 rw[runQ,h,zhj]
 simp only[h3]
theorem zrd (ps:List (List UInt8)) (m:List UInt8) (h:∀ x∈ps,x.length=32):∀ k,k≤ps.length→runQ (ps.flatten++m,0) k=(ps.take k,(ps.drop k).flatten++m,0):=by
 intro k
 induction k with
 | zero=>intro _;simp[runQ]
 | succ k ih =>
  intro hk
  have h1:=ih (by omega)
  have h32:=h _ (List.getElem_mem (l:=ps) (n:=k) (by omega))
  have h3:=ze5 (ps[k]) ((ps.drop (k+1)).flatten++m) 32 h32
  rw[runQ,h1,List.drop_eq_getElem_cons (by omega),List.flatten_cons,List.append_assoc]
  unfold zhj
  simp only
  rw[show (32:Int)=((32:Nat):Int) from rfl,h3,List.take_succ_eq_append_getElem (by omega)]
theorem zo2 (s:List UInt8 × Int) (j:Nat):∀ x∈(runP s j).1,x.length=32:=by
 induction j with
 | zero=>intro e he;simp[runP] at he
 | succ j ih =>
  intro e he
  rw[runP,zjd] at he
  simp only[List.mem_append,List.mem_singleton] at he
  rcases he with he | rfl
  ·exact ih e he
  ·exact zbh _ _
theorem zre {d:List UInt8} {j:Nat} (hs:zoy (fun i=>(runQ (rdN d).2 i).2.2) (rdN d).1 j) :
  ((zb4 (rdC d j).2.1 (rdC d j).2.2=0∧zce (rdC d j).1=(0,d))↔zce (za8 d)=(0,d))∧(zce (za8 d)=(0,d)→(rdC d j).1=za8 d):=by
 have hfwd:(zb4 (rdC d j).2.1 (rdC d j).2.2=0∧zce (rdC d j).1=(0,d))→(rdC d j).1=za8 d:=by
  rintro ⟨h1,h2⟩
  obtain ⟨_,he⟩:=zil h1
  obtain ⟨_,h4,_⟩:=zlu h2
  have hq:(runQ (rdN d).2 j).2.2=0:=by
   have he' : (zal (zal (numS (runQ (rdN d).2 j).2.1 (runQ (rdN d).2 j).2.2 8).2.1 (numS (runQ (rdN d).2 j).2.1 (runQ (rdN d).2 j).2.2 8).2.2).2.1 (zal (numS (runQ (rdN d).2 j).2.1 (runQ (rdN d).2 j).2.2 8).2.1 (numS (runQ (rdN d).2 j).2.1 (runQ (rdN d).2 j).2.2 8).2.2).2.2).2.2=0:=he
   exact zkl (zdb (zdb he'))
  have hj:=zlw hs hq
  have hr:=zox hq
  have hz:(runQ (rdN d).2 0).2.2=0:=by
   by_cases h0:0<j
   ·exact hs.2.1 0 h0
   ·have:j=0:=by omega
    rw[← this];exact hq
  have hn0:(rdN d).2.2=0:=hz
  have e3:=ze8 (zkl hn0)
  have h4' : (runQ (rdN d).2 j).1.length≤4:=h4
  rw[zly] at h4'
  have hmin:min (rdN d).1 4=j:=by rw[← hj];exact Nat.min_eq_left h4'
  unfold rdC za8
  simp only[zdy _ e3]
  show (ChgL.mk _ (runQ (rdN d).2 j).1 (numS (runQ (rdN d).2 j).2.1 (runQ (rdN d).2 j).2.2 8).1 _ _)=ChgL.mk _ (runP (rdN d).2 (min (rdN d).1 4)).1 (numS (runP (rdN d).2 (min (rdN d).1 4)).2.1 (runP (rdN d).2 (min (rdN d).1 4)).2.2 8).1 _ _
  have hmin2:min (numS (rawS d 0 32).2.1 (rawS d 0 32).2.2 1).1 4=j:=hmin
  have hr2:runQ (numS (rawS d 0 32).2.1 (rawS d 0 32).2.2 1).2 j=runP (numS (rawS d 0 32).2.1 (rawS d 0 32).2.2 1).2 j:=hr
  unfold rdN
  rw[hmin2,hr2]
 have hbwd:zce (za8 d)=(0,d)→zb4 (rdC d j).2.1 (rdC d j).2.2=0∧(rdC d j).1=za8 d:=by
  intro h
  obtain ⟨hd,h4,ha,hx⟩:=zlu h
  have ht:(za8 d).tree.length=32:=by unfold za8;exact zbh _ _
  have hp:∀ x∈(za8 d).pars,x.length=32:=by unfold za8;exact zo2 _ _
  have htm:(za8 d).time<18446744073709551616:=by unfold za8;exact zlx _ _
  obtain ⟨c,hc⟩:∃ c,c=za8 d:=⟨_,rfl⟩
  rw[← hc] at hd h4 ha hx ht hp htm ⊢
  obtain ⟨tree,pars,time,author,text⟩:=c
  simp only at hd h4 ha hx ht hp htm
  have e1:d=tree++(lb pars.length 1++(pars.flatten++(lb time 8++(layS author++(layS text++[]))))):=by rw[hd];simp[chgB]
  have h1:=ze5 tree (lb pars.length 1++(pars.flatten++(lb time 8++(layS author++(layS text++[]))))) 32 ht
  have h2:=ze6 pars.length (by omega) (pars.flatten++(lb time 8++(layS author++(layS text++[]))))
  have h4b:=zoo time htm (layS author++(layS text++[]))
  have h5:=zco author (layS text++[]) (by omega)
  have h6:=zco text [] (by omega)
  rw[← e1,show ((32:Nat):Int)=32 from rfl] at h1
  have hN:rdN d=(pars.length,pars.flatten++(lb time 8++(layS author++(layS text++[]))),0):=by
   unfold rdN
   rw[h1]
   exact h2
  rw[hN] at hs
  simp only at hs
  have hrun:=zrd pars (lb time 8++(layS author++(layS text++[]))) hp
  have hj:j=pars.length:=by
   rcases hs.2.2 with h7 | h7
   ·exact h7
   ·have:=hrun j hs.1
    have h8:(runQ (pars.flatten++(lb time 8++(layS author++(layS text++[]))),0) j).2.2=0:=by rw[this]
    exact absurd h8 h7
  have hrj:=hrun pars.length (Nat.le_refl _)
  rw[List.take_of_length_le (Nat.le_refl _),List.drop_of_length_le (Nat.le_refl _),List.flatten_nil,List.nil_append] at hrj
  have hr:rdC d j=(⟨tree,pars,time,author,text⟩,[],0):=by
   unfold rdC
   simp only[h1,h2,hj,hrj,h4b,h5,h6]
  rw[hr]
  exact ⟨rfl,rfl⟩
 exact ⟨⟨fun h=>by rw[← hfwd h];exact h.2,fun h=>⟨(hbwd h).1,by rw[(hbwd h).2];exact h⟩⟩,fun h=>(hbwd h).2⟩
end Go.Proofs.YtegbbkgmiklhcaaGreatDoor
