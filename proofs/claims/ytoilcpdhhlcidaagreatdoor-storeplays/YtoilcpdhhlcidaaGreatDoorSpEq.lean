/- Lemmas. -/
import Derived.Test.YtoilcpdhhlcidaaGreatDoorSpW
import Derived.Laws.AppendOwnNone
import Derived.Shelf.SlMaps.Clone
import Derived.Shelf.Strings.Prefix
namespace Go.Proofs.YtoilcpdhhlcidaaGreatDoor
open Go.RowKit Go.Shelf
set_option maxRecDepth 100000
theorem zrk (ad:Addr) (n c:Nat) (W:World):(binOp .eql 53 (.slice (some ad) n c) (.slice none 0 0)).run Tryz.prog W = .ok (.bool false) W:=by kernel_rfl
theorem zrl (W:World):(binOp .eql 53 (.slice none 0 0) (.slice none 0 0)).run Tryz.prog W = .ok (.bool true) W:=by kernel_rfl
theorem zgf (w:World) (ao:Option Addr) (c:Nat) (l:List UInt8) (hb:Bts w ao c l) (hl:l.length≤1000000) :
  Calls Tryz.prog 47 #[.slice ao l.length c] w fun e w'=>∃ v,e = .returned v∧w'.ownsRow w.heap.size 5 1 v l.length (l.map bv)∧w.grownBy w' none:=by
 cases ao with
 | none =>
   obtain ⟨h1,h2⟩:=hb.zip rfl
   have:l=[]:=List.eq_nil_of_length_eq_zero h1
   subst this
   subst h2
   have hne:=zrl
   clear hb h1 hl
   rw[List.length_nil]
   go_enter Tryz.func47,Tryz.ntmps47
   go_wp2
   go_ret
   exact ⟨_,rfl,World.ownsRow_nil _ _ _ _,zac _ _⟩
 | some ad =>
   obtain ⟨W1,hW1,ho1,g1⟩:=zqx w w.heap.size (Nat.le_refl _)
   have hb1:=hb.kept g1 (fun _ e=>by cases e)
   obtain ⟨n,hn⟩:∃ n,n=l.length:=⟨_,rfl⟩
   have hne:=zrk ad n c
   obtain ⟨HN,HW1⟩:=zh2 hn hW1
   rw[← hn] at hl ⊢
   clear hn hW1 hb
   go_enter Tryz.func47,Tryz.ntmps47
   go_wp2_with (rw[← uh HW1];refine zbh rfl _ _ rfl w.heap.size _ _ _ rfl ho1 _ _ l hb1 n (uh HN) rfl (by omega) g1.size ?_;intro v5 w5 ho5 g5;have G5:=hide (zed g1 ho1 g5);have HO5:=hide ho5;clear g5 ho5 ho1 hb1)
   go_ret
   exact ⟨_,rfl,by simpa using uh HO5,uh G5⟩
theorem zg6 (w:World) (ao bo:Option Addr) (c d:Nat) (l x:List UInt8) (hb:Bts w ao c l) (hx:Bts w bo d x) :
  Calls Tryz.prog 75 #[.slice ao l.length c,.slice bo x.length d] w fun e w'=>e = .returned (.bool (decide (l=x)))∧w'=w:=by
 have c1:=zb7 hb
 have c2:=zb7 hx
 obtain ⟨A,hA⟩:∃ A,A=str l:=⟨_,rfl⟩
 obtain ⟨B,hB⟩:∃ A,A=str x:=⟨_,rfl⟩
 obtain ⟨n,hn⟩:∃ n,n=l.length:=⟨_,rfl⟩
 obtain ⟨m,hm⟩:∃ n,n=x.length:=⟨_,rfl⟩
 rw[← hA,← hn] at c1
 rw[← hB,← hm] at c2
 rw[← hn,← hm]
 have hE:A.toList=l:=by rw[hA,zbt]
 have hF:B.toList=x:=by rw[hB,zbt]
 clear hA hB hn hm hb hx
 by_cases h:l=x
 ·have hT:decide (l=x)=true:=decide_eq_true h
  rw[hT]
  subst h
  go_enter Tryz.func75,Tryz.ntmps75
  go_wp2
  go_ret
  exact ⟨rfl,rfl⟩
 ·have hT:decide (l=x)=false:=decide_eq_false h
  have hT2:(l == x)=false:=by simpa using h
  rw[hT]
  go_enter Tryz.func75,Tryz.ntmps75
  go_wp2
  go_ret
  exact ⟨rfl,rfl⟩
theorem SmapAt.clone {w:World} {m:Nat} {K:List (List UInt8 × Value)} (h:SmapAt w m K):∃ A clock,w.heap[m]? = some (.map A clock)∧SmapAt (w.alloc (.map A clock)) w.heap.size K:=by
 obtain ⟨A,c,h1,h2,h3,h4⟩:=h.is
 exact ⟨A,c,h1,⟨⟨A,c,heap_alloc_new w _,h2,h3,h4⟩,h.once⟩⟩
set_option maxHeartbeats 2000000 in
theorem zl2 (w:World) (b:Nat) (es:Array MapEntry) (clock:Nat) (hb:w.heap[b]? = some (.map es clock)) :
  Calls Tryz.prog 85 #[.map (some b)] w fun e w'=>e = .returned (.map (some w.heap.size))∧w'=w.alloc (.map es clock):=by
 have hq:=fun w=>run_eql_map_nil_sl (P:=Tryz.prog) w 67 _ _ (some b) Tryz.underlying67
 go_enter Tryz.func85,Tryz.ntmps85
 go_wp2
 rw[run_callFunc_extern Tryz.func102 (by kernel_rfl) (by kernel_rfl) (by kernel_rfl) (e:=Extern.MapsClone.clone) (by kernel_rfl),run_maps_clone_sl w 67 hb]
 simp only[Result.andThen]
 rw[Oper.upon_value]
 go_wp2
 rw[run_typeAssert_map_sl _ 67 20 _ _ _ Tryz.underlying67]
 simp only[Result.andThen]
 rw[Oper.upon_value]
 go_wp2
 go_ret
 exact ⟨rfl,rfl⟩
theorem VmW.clone {w:World} {m:Nat} {G:List Nat} {V:List (List UInt8 × List UInt8)} (h:VmW w m G V):∃ A clock,w.heap[m]? = some (.map A clock)∧VmW (w.alloc (.map A clock)) w.heap.size G V:=by
 obtain ⟨h0,K,h1,h2,h3⟩:=h
 obtain ⟨A,clock,q1,q2⟩:=h1.clone
 refine ⟨A,clock,q1,h0,K,q2,fun p hp => ?_,h3⟩
 obtain ⟨ao,c,x,e,hb,hv,hg⟩:=h2 p hp
 exact ⟨ao,c,x,e,hb.kept (zaf (zac w none) _) (fun _ e=>by cases e),hv,hg⟩
def preS:Ren :=
 ⟨fun n=>if n=99 then 42 else if n=206 then 67 else n,
  fun n=>if n=3 then 3 else if n=4 then 4 else if n=9 then 9 else n,
  fun n=>n⟩
theorem zr8:Lays.n99 Tryz.prog preS:=by constructor <;> (intros;kernel_rfl)
theorem zl3 (w:World) (s p:List UInt8):Calls Tryz.prog 42 #[.string (str s),.string (str p)] w fun e w'=>e = .returned (.bool (Lib.hasPrefix s p))∧w'=w :=
 Any.strings_HasPrefix zr8 (str s) (str p) w
end Go.Proofs.YtoilcpdhhlcidaaGreatDoor

/- Lemmas. -/
namespace Go.Proofs.YtoilcpdhhlcidaaGreatDoor
open Go.RowKit
set_option maxRecDepth 100000
set_option maxHeartbeats 2000000 in
theorem zl4 (w:World) (ao bo:Option Addr) (ac bc:Nat) (A B:List (List UInt8)) (hA:Lst w ao ac A) (hB:Lst w bo bc B) (hl:A.length≤1000000) :
  Calls Tryz.prog 73 #[.slice ao A.length ac,.slice bo B.length bc,.func (.func 75) #[] #[]] w fun e w'=>e = .returned (.bool (decide (A=B)))∧w'=w:=by
 obtain ⟨n,hn⟩:∃ n,n=A.length:=⟨_,rfl⟩
 obtain ⟨m,hm⟩:∃ n,n=B.length:=⟨_,rfl⟩
 rw[← hn,← hm]
 by_cases hnm:n=m
 case neg =>
  have e:decide (A=B)=false:=decide_eq_false (fun e=>hnm (by rw[hn,hm,e]))
  rw[e]
  have h1:¬ (n:Int)=(m:Int):=by omega
  have h1b:((n:Int) == (m:Int))=false:=beq_eq_false_iff_ne.2 h1
  clear hn hm hA hB e
  go_enter Tryz.func73,Tryz.ntmps73
  go_wp2
  go_ret
  exact ⟨rfl,rfl⟩
 subst hnm
 obtain ⟨HN,HM,HA,HB⟩:=zh4 hn hm hA hB
 obtain ⟨y,hy⟩:∃ y,y=decide (A=B):=⟨_,rfl⟩
 rw[← hy]
 have HY:=hide hy
 have hn1:n≤1000000:=by omega
 clear hn hm hA hB hy hl
 go_enter Tryz.func73,Tryz.ntmps73
 go_wp2
 go_loopw [17] (fun i wr=>∃ j:Nat,i = .int .i64 j∧j≤n∧wr=w∧Hid (A.take j=B.take j)) (fun i _=>n - (intOf i).toNat)
 case atStart=>exact ⟨0,rfl,Nat.zero_le _,rfl,by simp[Hid]⟩
 case round =>
  obtain ⟨j,rfl,hj,rfl,HJ⟩:=hrel
  by_cases hlt:j<n
  ·have hja:j<A.length:=by rw[← uh HN];exact hlt
   have hjb:j<B.length:=by rw[← uh HM];exact hlt
   obtain ⟨ad,rfl⟩:∃ ad,ao=some ad:=by
    cases ao with
    | none=>have:=((uh HA).zip rfl).1;omega
    | some ad=>exact ⟨ad,rfl⟩
   obtain ⟨bd,rfl⟩:∃ ad,bo=some ad:=by
    cases bo with
    | none=>have:=((uh HB).zip rfl).1;omega
    | some ad=>exact ⟨ad,rfl⟩
   obtain ⟨ai,ci,hca,hba⟩:=(uh HA).cell ad rfl j hja
   obtain ⟨bi,di,hcb,hbb⟩:=(uh HB).cell bd rfl j hjb
   have hsa:=(uh HA).shape ad rfl (by omega)
   have hsb:=(uh HB).shape bd rfl (by omega)
   obtain ⟨a1,a2,a3⟩:=ad
   obtain ⟨b1,b2,b3⟩:=bd
   simp only at hsa hsb hca hcb
   subst hsa hsb
   obtain ⟨x,hx⟩:∃ x,x=A[j]:=⟨_,rfl⟩
   obtain ⟨z,hz⟩:∃ x,x=B[j]:=⟨_,rfl⟩
   rw[← hx] at hca hba
   rw[← hz] at hcb hbb
   have ce:=zg6 wr ai bi ci di x z hba hbb
   obtain ⟨lx,hlx⟩:∃ k,k=x.length:=⟨_,rfl⟩
   obtain ⟨lz,hlz⟩:∃ k,k=z.length:=⟨_,rfl⟩
   rw[← hlx] at hca ce
   rw[← hlz] at hcb ce
   have hjw:IntKind.i64.wrap ((j:Int)+1)=(j:Int)+1:=by rw[IntKind.wrap_i64];omega
   have hji:(j:Int)<(n:Int):=by omega
   have hta:=List.take_succ_eq_append_getElem hja
   have htb:=List.take_succ_eq_append_getElem hjb
   rw[← hx] at hta
   rw[← hz] at htb
   by_cases he:x=z
   ·rw[decide_eq_true he] at ce
    have HJ1:=hide (show A.take (j+1)=B.take (j+1) by rw[hta,htb,uh HJ,he])
    clear hx hz hba hbb hlx hlz hta htb he hja hjb
    go_wp2_with (go_at_call 75;refine ce.mono ?_;rintro e w4 ⟨rfl,e4⟩;subst w4;clear ce)
    go_roundw
    case rel=>exact ⟨j+1,by go_num,by omega,trivial,HJ1⟩
    case measure=>simp[intOf];omega
   ·rw[decide_eq_false he] at ce
    have hyf:y=false:=by
     rw[uh HY]
     refine decide_eq_false (fun e=>he ?_)
     subst e
     rw[hx,hz]
    subst hyf
    clear hx hz hba hbb hlx hlz hta htb he hja hjb
    go_wp2_with (go_at_call 75;refine ce.mono ?_;rintro e w4 ⟨rfl,e4⟩;subst w4;clear ce)
    go_ret
    exact ⟨rfl,rfl⟩
  ·have hji:¬ (j:Int)<(n:Int):=by omega
   have hyt:y=true:=by
    rw[uh HY]
    refine decide_eq_true ?_
    have:=uh HJ
    rw[List.take_of_length_le (by rw[← uh HN];omega),List.take_of_length_le (by rw[← uh HM];omega)] at this
    exact this
   subst hyt
   go_wp2
   go_ret
   exact ⟨rfl,rfl⟩
end Go.Proofs.YtoilcpdhhlcidaaGreatDoor
