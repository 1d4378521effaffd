/- Lemmas. -/
import Derived.Test.YthhnfloohbdaiaaGreatDoorGReach
import Derived.Shelf.SlMaps.Clone
namespace Go.Proofs.YthhnfloohbdaiaaGreatDoor
open Go.RowKit
set_option maxRecDepth 100000
theorem MapAt.clone {w:World} {m:Nat} {K:List (List UInt8 × Value)} (h:MapAt w m K):∃ A clock,w.heap[m]? = some (.map A clock)∧MapAt (w.alloc (.map A clock)) w.heap.size K:=by
 obtain ⟨A,c,h1,h2,h3,h4⟩:=h.is
 exact ⟨A,c,h1,⟨⟨A,c,heap_alloc_new w _,h2,h3,h4⟩,h.once,h.wide⟩⟩
set_option maxHeartbeats 2000000 in
theorem zqe (w:World) (b:Nat) (es:Array MapEntry) (clock:Nat) (hb:w.heap[b]? = some (.map es clock)) :
  Calls Tryz.prog 38 #[.map (some b)] w fun e w'=>e = .returned (.map (some w.heap.size))∧w'=w.alloc (.map es clock):=by
 have hq:=fun w=>run_eql_map_nil_sl (P:=Tryz.prog) w 85 _ _ (some b) Tryz.underlying85
 go_enter Tryz.func38,Tryz.ntmps38
 go_wp2
 rw[run_callFunc_extern Tryz.func70 (by kernel_rfl) (by kernel_rfl) (by kernel_rfl) (e:=Extern.MapsClone.clone) (by kernel_rfl),run_maps_clone_sl w 85 hb]
 simp only[Result.andThen]
 rw[Oper.upon_value]
 go_wp2
 rw[run_typeAssert_map_sl _ 85 20 _ _ _ Tryz.underlying85]
 simp only[Result.andThen]
 rw[Oper.upon_value]
 go_wp2
 go_ret
 exact ⟨rfl,rfl⟩
set_option maxHeartbeats 2000000 in
theorem zqf (u w:World) (sb mb:Nat) (S:List ObE) (h:SetAt u w sb mb S) :
  Calls Tryz.prog 10 #[.pointer (some ⟨sb,0,none⟩)] w fun e w'=>∃ sb' mb',e = .returned (.pointer (some ⟨sb',0,none⟩))∧SetAt w w' sb' mb' S∧w.grownBy w' none:=by
 have hc0:w.cell? ⟨sb,0,none⟩=some (.map (some mb)):=by rw[h.blk.cell];rfl
 have c1:=zfe w sb mb hc0
 obtain ⟨R,m1,m2,m3⟩:=h.map
 obtain ⟨A,clock,hA,hM⟩:=m1.clone
 have cm:=zqe w mb A clock hA
 obtain ⟨W1,hW1⟩:∃ W1,W1=w.alloc (.map A clock):=⟨_,rfl⟩
 rw[← hW1] at cm hM
 have g1:w.grownBy W1 none:=by rw[hW1];exact zah (zab _ _) _
 have hs1:W1.heap.size=w.heap.size+1:=by rw[hW1,World.size_alloc]
 have g2:W1.grownBy (W1.alloc (.cells #[.map (some w.heap.size)] 88)) none:=zah (zab _ _) _
 have hfin:SetAt w (W1.alloc (.cells #[.map (some w.heap.size)] 88)) (w.heap.size+1) w.heap.size S:=by
  refine ⟨by omega,Nat.le_refl _,?_,⟨R,hM.none g2,m2,fun r hr=>(m3 r hr).none (tn g1 g2)⟩,h.ok⟩
  have:=Blk.new W1 88 [.map (some w.heap.size)]
  rw[hs1] at this
  exact this
 have hg2:=tn g1 g2
 have hb:=zlo w.heap.size
 obtain ⟨HB,HF⟩:=zh2 hb hfin
 clear hb hfin hM g1 g2 m1 m2 m3 hA h hW1
 go_enter Tryz.func10,Tryz.ntmps10
 go_wp2_with (first
  | (go_at_call 37;refine c1.mono ?_;rintro e w2 ⟨rfl,e2⟩;subst w2;clear c1)
  | (go_at_call 38;refine cm.mono ?_;rintro e w2 ⟨rfl,e2⟩;subst w2;clear cm)
  | (refine zay rfl 88 _ rfl #[.map (some w.heap.size)] ?hb ?_))
 case hb=>exact uh HB
 go_ret
 exact ⟨_,_,rfl,uh HF,hg2⟩
end Go.Proofs.YthhnfloohbdaiaaGreatDoor
