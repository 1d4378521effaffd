/- Lemmas. -/
import Derived.Test.YtoilcpdhhlcidaaGreatDoorDkR
import Derived.Deep.DeepCutAuto
import Derived.Deep.CutBlock
import Derived.Shelf.Abstract
namespace Go.Proofs.YtoilcpdhhlcidaaGreatDoor
open Go.RowKit
set_option maxRecDepth 100000
def NewT (w w' : World) (v:Value) (x:List UInt8):Prop:=∃ ao c,v = .slice ao x.length c∧Bts w' ao c x∧∀ ad,ao=some ad→w.heap.size≤ad.block
theorem NewT.nil (w w' : World):NewT w w' (.slice none 0 0) []:=⟨none,0,rfl,Bts.nil _,fun _ e=>by cases e⟩
theorem zfr (b:Nat) (W:World):(Instr.sliceAt 95 (.pointer (some ⟨b,0,none⟩)) none none none).run Tryz.prog W = .ok (.slice (some ⟨b,0,none⟩) 256 256) W:=by
 have ea:Tryz.prog.arrayLen 95=256:=by simp[Program.arrayLen,Tryz.underlying95]
 have ee:Tryz.prog.elem 95=5:=by simp[Program.elem,Tryz.underlying95]
 rw[run_sliceAt_array_all W 95 ⟨b,0,none⟩ (by rw[ea,ee];exact Tryz.underlying95),ea,ee,zav]
 simp only[Result.andThen_ok,slicedAt,Nat.zero_mul,Nat.sub_zero]
 rw[if_neg (by omega),Addr.add_mid]
set_option maxHeartbeats 2000000 in
theorem zpx (w:World) (d s n c:Nat) (h1:w.cell? ⟨d,0,none⟩=some (.slice (some ⟨s,0,none⟩) n c)) (i:Int) (hi:¬ (0≤i∧i<(n:Int))) (g:Value) :
  Calls Tryz.prog 51 #[.pointer (some ⟨d,0,none⟩),.int .i64 i,g] w fun e w'=>e = .returned (.tuple #[.slice none 0 0,.int .i64 2])∧w'=w:=by
 have ch:=zgx w d s n c h1 i
 rw[decide_eq_false hi] at ch
 clear hi h1
 go_enter Tryz.func51,Tryz.ntmps51
 go_wp2_with (go_at_call 70;refine ch.mono ?_;rintro e w2 ⟨rfl,e2⟩;subst w2;clear ch)
 go_ret2
 exact ⟨rfl,rfl⟩
set_option maxHeartbeats 2000000 in
theorem zph (w:World) (d s n c:Nat) (h1:w.cell? ⟨d,0,none⟩=some (.slice (some ⟨s,0,none⟩) n c)) (i:Nat) (hi:i<n) (g:Nat) (T:List UInt8) (hT:T.length=256)
  (eg:∀ args w,(callFunc g args).run Tryz.prog w = .ok (.enter g args) w) (cg:Calls Tryz.prog g #[.pointer (some ⟨d,0,none⟩),.int .i64 (i:Int)] w fun e w'=>e = .returned (.agg (secC T).toArray)∧w.grownBy w' none) :
  Calls Tryz.prog 51 #[.pointer (some ⟨d,0,none⟩),.int .i64 (i:Int),.func (.func g) #[] #[]] w fun e w'=>∃ v,e = .returned (.tuple #[v,.int .i64 0])∧NewT w w' v T∧w.grownBy w' none:=by
 have ch:=zgx w d s n c h1 i
 rw[decide_eq_true (show 0≤(i:Int)∧(i:Int)<(n:Int) by omega)] at ch
 obtain ⟨Z,hZ,hzv⟩:=zdv
 obtain ⟨EB,hEB⟩:∃ EB,EB=secC T:=⟨_,rfl⟩
 have hEl:EB.length=256:=by rw[hEB,zbj,hT]
 have hEo:EB.toArray.all (·.oneCell')=true:=by rw[hEB];exact all_oneCell_toArray (zey _)
 have hiE2:(Tryz.prog.info? 95).map (·.size)=some EB.toArray.size:=by rw[List.size_toArray,hEl];exact zcv
 have hZE:Z.toList.toArray.size=EB.toArray.size:=by simp[hZ,hEl]
 rw[← hEB] at cg
 obtain ⟨HIE2,HZE,HEO,HEB⟩:=zh4 hiE2 hZE hEo hEB
 have hss:=zfr
 clear hiE2 hZE hEo hEB hEl hZ h1 hi
 go_enter Tryz.func51,Tryz.ntmps51
 go_upto_region 3 with (go_at_call 70;refine ch.mono ?_;rintro e w2 ⟨rfl,e2⟩;subst w2;clear ch)
 go_wp2_with fail
 refine cg.mono ?_
 rintro e w2 ⟨rfl,g2⟩
 clear cg
 obtain ⟨W5,hW5,hB5,g5⟩:=zbt w2 95 Z EB
 have hBZ:Blk (w2.alloc (.cells Z 95)) w2.heap.size 95 Z.toList:=by simpa using Blk.new w2 95 Z.toList
 have hfin:NewT w W5 (.slice (some ⟨w2.heap.size,0,none⟩) 256 256) T:=by
  refine ⟨_,_,by rw[hT],?_,fun ad e=>by cases e;exact g2.size⟩
  have:=zbn (zan (by rw[uh HEB] at hB5;exact hB5)) (by unfold maxLen;omega)
  rw[hT] at this
  exact this
 have HF:=hide hfin
 have HG:=hide (tn g2 g5)
 obtain ⟨HBZ,HW5⟩:=zh2 hBZ hW5
 clear hfin hBZ hW5 hB5 g5 g2 HEB hT
 go_wp2_with (have hB9:=uh HBZ;refine wpList_store_row rfl 95 _ _ rfl w2.heap.size EB.toArray rfl rfl _ _ hB9 (uh HIE2) (uh HZE) (uh HEO) ?_;clear hB9;rw[← uh HW5])
 go_ret2
 exact ⟨_,rfl,uh HF,uh HG⟩
theorem zks:∀ args w,(callFunc 52 args).run Tryz.prog w = .ok (.enter 52 args) w:=fun args w=>by exact enters_of Tryz.func52 (by kernel_rfl) rfl args w
def zqa (w w' : World) (e:Ending) (r:List UInt8 × Int):Prop:=∃ v,e = .returned (.tuple #[v,.int .i64 r.2])∧NewT w w' v r.1
set_option maxHeartbeats 2000000 in
theorem zmt (u:Nat) (w:World) (F:List Nat) (d:Nat) (D:Dsk) (h:za0 u w F d D) (i:Int) (hU:D.U.length≤1000000) :
  Calls Tryz.prog 27 #[.pointer (some ⟨d,0,none⟩),.int .i64 i] w fun e w'=>zqa w w' e (rdD D i)∧w.grownBy w' none:=by
 obtain ⟨s,c,m,X,ov,K,h⟩:=h
 have c1:=zct u w F d s c m X ov K D h
 by_cases hd:D.down=true
 ·have e1:rdD D i=([],17):=by unfold rdD;rw[if_pos hd]
  rw[e1]
  rw[if_pos hd] at c1
  clear hd e1 h
  go_enter Tryz.func27,Tryz.ntmps27
  go_wp2_with (go_at_call 50;refine c1.mono ?_;rintro e w2 ⟨rfl,e2⟩;subst w2;clear c1)
  go_ret2
  exact ⟨⟨_,rfl,NewT.nil _ _⟩,zab _ _⟩
 ·rw[if_neg hd] at c1
  by_cases hi:hasD D i=true
  ·obtain ⟨h2,h3⟩:=zgr hi
   have e1:rdD D i=(zgq D i.toNat,0):=by unfold rdD;rw[if_neg hd,if_pos hi]
   rw[e1]
   obtain ⟨j,hj⟩:∃ j,j=i.toNat:=⟨_,rfl⟩
   rw[← hj] at h2 h3 ⊢
   subst h3
   have ca:=zph w d s _ c h.c0 j h2 52 _ (zhk h.ok h2) zks (zlr u w F d s c m X ov K D h j h2 hU)
   clear hi e1 hj h h2 hd
   go_enter Tryz.func27,Tryz.ntmps27
   go_upto_region 4 with (go_at_call 50;refine c1.mono ?_;rintro e w2 ⟨rfl,e2⟩;subst w2;clear c1)
   go_wp2_with fail
   refine ca.mono ?_
   rintro e w2 ⟨v,rfl,hv,g2⟩
   clear ca
   go_wp2
   go_ret2
   exact ⟨⟨v,rfl,hv⟩,g2⟩
  ·have e1:rdD D i=([],2):=by unfold rdD;rw[if_neg hd,if_neg hi]
   rw[e1]
   rw[zdp] at hi
   have ca:=zpx w d s _ c h.c0 i hi (.func (.func 52) #[] #[])
   clear hi e1 h hd
   go_enter Tryz.func27,Tryz.ntmps27
   go_upto_region 4 with (go_at_call 50;refine c1.mono ?_;rintro e w2 ⟨rfl,e2⟩;subst w2;clear c1)
   go_wp2_with fail
   refine ca.mono ?_
   rintro e w2 ⟨rfl,e2⟩
   subst w2
   clear ca
   go_wp2
   go_ret2
   exact ⟨⟨_,rfl,NewT.nil _ _⟩,zab _ _⟩
end Go.Proofs.YtoilcpdhhlcidaaGreatDoor
