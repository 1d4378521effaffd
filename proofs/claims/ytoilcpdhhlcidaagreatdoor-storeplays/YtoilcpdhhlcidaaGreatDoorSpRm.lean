/- Lemmas. -/
import Derived.Test.YtoilcpdhhlcidaaGreatDoorMMsk
import Derived.Test.YtoilcpdhhlcidaaGreatDoorSpD
import Derived.Deep.MidRow
namespace Go.Proofs.YtoilcpdhhlcidaaGreatDoor
open Go.RowKit
def zi8 (b:List UInt8) (k:Nat):List UInt8:=(List.range k).flatMap fun i=>(secB b i).drop 1
theorem zg4 (b:List UInt8) (k:Nat):zi8 b (k+1)=zi8 b k++(secB b k).drop 1:=by unfold zi8;rw[List.range_succ,List.flatMap_append];simp
theorem zk6 (b:List UInt8):∀ k,zi8 b k=b.take (255*k)++List.replicate (255*k - (b.take (255*k)).length) 0
 | 0=>by simp[zi8]
 | k+1=>by
   rw[zg4,zk6 b k]
   have e:(secB b k).drop 1=(b.drop (255*k)).take 255++List.replicate (255 - ((b.drop (255*k)).take 255).length) 0:=rfl
   rw[e,show 255*(k+1)=255*k+255 by omega,List.take_add]
   simp only[List.length_append,List.length_take,List.length_drop]
   by_cases h:255*k≤b.length
   ·rw[Nat.min_eq_left h,Nat.sub_self]
    simp only[List.replicate_zero,List.append_nil,List.append_assoc]
    congr 3
    omega
   ·have h0:(b.drop (255*k)).take 255=[]:=by rw[List.drop_of_length_le (by omega)];rfl
    rw[h0,Nat.min_eq_right (by omega)]
    simp only[List.nil_append,List.append_nil,List.append_assoc,List.replicate_append_replicate]
    congr 2
    omega
theorem zny (b:List UInt8):zi8 b (secN b.length)=b++List.replicate (255*secN b.length - b.length) 0:=by
 have hn:b.length≤255*secN b.length:=by unfold secN;omega
 rw[zk6,List.take_of_length_le hn]
theorem zl1 (b:List UInt8):(zi8 b (secN b.length)).take b.length=b:=by
 rw[zny]
 exact List.take_left' rfl
theorem zqs (n:Nat):∀ v,v<256 ^ n→be (lbS v n)=v:=by
 induction n with
 | zero=>intro v h;simp at h;subst h;rfl
 | succ n ih =>
   intro v h
   have split:lbS v (n+1)=lbS (v / 256) n++[UInt8.ofNat v]:=by
    unfold lbS
    rw[List.range_succ,List.map_append]
    congr 1
    ·apply List.map_congr_left
     intro i hi
     have hi:=List.mem_range.1 hi
     rw[show n+1 - 1 - i=(n - 1 - i)+1 by omega,Nat.pow_succ,Nat.mul_comm,← Nat.div_div_eq_div_mul]
    ·simp
   rw[split,zjq,ih (v / 256) (by rw[Nat.pow_succ] at h;exact Nat.div_lt_of_lt_mul (by omega))]
   simp
   omega
theorem zem (v n:Nat) (hn:n≤8) (h:v<256 ^ n) (r:List UInt8):numS (lbS v n++r) 0 (n:Int)=(v,r,0):=by
 have hnb:nb (n:Int)=n:=by unfold nb;omega
 unfold numS
 rw[if_pos rfl,hnb,if_neg (by rw[List.length_append,zaw];omega),List.take_left' (zaw v n),List.drop_left' (zaw v n),zqs n v h]
theorem zg5 (x r:List UInt8) (hx:x.length≤65536):zba (sizS x++r) 0=(x,r,0):=by
 have e1:(sizS x++r).take 4=lbS x.length 4:=by
  unfold sizS
  rw[List.append_assoc,List.take_left' (zaw _ _)]
 have e2:(sizS x++r).drop 4=x++r:=by
  unfold sizS
  rw[List.append_assoc,List.drop_left' (zaw _ _)]
 have e3:be (lbS x.length 4)=x.length:=zqs 4 _ (by omega)
 unfold zba
 rw[if_pos rfl,e1,e2,e3,if_neg (by unfold sizS;simp[zaw]),if_neg (by omega),if_neg (by unfold sizS;simp only[List.length_append,zaw];omega),List.take_left' rfl,List.drop_left' rfl]
def rdCh (l:List UInt8) (e:Int):(Nat × List UInt8 × List UInt8) × List UInt8 × Int :=
 let a:=numS l e 1
 let k:=zba a.2.1 a.2.2
 let v:=zba k.2.1 k.2.2
 ((a.1,k.1,v.1),v.2.1,v.2.2)
def zb0:Nat→List UInt8→Int→List (Nat × List UInt8 × List UInt8) × List UInt8 × Int
 | 0,l,e=>([],l,e)
 | n+1,l,e=>let a:=rdCh l e;let b:=zb0 n a.2.1 a.2.2;(a.1::b.1,b.2.1,b.2.2)
def znz (c:Chg):Nat × List UInt8 × List UInt8:=(if c.gone then 1 else 0,c.key,c.norm.value)
theorem zpz {c:Chg} (h:c.Ok) (r:List UInt8):rdCh (chB c++r) 0=(znz c,r,0):=by
 have e:chB c++r=lbS (if c.gone then 1 else 0) 1++(sizS c.key++(sizS c.norm.value++r)):=by
  unfold chB
  rw[List.cons_append,List.append_assoc]
  cases c.gone <;> rfl
 have e1:=zem (if c.gone then 1 else 0) 1 (by decide) (by cases c.gone <;> decide) (sizS c.key++(sizS c.norm.value++r))
 rw[← e] at e1
 have e2:=zg5 c.key (sizS c.norm.value++r) (by have:=h.key2;omega)
 have e3:=zg5 c.norm.value r (Chg.norm_val h)
 unfold rdCh znz
 simp only
 rw[show ((1:Nat):Int)=1 from rfl] at e1
 rw[e1]
 simp only
 rw[e2]
 simp only
 rw[e3]
theorem zi9:∀ {l:List Chg},(∀ c∈l,c.Ok)→∀ r,zb0 l.length (l.flatMap chB++r) 0=(l.map znz,r,0)
 | [],_,_=>rfl
 | c::l,h,r=>by
   rw[List.length_cons,zb0,List.flatMap_cons,List.append_assoc,zpz (h c (by simp))]
   simp only
   rw[zi9 (fun x hx=>h x (by simp[hx])) r]
   rfl
theorem zr7 {l:List Chg} (h:MayC l):numS (recB l) 0 2=(l.length,l.flatMap chB,0)∧zb0 l.length (l.flatMap chB) 0=(l.map znz,[],0):=by
 refine ⟨?_,?_⟩
 ·have:=zem l.length 2 (by decide) (by have:=h.1;omega) (l.flatMap chB)
  exact this
 ·have:=zi9 h.2 []
  rwa [List.append_nil] at this
def rdMk (l:List UInt8):Nat × Nat × Nat :=
 let a:=rawS l 0 4
 let g:=numS a.2.1 a.2.2 8
 let n:=numS g.2.1 g.2.2 8
 (g.1,n.1,(numS n.2.1 n.2.2 4).1)
theorem zhy (l:List UInt8) (e:Int) (k:Nat) (hk:k≤8):(numS l e (k:Int)).1<256 ^ k:=by
 unfold numS
 have hnb:nb (k:Int)=k:=by unfold nb;omega
 split
 ·split
  ·exact Nat.pow_pos (by decide)
  ·rw[hnb]
   have h1:=zr1 (l.take k)
   exact Nat.lt_of_lt_of_le h1 (Nat.pow_le_pow_right (by decide) (by simp;omega))
 ·exact Nat.pow_pos (by decide)
theorem zjx (l:List UInt8):(rdMk l).1<18446744073709551616∧(rdMk l).2.1<18446744073709551616∧(rdMk l).2.2<4294967296 :=
 ⟨zhy _ _ 8 (by decide),zhy _ _ 8 (by decide),zhy _ _ 4 (by decide)⟩
theorem zn0 {sm:List UInt8→List UInt8} {g n:Nat} {b:List UInt8} (hg:g<18446744073709551616) (hn:n<18446744073709551616) (hb:b.length<4294967296):rdMk (za8 (zbq sm g n b))=(g,n,b.length):=by
 have e0:za8 (zbq sm g n b)=[1,67,83,84]++(lbS g 8++(lbS n 8++(lbS b.length 4++(sm b++List.replicate 8 0++List.replicate 128 0++zbq sm g n b)))):=by
  unfold za8
  conv=>lhs;lhs;lhs;unfold zbq
  simp only[List.append_assoc]
 have e1:rawS (za8 (zbq sm g n b)) 0 4=([1,67,83,84],lbS g 8++(lbS n 8++(lbS b.length 4++(sm b++List.replicate 8 0++List.replicate 128 0++zbq sm g n b))),0):=by
  rw[e0]
  unfold rawS
  rw[if_pos rfl,if_neg (by simp)]
  rfl
 have e2:=zem g 8 (by decide) (by omega) (lbS n 8++(lbS b.length 4++(sm b++List.replicate 8 0++List.replicate 128 0++zbq sm g n b)))
 have e3:=zem n 8 (by decide) (by omega) (lbS b.length 4++(sm b++List.replicate 8 0++List.replicate 128 0++zbq sm g n b))
 have e4:=zem b.length 4 (by decide) (by omega) (sm b++List.replicate 8 0++List.replicate 128 0++zbq sm g n b)
 rw[show ((8:Nat):Int)=8 from rfl] at e2 e3
 rw[show ((4:Nat):Int)=4 from rfl] at e4
 unfold rdMk
 simp only[e1,e2,e3,e4]
theorem zn1 {w:World} {b:Nat} {t:TypeId} {cs:List Value} (h:Blk w b t cs) (ht:t≠5):¬ Typ w b:=by
 rintro ⟨_,_,h2⟩
 unfold Blk at h
 rw[h] at h2
 injection h2 with h2
 injection h2 with _ h2
 exact ht h2
set_option maxRecDepth 100000 in
set_option maxHeartbeats 4000000 in
theorem zja (w:World) (ao:Option Addr) (c:Nat) (l:List UInt8) (hb:Bts w ao c l) (hl:l.length≤100000) :
  Calls Tryz.prog 71 #[.slice ao l.length c] w fun e w'=>e = .returned (.agg (mkC (rdMk l).1 (rdMk l).2.1 (rdMk l).2.2 (List.replicate 32 0)).toArray)∧w.grownBy w' none:=by
 obtain ⟨Z,hZ⟩:∃ Z:List Value,Z=mkC 0 0 0 (List.replicate 32 0):=⟨_,rfl⟩
 have hzv:=zi7
 rw[← hZ] at hzv
 obtain ⟨W1,hW1,hB1,g1⟩:=zah w 104 Z
 have cn:=znh W1 ao c l (hb.kept g1 (fun _ e=>by cases e)) (by omega)
 obtain ⟨k,hk⟩:∃ k,k=l.length:=⟨_,rfl⟩
 rw[← hk] at cn ⊢
 have s1:W1.heap.size=w.heap.size+1:=by rw[hW1,World.size_alloc]
 obtain ⟨a,ha⟩:∃ a,a=rawS l 0 4:=⟨_,rfl⟩
 obtain ⟨G,hG⟩:∃ G,G=numS a.2.1 a.2.2 8:=⟨_,rfl⟩
 obtain ⟨M,hM⟩:∃ M,M=numS G.2.1 G.2.2 8:=⟨_,rfl⟩
 obtain ⟨S,hS⟩:∃ S,S=numS M.2.1 M.2.2 4:=⟨_,rfl⟩
 have hR:rdMk l=(G.1,M.1,S.1):=by unfold rdMk;simp only[← ha,← hG,← hM,← hS]
 rw[hR]
 obtain ⟨HW1,HB1,HG1,HS1⟩:=zh4 hW1 hB1 g1 s1
 have HK:=hide (show l.length≤100000 from hl)
 obtain ⟨HA,HGG,HMM,HSS,HZ⟩:=zh5 ha hG hM hS hZ
 clear hW1 hB1 g1 hb hl hk hZ hR s1 ha hG hM hS
 go_enter Tryz.func71,Tryz.ntmps71
 go_wp2_with (first
  | (rw[← uh HW1])
  | (go_at_call 89;fail))
 refine cn.mono ?_
 rintro e w2 ⟨rb,rfl,hrb,hrd,g2⟩
 have cr:=zqp w2 rb l 0 4 (by have:=uh HK;omega) hrd
 rw[← uh HA] at cr
 have hrbn:rb≠w.heap.size:=by have:=uh HS1;omega
 have HB2:=hide ((uh HB1).kept g2 (by simp))
 have HG2:=hide (tn (uh HG1) g2)
 have HRN:=hide (show w.heap.size<rb by have:=uh HS1;omega)
 clear cn hrb hrd g2 HB1
 go_wp2_with (go_at_call 90;fail)
 refine cr.mono ?_
 rintro e w3 ⟨v3,rfl,-,hrd3,g3⟩
 have hB3:=(uh HB2).kept g3 (by simpa using hrbn.symm)
 have hG3:=zae (uh HG2) g3 (fun y e=>by cases e;exact Or.inl (Nat.le_of_lt (uh HRN)))
 obtain ⟨W4,hW4,hB4,g4⟩:=zah w3 104 Z
 have hrd4:=hrd3.kept g4 (Or.inl rfl)
 have cg:=zf7 W4 rb _ _ 8 hrd4
 rw[← uh HGG] at cg
 have hm4:rb≠w3.heap.size:=by have:=hrd3.lt;omega
 have hb34:=hB3.kept g4 (by simp)
 have hwl:w.heap.size≠w3.heap.size:=by have:=hB3.lt;omega
 have HB3:=hide hb34
 have HG4:=hide (tn hG3 g4)
 obtain ⟨HB4,HW4,HGW⟩:=zh3 hB4 hW4 hG3
 clear cr hrd3 g3 hB3 hG3 hW4 hB4 g4 hrd4 hb34 HB2
 go_wp2_with (first
  | (rw[← uh HW4])
  | (go_at_call 91;fail))
 refine cg.mono ?_
 rintro e w5 ⟨rfl,hrd5,g5⟩
 have hBp:=uh HB4
 have hB5:=hBp.kept g5 (fun e=>hm4 (by injection e with e;exact e.symm))
 have hcw5:w5.cell? ⟨w3.heap.size,0,none⟩=some (.int .u64 0):=by rw[hB5.cell 0,uh HZ];rfl
 have hcz5:=hB5.fz 0
 obtain ⟨W6,hW6⟩:∃ W,W=w5.setCell ⟨w3.heap.size,0,none⟩ (.int .u64 (G.1:Int)):=⟨_,rfl⟩
 have hB6:=hB5.set 0 (.int .u64 (G.1:Int))
 have g6:w5.grownBy W6 (some w3.heap.size):=by rw[hW6];exact zam (zac _ _) _ _ (Or.inr rfl)
 rw[← hW6] at hB6
 have hrd6:=hrd5.keptTyp g6 (fun y e=>by cases e;exact ⟨hm4.symm,zn1 hB5 (by decide)⟩)
 have cm:=zf7 W6 rb _ _ 8 hrd6
 rw[← uh HMM] at cm
 have hA5:=(uh HB3).kept g5 (fun e=>hrbn (by injection e with e;exact e.symm))
 have hA6:=hA5.kept g6 (fun e=>hwl (by injection e with e))
 have hpw:w.heap.size≤w3.heap.size:=(uh HGW).size
 have hG6:=zae (zae (uh HG4) g5 (fun y e=>by cases e;exact Or.inl (Nat.le_of_lt (uh HRN)))) g6 (fun y e=>by cases e;exact Or.inl hpw)
 obtain ⟨HB6,HA6,HG6,HW6,HPW⟩:=zh5 hB6 hA6 hG6 hW6 hpw
 clear cg hrd5 g5 hB5 hB6 g6 hrd6 hA5 hA6 hG6 hW6 hpw hBp HB4 HB3
 go_wp2_with (first
  | (rw[← uh HW6])
  | (go_at_call 91;fail))
 refine cm.mono ?_
 rintro e w7 ⟨rfl,hrd7,g7⟩
 have hB7:=(uh HB6).kept g7 (fun e=>hm4 (by injection e with e;exact e.symm))
 have hcw7:w7.cell? ⟨w3.heap.size,1,none⟩=some (.int .u64 0):=by rw[hB7.cell 1,uh HZ];rfl
 have hcz7:=hB7.fz 1
 obtain ⟨W8,hW8⟩:∃ W,W=w7.setCell ⟨w3.heap.size,1,none⟩ (.int .u64 (M.1:Int)):=⟨_,rfl⟩
 have hB8:=hB7.set 1 (.int .u64 (M.1:Int))
 have g8:w7.grownBy W8 (some w3.heap.size):=by rw[hW8];exact zam (zac _ _) _ _ (Or.inr rfl)
 rw[← hW8] at hB8
 have hrd8:=hrd7.keptTyp g8 (fun y e=>by cases e;exact ⟨hm4.symm,zn1 hB7 (by decide)⟩)
 have cz:=zf7 W8 rb _ _ 4 hrd8
 rw[← uh HSS] at cz
 have hA8:=((uh HA6).kept g7 (fun e=>hrbn (by injection e with e;exact e.symm))).kept g8 (fun e=>hwl (by injection e with e))
 have HG8:=hide (zae (zae (uh HG6) g7 (fun y e=>by cases e;exact Or.inl (Nat.le_of_lt (uh HRN)))) g8 (fun y e=>by cases e;exact Or.inl (uh HPW)))
 obtain ⟨HB8,HA8,HW8⟩:=zh3 hB8 hA8 hW8
 clear cm hrd7 g7 hB7 hB8 g8 hrd8 hA8 hW8 HB6 HA6 hcw5 hcz5
 go_wp2_with (first
  | (rw[← uh HW8])
  | (go_at_call 91;fail))
 refine cz.mono ?_
 rintro e w9 ⟨rfl,hrd9,g9⟩
 have hB9:=(uh HB8).kept g9 (fun e=>hm4 (by injection e with e;exact e.symm))
 have hcw9:w9.cell? ⟨w3.heap.size,2,none⟩=some (.int .u64 0):=by rw[hB9.cell 2,uh HZ];rfl
 have hcz9:=hB9.fz 2
 obtain ⟨W10,hW10⟩:∃ W,W=w9.setCell ⟨w3.heap.size,2,none⟩ (.int .u64 (S.1:Int)):=⟨_,rfl⟩
 have hB10:=hB9.set 2 (.int .u64 (S.1:Int))
 have g10:w9.grownBy W10 (some w3.heap.size):=by rw[hW10];exact zam (zac _ _) _ _ (Or.inr rfl)
 rw[← hW10] at hB10
 have HA10:=hide (((uh HA8).kept g9 (fun e=>hrbn (by injection e with e;exact e.symm))).kept g10 (fun e=>hwl (by injection e with e)))
 have HG10:=hide (zae (zae (uh HG8) g9 (fun y e=>by cases e;exact Or.inl (Nat.le_of_lt (uh HRN)))) g10 (fun y e=>by cases e;exact Or.inl (uh HPW)))
 obtain ⟨Y,hY⟩:∃ Y,Y=mkC G.1 M.1 S.1 (List.replicate 32 0):=⟨_,rfl⟩
 have eY:((Z.set 0 (.int .u64 (G.1:Int))).set 1 (.int .u64 (M.1:Int))).set 2 (.int .u64 (S.1:Int))=Y:=by rw[hY,uh HZ];rfl
 rw[eY] at hB10
 have hYl:Y.length=35:=by rw[hY];exact zdl (by simp)
 have hr10:=zan hB10
 have HYI:=hide (show (Tryz.prog.info? 104).map (·.size)=some Y.length by rw[hYl];exact zel)
 have HYJ:=hide (show (Tryz.prog.info? 104).map (·.size)=some Y.toArray.size by simp[hYl,zel])
 have HYZ:=hide (show Z.toArray.size=Y.toArray.size by rw[uh HZ];simp[hYl,zdl])
 have HY1:=hide (show ∀ u∈Y,u.oneCell'=true by rw[hY];exact zjw _ _ _ _)
 obtain ⟨HW10,HY⟩:=zh2 hW10 hY
 clear cz hrd9 g9 hB9 hB10 g10 eY hW10 HB8 HA8 hcw7 hcz7 hY hYl
 go_wp2_with (first
  | (rw[← uh HW10])
  | (refine wpList_load_mid rfl 104 _ rfl w3.heap.size 0 rfl Y _ hr10 Tryz.underlying104 rfl (uh HYI) ?_;clear hr10)
  | (have hB9:=uh HA10;refine wpList_store_row rfl 104 _ _ rfl w.heap.size _ rfl rfl _ _ hB9 (uh HYJ) (uh HYZ) (all_oneCell_toArray (uh HY1)) ?_;clear hB9))
 refine bodyPost_ret (results_cell_row rfl _ _ _ _ _ _ _ rfl ((uh HA10).row Y) Tryz.underlying104 rfl (uh HYJ)) rfl ?_
 exact ⟨by rw[← uh HY],zaj (uh HG10) _ (Or.inl (Nat.le_refl _))⟩
end Go.Proofs.YtoilcpdhhlcidaaGreatDoor
