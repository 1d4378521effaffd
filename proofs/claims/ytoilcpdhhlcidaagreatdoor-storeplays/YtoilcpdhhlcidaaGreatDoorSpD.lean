/- Lemmas. -/
import Derived.Laws.Tables
import Derived.Test.YtoilcpdhhlcidaaGreatDoorSpW
import Derived.Test.YtoilcpdhhlcidaaGreatDoorSSumF
namespace Go.Proofs.YtoilcpdhhlcidaaGreatDoor
open Go.RowKit
theorem zar {n:Nat} (l:List UInt8) (h:l.length=n+1):∃ a r,l=a::r∧r.length=n:=by
 cases l with
 | nil=>simp at h
 | cons a r=>exact ⟨a,r,rfl,by simpa using h⟩
theorem zqr (l:List UInt8) (h:l.length=32):∃ a0 a1 a2 a3 a4 a5 a6 a7 a8 a9 a10 a11 a12 a13 a14 a15 a16 a17 a18 a19 a20 a21 a22 a23 a24 a25 a26 a27 a28 a29 a30 a31,l=[a0,a1,a2,a3,a4,a5,a6,a7,a8,a9,a10,a11,a12,a13,a14,a15,a16,a17,a18,a19,a20,a21,a22,a23,a24,a25,a26,a27,a28,a29,a30,a31]:=by
 obtain ⟨a0,l0,e0,h0⟩:=zar l h
 obtain ⟨a1,l1,e1,h1⟩:=zar l0 h0
 obtain ⟨a2,l2,e2,h2⟩:=zar l1 h1
 obtain ⟨a3,l3,e3,h3⟩:=zar l2 h2
 obtain ⟨a4,l4,e4,h4⟩:=zar l3 h3
 obtain ⟨a5,l5,e5,h5⟩:=zar l4 h4
 obtain ⟨a6,l6,e6,h6⟩:=zar l5 h5
 obtain ⟨a7,l7,e7,h7⟩:=zar l6 h6
 obtain ⟨a8,l8,e8,h8⟩:=zar l7 h7
 obtain ⟨a9,l9,e9,h9⟩:=zar l8 h8
 obtain ⟨a10,l10,e10,h10⟩:=zar l9 h9
 obtain ⟨a11,l11,e11,h11⟩:=zar l10 h10
 obtain ⟨a12,l12,e12,h12⟩:=zar l11 h11
 obtain ⟨a13,l13,e13,h13⟩:=zar l12 h12
 obtain ⟨a14,l14,e14,h14⟩:=zar l13 h13
 obtain ⟨a15,l15,e15,h15⟩:=zar l14 h14
 obtain ⟨a16,l16,e16,h16⟩:=zar l15 h15
 obtain ⟨a17,l17,e17,h17⟩:=zar l16 h16
 obtain ⟨a18,l18,e18,h18⟩:=zar l17 h17
 obtain ⟨a19,l19,e19,h19⟩:=zar l18 h18
 obtain ⟨a20,l20,e20,h20⟩:=zar l19 h19
 obtain ⟨a21,l21,e21,h21⟩:=zar l20 h20
 obtain ⟨a22,l22,e22,h22⟩:=zar l21 h21
 obtain ⟨a23,l23,e23,h23⟩:=zar l22 h22
 obtain ⟨a24,l24,e24,h24⟩:=zar l23 h23
 obtain ⟨a25,l25,e25,h25⟩:=zar l24 h24
 obtain ⟨a26,l26,e26,h26⟩:=zar l25 h25
 obtain ⟨a27,l27,e27,h27⟩:=zar l26 h26
 obtain ⟨a28,l28,e28,h28⟩:=zar l27 h27
 obtain ⟨a29,l29,e29,h29⟩:=zar l28 h28
 obtain ⟨a30,l30,e30,h30⟩:=zar l29 h29
 obtain ⟨a31,l31,e31,h31⟩:=zar l30 h30
 have e32:l31=[]:=List.eq_nil_of_length_eq_zero h31
 exact ⟨a0,a1,a2,a3,a4,a5,a6,a7,a8,a9,a10,a11,a12,a13,a14,a15,a16,a17,a18,a19,a20,a21,a22,a23,a24,a25,a26,a27,a28,a29,a30,a31,by rw[e0,e1,e2,e3,e4,e5,e6,e7,e8,e9,e10,e11,e12,e13,e14,e15,e16,e17,e18,e19,e20,e21,e22,e23,e24,e25,e26,e27,e28,e29,e30,e31,e32]⟩
def mkC (g n z:Nat) (sl:List UInt8):List Value:=[.int .u64 (g:Int),.int .u64 (n:Int),.int .u64 (z:Int)]++sl.map bv
def rcC (g n z:Nat) (sl:List UInt8) (X:Value):List Value:=mkC g n z sl++[X]
theorem zdl {g n z:Nat} {sl:List UInt8} (h:sl.length=32):(mkC g n z sl).length=35:=by simp[mkC,h]
theorem zbn {g n z:Nat} {sl:List UInt8} {X:Value} (h:sl.length=32):(rcC g n z sl X).length=36:=by simp[rcC,zdl h]
theorem zjw (g n z:Nat) (sl:List UInt8):∀ u∈mkC g n z sl,u.oneCell'=true:=by
 intro u hu
 unfold mkC at hu
 rcases List.mem_append.1 hu with hu | hu
 ·simp only[List.mem_cons,List.not_mem_nil,or_false] at hu
  rcases hu with rfl | rfl | rfl <;> rfl
 ·exact zch _ u hu
theorem zdm (g n z:Nat) (sl:List UInt8) {X:Value} (hX:X.oneCell'=true):∀ u∈rcC g n z sl X,u.oneCell'=true:=by
 intro u hu
 unfold rcC at hu
 rcases List.mem_append.1 hu with hu | hu
 ·exact zjw _ _ _ _ u hu
 ·rw[List.mem_singleton.1 hu];exact hX
theorem zel:(Tryz.prog.info? 104).map (·.size)=some 35:=by kernel_rfl
theorem zbj:(Tryz.prog.info? 106).map (·.size)=some 36:=by kernel_rfl
theorem zlz (g n z:Nat) (sl:List UInt8) (h:sl.length=32):Tryz.prog.built 104 [(0,.int .u64 (g:Int)),(1,.int .u64 (n:Int)),(2,.int .u64 (z:Int)),(3,.agg (sl.map bv).toArray)]=some (mkC g n z sl).toArray:=by
 obtain ⟨a0,a1,a2,a3,a4,a5,a6,a7,a8,a9,a10,a11,a12,a13,a14,a15,a16,a17,a18,a19,a20,a21,a22,a23,a24,a25,a26,a27,a28,a29,a30,a31,rfl⟩:=zqr sl h
 kernel_rfl
theorem znx (g n z:Nat) (sl:List UInt8) (h:sl.length=32) (ao:Option Addr) (k c:Nat):Tryz.prog.built 106 [(0,.agg (mkC g n z sl).toArray),(1,.slice ao k c)]=some (rcC g n z sl (.slice ao k c)).toArray:=by
 obtain ⟨a0,a1,a2,a3,a4,a5,a6,a7,a8,a9,a10,a11,a12,a13,a14,a15,a16,a17,a18,a19,a20,a21,a22,a23,a24,a25,a26,a27,a28,a29,a30,a31,rfl⟩:=zqr sl h
 kernel_rfl
theorem zl0:Tryz.prog.built 106 []=some (rcC 0 0 0 (List.replicate 32 0) (.slice none 0 0)).toArray:=by kernel_rfl
theorem zfr (w:World):(zeroValue 106).run Tryz.prog w = .ok (.agg (rcC 0 0 0 (List.replicate 32 0) (.slice none 0 0)).toArray) w:=by kernel_rfl
theorem zi7 (w:World):(zeroValue 104).run Tryz.prog w = .ok (.agg (mkC 0 0 0 (List.replicate 32 0)).toArray) w:=by kernel_rfl
set_option maxRecDepth 100000 in
set_option maxHeartbeats 2000000 in
theorem zg3 (w:World) (g n:Nat) (ao:Option Addr) (c:Nat) (b:List UInt8) (hb:Bts w ao c b) (hT:Tabs w) (hl:b.length<4294967296) :
  Calls Tryz.prog 57 #[.int .u64 (g:Int),.int .u64 (n:Int),.slice ao b.length c] w fun e w'=>e = .returned (.agg (rcC g n b.length (shaL b) (.slice ao b.length c)).toArray)∧w.grownBy w' none:=by
 obtain ⟨sl,hsl⟩:∃ s,s=shaL b:=⟨_,rfl⟩
 have h32:sl.length=32:=by rw[hsl];exact zc5 _
 obtain ⟨Z,hZ⟩:∃ Z:List Value,Z=rcC 0 0 0 (List.replicate 32 0) (.slice none 0 0):=⟨_,rfl⟩
 have hzv:=zfr
 rw[← hZ] at hzv
 have hZl:Z.length=36:=by rw[hZ];exact zbn (by simp)
 obtain ⟨W1,hW1,hB1,g1⟩:=zah w 106 Z
 have cs:=zpy W1 ao c b (hb.kept g1 (fun _ e=>by cases e)) (hT.kept0 g1) (by omega)
 rw[← hsl] at cs ⊢
 obtain ⟨k,hk⟩:∃ k,k=b.length:=⟨_,rfl⟩
 rw[← hk] at cs hl ⊢
 have hkw:IntKind.u64.wrap (k:Int)=(k:Int):=by rw[IntKind.wrap_u64];omega
 have hbm:=zlz g n k sl h32
 have hbr:=znx g n k sl h32 ao k c
 obtain ⟨M,hM⟩:∃ M,M=mkC g n k sl:=⟨_,rfl⟩
 obtain ⟨R,hR⟩:∃ R,R=rcC g n k sl (.slice ao k c):=⟨_,rfl⟩
 rw[← hM] at hbm hbr
 rw[← hR] at hbr ⊢
 have hRl:R.length=36:=by rw[hR];exact zbn h32
 have HR1:=hide (show ∀ u∈R,u.oneCell'=true by rw[hR];exact zdm _ _ _ _ rfl)
 obtain ⟨SA,hSA⟩:∃ A,A=(sl.map bv).toArray:=⟨_,rfl⟩
 rw[← hSA] at cs hbm
 obtain ⟨HW1,HB1,HG1,HZL⟩:=zh4 hW1 hB1 g1 hZl
 have HRI:=hide (show (Tryz.prog.info? 106).map (·.size)=some R.toArray.size by simp[hRl,zbj])
 have HZR:=hide (show Z.toArray.size=R.toArray.size by simp[hRl,hZl])
 clear hW1 hB1 g1 hZ hZl hk hM hR hRl hSA hsl h32 hb hT
 go_enter Tryz.func57,Tryz.ntmps57
 go_wp2_with (first
  | (rw[← uh HW1])
  | (go_at_call 77;refine cs.mono ?_;rintro e w2 ⟨rfl,g2⟩;have HB2:=hide ((uh HB1).kept g2 (by simp));have HG2:=hide (tn (uh HG1) g2);clear cs g2)
  | (refine zbf rfl 104 _ rfl M.toArray ?hb ?_;(case hb=>exact Eq.trans (b:=Tryz.prog.built 104 [(0,.int .u64 (g:Int)),(1,.int .u64 (n:Int)),(2,.int .u64 (k:Int)),(3,.agg SA)]) (by kernel_rfl) hbm))
  | (refine zbf rfl 106 _ rfl R.toArray ?hb ?_;(case hb=>exact Eq.trans (b:=Tryz.prog.built 106 [(0,.agg M.toArray),(1,.slice ao k c)]) (by kernel_rfl) hbr))
  | (have hB9:=uh HB2;refine wpList_store_row rfl 106 _ _ rfl w.heap.size _ rfl rfl _ _ hB9 (uh HRI) (uh HZR) (all_oneCell_toArray (uh HR1)) ?_;clear hB9))
 refine bodyPost_ret (results_cell_row rfl _ _ _ _ _ _ _ rfl ((uh HB2).row R) Tryz.underlying106 rfl (uh HRI)) rfl ?_
 exact ⟨rfl,zaj (uh HG2) _ (Or.inl (Nat.le_refl _))⟩
end Go.Proofs.YtoilcpdhhlcidaaGreatDoor
