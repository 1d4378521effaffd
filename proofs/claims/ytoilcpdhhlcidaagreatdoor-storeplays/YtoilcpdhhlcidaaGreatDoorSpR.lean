/- Lemmas. -/
import Derived.Shelf.SlIter.Nil
import Derived.Shelf.SortM.Plain
import Derived.Shelf.SortM.SortNone
import Derived.Test.YtoilcpdhhlcidaaGreatDoorProg
import Derived.Test.YtoilcpdhhlcidaaGreatDoorSpW
import Derived.OwnWalkIn
import Derived.TacticsInMore
namespace Go.Proofs.YtoilcpdhhlcidaaGreatDoor
open Go.RowKit Go.Maps Go.Sort Go.Shelf
set_option maxRecDepth 100000
def kyR:Ren :=
 ⟨fun n=>if n=7 then 66 else if n=10 then 88 else n,
  fun n=>if n=23 then 67 else if n=26 then 9 else if n=3 then 53 else if n=28 then 122 else if n=0 then 0 else if n=27 then 121 else if n=33 then 72 else if n=4 then 4 else n,
  fun n=>n⟩
theorem kyL:SlLaysZ.n7 Tryz.prog kyR where
 mixed:=by intros;kernel_rfl
 f7:=⟨Tryz.f66.name,by kernel_rfl,by kernel_rfl⟩
 f10:=⟨Tryz.f88.name,by kernel_rfl,by kernel_rfl⟩
 t0:=by intros;kernel_rfl
 a0:=by intros;kernel_rfl
 z0:=by intros;kernel_rfl
 v0:=by intros;kernel_rfl
 t4:=by intros;kernel_rfl
 a4:=by intros;kernel_rfl
 z4:=by intros;kernel_rfl
 v4:=by intros;kernel_rfl
 t23:=by intros;kernel_rfl
 a23:=by intros;kernel_rfl
 z23:=by intros;kernel_rfl
 v23:=by intros;kernel_rfl
 t26:=by intros;kernel_rfl
 a26:=by intros;kernel_rfl
 z26:=by intros;kernel_rfl
 v26:=by intros;kernel_rfl
 t27:=by intros;kernel_rfl
 a27:=by intros;kernel_rfl
 z27:=by intros;kernel_rfl
 v27:=by intros;kernel_rfl
 t28:=by intros;kernel_rfl
 a28:=by intros;kernel_rfl
 z28:=by intros;kernel_rfl
 v28:=by intros;kernel_rfl
 t33:=by intros;kernel_rfl
 a33:=by intros;kernel_rfl
 z33:=by intros;kernel_rfl
 v33:=by intros;kernel_rfl
def srR:Ren :=
 ⟨fun n=>if n=6 then 65 else if n=8 then 86 else if n=9 then 87 else if n=11 then 103 else if n=13 then 105 else if n=12 then 104 else if n=23 then 124 else if n=24 then 125 else if n=14 then 115 else if n=15 then 116 else if n=16 then 117 else if n=17 then 118 else if n=18 then 119 else if n=19 then 120 else if n=20 then 121 else if n=21 then 122 else if n=22 then 123 else if n=25 then 132 else if n=26 then 133 else if n=27 then 134 else if n=28 then 135 else if n=29 then 136 else if n=30 then 137 else if n=31 then 142 else n,
  fun n=>if n=26 then 9 else if n=28 then 122 else if n=24 then 30 else if n=0 then 0 else if n=3 then 3 else if n=37 then 157 else if n=48 then 165 else if n=50 then 45 else if n=4 then 4 else if n=40 then 173 else if n=39 then 172 else if n=45 then 177 else if n=5 then 5 else if n=9 then 9 else if n=51 then 186 else if n=55 then 189 else if n=57 then 196 else if n=58 then 197 else if n=33 then 72 else n,
  fun n=>n⟩
theorem srL:SlLaysZ.n6 Tryz.prog srR where
 mixed:=by intros;kernel_rfl
 f6:=⟨Tryz.f65.name,by kernel_rfl,by kernel_rfl⟩
 f8:=⟨Tryz.f86.name,by kernel_rfl,by kernel_rfl⟩
 f11:=⟨Tryz.f103.name,by kernel_rfl,by kernel_rfl⟩
 t0:=by intros;kernel_rfl
 a0:=by intros;kernel_rfl
 z0:=by intros;kernel_rfl
 v0:=by intros;kernel_rfl
 t24:=by intros;kernel_rfl
 a24:=by intros;kernel_rfl
 z24:=by intros;kernel_rfl
 v24:=by intros;kernel_rfl
 t26:=by intros;kernel_rfl
 a26:=by intros;kernel_rfl
 z26:=by intros;kernel_rfl
 v26:=by intros;kernel_rfl
 t28:=by intros;kernel_rfl
 a28:=by intros;kernel_rfl
 z28:=by intros;kernel_rfl
 v28:=by intros;kernel_rfl
 i26:=by intros;kernel_rfl
def qsR:Ren :=
 ⟨fun n=>if n=6 then 87 else if n=8 then 105 else if n=9 then 104 else if n=19 then 124 else if n=20 then 125 else if n=21 then 115 else if n=22 then 116 else if n=23 then 117 else if n=24 then 118 else if n=25 then 119 else if n=26 then 120 else if n=27 then 121 else if n=28 then 122 else if n=29 then 123 else if n=36 then 132 else if n=31 then 133 else if n=32 then 134 else if n=37 then 135 else if n=38 then 136 else if n=39 then 137 else if n=41 then 142 else n,
  fun n=>if n=27 then 30 else if n=29 then 9 else if n=3 then 3 else if n=32 then 157 else if n=26 then 30 else if n=0 then 0 else if n=44 then 165 else if n=46 then 45 else if n=4 then 4 else if n=36 then 173 else if n=35 then 172 else if n=41 then 177 else if n=5 then 5 else if n=9 then 9 else if n=53 then 186 else if n=57 then 189 else if n=63 then 196 else if n=64 then 197 else n,
  fun n=>n⟩
theorem qsL:SlLaysM.n6 Tryz.prog qsR where
 mixed:=by intros;kernel_rfl
 f6:=⟨Tryz.f87.name,by kernel_rfl,by kernel_rfl⟩
 f8:=by intros;kernel_rfl
 f9:=⟨Tryz.f104.name,by kernel_rfl,by kernel_rfl⟩
 f19:=by intros;kernel_rfl
 f20:=by intros;kernel_rfl
 f21:=⟨Tryz.f115.name,by kernel_rfl,by kernel_rfl⟩
 f22:=⟨Tryz.f116.name,by kernel_rfl,by kernel_rfl⟩
 f23:=⟨Tryz.f117.name,by kernel_rfl,by kernel_rfl⟩
 f24:=⟨Tryz.f118.name,by kernel_rfl,by kernel_rfl⟩
 f25:=⟨Tryz.f119.name,by kernel_rfl,by kernel_rfl⟩
 f26:=⟨Tryz.f120.name,by kernel_rfl,by kernel_rfl⟩
 f27:=⟨Tryz.f121.name,by kernel_rfl,by kernel_rfl⟩
 f28:=⟨Tryz.f122.name,by kernel_rfl,by kernel_rfl⟩
 f29:=⟨Tryz.f123.name,by kernel_rfl,by kernel_rfl⟩
 f31:=by intros;kernel_rfl
 f32:=by intros;kernel_rfl
 f36:=⟨Tryz.f132.name,by kernel_rfl,by kernel_rfl⟩
 f37:=⟨Tryz.f135.name,by kernel_rfl,by kernel_rfl⟩
 f38:=⟨Tryz.f136.name,by kernel_rfl,by kernel_rfl⟩
 f39:=⟨Tryz.f137.name,by kernel_rfl,by kernel_rfl⟩
 f41:=⟨Tryz.f142.name,by kernel_rfl,by kernel_rfl⟩
 t0:=by intros;kernel_rfl
 a0:=by intros;kernel_rfl
 z0:=by intros;kernel_rfl
 v0:=by intros;kernel_rfl
 t3:=by intros;kernel_rfl
 a3:=by intros;kernel_rfl
 z3:=by intros;kernel_rfl
 v3:=by intros;kernel_rfl
 t4:=by intros;kernel_rfl
 a4:=by intros;kernel_rfl
 z4:=by intros;kernel_rfl
 v4:=by intros;kernel_rfl
 t5:=by intros;kernel_rfl
 a5:=by intros;kernel_rfl
 z5:=by intros;kernel_rfl
 v5:=by intros;kernel_rfl
 t9:=by intros;kernel_rfl
 a9:=by intros;kernel_rfl
 z9:=by intros;kernel_rfl
 v9:=by intros;kernel_rfl
 t26:=by intros;kernel_rfl
 a26:=by intros;kernel_rfl
 z26:=by intros;kernel_rfl
 v26:=by intros;kernel_rfl
 t27:=by intros;kernel_rfl
 a27:=by intros;kernel_rfl
 z27:=by intros;kernel_rfl
 v27:=by intros;kernel_rfl
 t29:=by intros;kernel_rfl
 a29:=by intros;kernel_rfl
 z29:=by intros;kernel_rfl
 v29:=by intros;kernel_rfl
 t32:=by intros;kernel_rfl
 a32:=by intros;kernel_rfl
 z32:=by intros;kernel_rfl
 v32:=by intros;kernel_rfl
 t35:=by intros;kernel_rfl
 a35:=by intros;kernel_rfl
 z35:=by intros;kernel_rfl
 v35:=by intros;kernel_rfl
 t36:=by intros;kernel_rfl
 a36:=by intros;kernel_rfl
 z36:=by intros;kernel_rfl
 v36:=by intros;kernel_rfl
 t41:=by intros;kernel_rfl
 a41:=by intros;kernel_rfl
 z41:=by intros;kernel_rfl
 v41:=by intros;kernel_rfl
 t44:=by intros;kernel_rfl
 a44:=by intros;kernel_rfl
 z44:=by intros;kernel_rfl
 v44:=by intros;kernel_rfl
 t46:=by intros;kernel_rfl
 a46:=by intros;kernel_rfl
 z46:=by intros;kernel_rfl
 v46:=by intros;kernel_rfl
 t53:=by intros;kernel_rfl
 a53:=by intros;kernel_rfl
 z53:=by intros;kernel_rfl
 v53:=by intros;kernel_rfl
 t57:=by intros;kernel_rfl
 a57:=by intros;kernel_rfl
 z57:=by intros;kernel_rfl
 v57:=by intros;kernel_rfl
 t63:=by intros;kernel_rfl
 a63:=by intros;kernel_rfl
 z63:=by intros;kernel_rfl
 v63:=by intros;kernel_rfl
 t64:=by intros;kernel_rfl
 a64:=by intros;kernel_rfl
 z64:=by intros;kernel_rfl
 v64:=by intros;kernel_rfl
theorem zrq (m:Nat):AnyZ.SortsIn Tryz.prog srR Fence.wide m :=
 ⟨fun blk off cap ss W hH hblk hsz=>callsIn_wide.2 (AnyM.slices_Sort_string qsL blk off cap ss W hH hblk hsz),
  fun p cap W=>callsIn_wide.2 (AnyM.slices_Sort_string_none qsL p cap W)⟩
theorem zon (mb:Option Nat) (W:World):CallsIn Fence.wide 5 Tryz.prog 66 #[.map mb] W fun e w'=>e = .returned (.func (.func 88) #[] #[.pointer (some ⟨W.heap.size,0,none⟩)])∧w'=W.alloc (.cells #[.map mb] 67) :=
 AnyZ.keys_in kyL Fence.wide 5 trivial rfl mb W
set_option maxHeartbeats 1000000 in
theorem zgt {H:Type} (b nn:Nat) (D0:DataW H) (R:Value→Option (DataW H × List MemPlace)) (w:World) (hown:w.ownsMap Tryz.prog 9 R b nn D0) (hmax:Maps.size D0≤maxLen) (hbytes:Maps.size D0*16≤140737488355328) :
  CallsIn Fence.wide 5 Tryz.prog 65 #[.func (.func 88) #[] #[.pointer (some ⟨w.heap.size,0,none⟩)]] (w.alloc (.cells #[.map (some b)] 67)) fun e w'=>∃ (v:Value) (ss:List (List UInt8)),e = .returned v∧ss.Perm (strKeys D0) ∧
   w'.ownsRow (w.alloc (.cells #[.map (some b)] 67)).heap.size 9 1 v ss.length ((ss.mergeSort (fun x y=>decide (x≤y))).map encStr)∧(v = .slice none 0 0↔ss=[])∧Below (w.alloc (.cells #[.map (some b)] 67)).heap.size (w.alloc (.cells #[.map (some b)] 67)) w':=by
 have hbl:=hown.lt
 have hseq:SeqGives Fence.wide 2 Tryz.prog 88 #[.pointer (some ⟨w.heap.size,0,none⟩)] encStr (fun ss=>ss.Perm (strKeys D0)) (Maps.size D0) (w.alloc (.cells #[.map (some b)] 67)) :=
  AnyZ.keys_gives (ρ:=kyR) { kyL with } Fence.wide _ trivial rfl (by omega) w.heap.size b nn D0 _ (by simp) (by simp) (by
   obtain ⟨es,clock,hb,Ft,hs,hD⟩:=hown
   exact ⟨es,clock,(Below.heap_alloc _ _ b hbl).trans hb,Ft,hs,hD⟩)
 exact AnyZ.sorted_in srL Fence.wide 5 trivial trivial trivial trivial rfl (by omega) (zrq _) (enters_of Tryz.func87 (by kernel_rfl) rfl) 88 #[.pointer (some ⟨w.heap.size,0,none⟩)] trivial (enters_of Tryz.func88 (by kernel_rfl) rfl) _ _ hmax hbytes _ hseq
end Go.Proofs.YtoilcpdhhlcidaaGreatDoor

/- Lemmas. -/
namespace Go.Proofs.YtoilcpdhhlcidaaGreatDoor
open Go.RowKit Go.Shelf Go.Maps Go.Sort
set_option maxRecDepth 100000
theorem zk9:∀ a b:List UInt8,zbv a b=true↔a<b
 | [],[]=>by simp[zce]
 | [],y::b=>by simp[zgr]
 | x::a,[]=>by simp[zce]
 | x::a,y::b=>by
   rw[zcq,List.cons_lt_cons_iff,← zk9 a b]
   simp
theorem zmj {V:List (List UInt8 × List UInt8)} (h:RisK V) {ss:List (List UInt8)} (hp:ss.Perm (zao V)):ss.mergeSort (fun x y=>decide (x≤y))=zao V:=by
 have tr:∀ a b c:List UInt8,decide (a≤b)=true→decide (b≤c)=true→decide (a≤c)=true:=fun a b c h1 h2=>by
  simp only[decide_eq_true_eq] at h1 h2 ⊢
  exact List.le_trans h1 h2
 have tot:∀ a b:List UInt8,(decide (a≤b) || decide (b≤a))=true:=fun a b=>by
  simp only[Bool.or_eq_true,decide_eq_true_eq];exact List.le_total a b
 refine List.Perm.eq_of_pairwise (le:=fun a b=>decide (a≤b)=true) (fun a b _ _ h1 h2 => ?_) (List.pairwise_mergeSort tr tot ss) (List.Pairwise.imp (fun {a b} hab => ?_) h) ((List.mergeSort_perm ss _).trans hp)
 ·simp only[decide_eq_true_eq] at h1 h2
  exact List.le_antisymm h1 h2
 ·simp only[decide_eq_true_eq]
  have:=(zk9 a b).1 hab
  exact List.le_of_lt this
theorem zj3 {V:List (List UInt8 × List UInt8)} (h:RisK V):(zao V).Nodup:=List.Pairwise.imp (fun {a b} hab e=>by subst e;rw[zda] at hab;cases hab) h
theorem zqb {V:List (List UInt8 × List UInt8)} (k:List UInt8):k∈zao V↔(getK V k).isSome=true:=by
 induction V with
 | nil=>simp[zao,getK]
 | cons y V ih =>
   obtain ⟨a,x⟩:=y
   unfold zao at ih ⊢
   rw[List.map_cons,List.mem_cons,ih,getK]
   by_cases e:a=k
   ·simp[e]
   ·simp only[if_neg e]
    constructor
    ·rintro (h | h)
     ·exact absurd h.symm e
     ·exact h
    ·exact Or.inr
theorem zrr {w:World} {m:Nat} {K:List (List UInt8 × Value)} {V:List (List UInt8 × List UInt8)} (hV:RisK V) (h1:SmapAt w m K) (h2:∀ p∈K,(getK V p.1).isSome=true) (h3:∀ k,k∉K.map (·.1)→getK V k=none):(K.map (·.1)).Perm (zao V):=by
 refine (List.perm_ext_iff_of_nodup h1.once (zj3 hV)).2 fun k => ?_
 rw[zqb]
 constructor
 ·intro hk
  obtain ⟨p,hp,rfl⟩:=List.mem_map.1 hk
  exact h2 p hp
 ·intro hk
  apply Classical.byContradiction
  intro hn
  rw[h3 k hn] at hk
  cases hk
def nilR (_:Value):Option (DataW Nat × List MemPlace):=some (.nil,[])
theorem zqc {w:World} {m:Nat} {K:List (List UInt8 × Value)} (h:SmapAt w m K) (hk:∀ p∈K,p.1.length≤100000) (hl:K.length≤1000000) :
  ∃ D:DataW Nat,w.ownsMap Tryz.prog 9 nilR m K.length D∧Maps.size D≤K.length∧(strKeys D).Perm (K.map (·.1)):=by
 obtain ⟨A,clock,g1,g2,g3,g4⟩:=h.is
 have hlen:A.size=K.length:=by have:=congrArg List.length g2;simpa using this
 have hkey:∀ x∈A.toList,∃ p∈K,x.key=keyS p.1:=by
  intro x hx
  have:(x.key,x.val)∈A.toList.map (fun e=>(e.key,e.val)):=List.mem_map.2 ⟨x,hx,rfl⟩
  rw[g2] at this
  obtain ⟨p,hp,e⟩:=List.mem_map.1 this
  injection e with e1 e2
  exact ⟨p,hp,e1.symm⟩
 have hrd:∀ p∈K,∀ x:MapEntry,x.key=keyS p.1→WideElems.rd Tryz.prog 9 nilR x=some (.string p.1,.nil):=by
  intro p hp x e
  unfold WideElems.rd
  rw[e,keyS,WideMaps.keyOf_string_mk Tryz.underlying9 (by rw[zaq];have:=hk p hp;unfold maxLen;omega)]
  simp[nilR,str]
 have hst:MapKept.Stamped A clock:=by
  refine ⟨g3,g4,?_⟩
  have e1:A.toList.map (·.key)=K.map (fun p=>keyS p.1):=by
   have:=congrArg (List.map Prod.fst) g2
   simpa[List.map_map,Function.comp_def] using this
  rw[e1,show (fun p:List UInt8 × Value=>keyS p.1)=keyS ∘ (·.1) from rfl,← List.map_map]
  exact List.pairwise_map.2 (List.Pairwise.imp (fun {a b} hab e=>hab (zpk e)) h.once)
 have F:WideElems.Fit Tryz.prog 9 nilR A clock:=⟨by unfold maxLen;omega,hst,fun x hx=>by
  obtain ⟨p,hp,e⟩:=hkey x hx
  exact ⟨_,hrd p hp x e⟩⟩
 have hown:w.ownsMap Tryz.prog 9 nilR m K.length (.map ((A.toList.map (WideElems.rg Tryz.prog 9 nilR)).foldr DataW.insert [])):=⟨A,clock,g1,F,by omega,rfl⟩
 refine ⟨_,hown,hown.size_le,?_⟩
 show ((List.foldr DataW.insert [] _).map fun p=>strOf p.1).Perm _
 refine ((WideShapes.sorted_perm _).map _).trans ?_
 rw[List.map_map]
 have e2:A.toList.map ((fun p:Lit × DataW Nat=>strOf p.1) ∘ WideElems.rg Tryz.prog 9 nilR)=K.map (·.1):=by
  have e3:A.toList.map ((fun p:Lit × DataW Nat=>strOf p.1) ∘ WideElems.rg Tryz.prog 9 nilR)=A.toList.map (fun e=>match e.key with | .string s=>s.data.toList | _=>[]):=by
   apply List.map_congr_left
   intro x hx
   obtain ⟨p,hp,e⟩:=hkey x hx
   simp only[Function.comp,WideElems.rg,hrd p hp x e,Option.getD_some,e,keyS]
   simp[strOf,str]
  rw[e3]
  have:=congrArg (List.map (fun y:Value × Value=>match y.1 with | .string s=>s.data.toList | _=>[])) g2
  rw[List.map_map,List.map_map] at this
  simp only[Function.comp_def,keyS] at this
  rw[this]
  apply List.map_congr_left
  intro p _
  simp[str]
 rw[e2]
set_option maxHeartbeats 1000000 in
theorem zhi (w:World) (m:Nat) (G:List Nat) (V:List (List UInt8 × List UInt8)) (h:VmW w m G V) (hk:∀ y∈V,y.1.length≤100000) (hl:V.length≤1000000) :
  Calls Tryz.prog 41 #[.map (some m)] w fun e w'=>∃ ao c,e = .returned (.slice ao V.length c)∧Cel w' ao c (kyC V)∧(∀ ad,ao=some ad→w.heap.size≤ad.block)∧w.grownBy w' none:=by
 obtain ⟨hV,K,h1,h2,h3⟩:=h
 have hp:=zrr hV h1 (fun p hp=>by obtain ⟨_,_,_,_,_,hv,_⟩:=h2 p hp;rw[hv];rfl) h3
 have hKl:K.length≤1000000:=by have:=hp.length_eq;simp[zao] at this;omega
 have hKk:∀ p∈K,p.1.length≤100000:=fun p hp2=>by
  have:=hp.mem_iff.1 (List.mem_map.2 ⟨p,hp2,rfl⟩)
  obtain ⟨y,hy,e⟩:=List.mem_map.1 this
  rw[← e];exact hk y hy
 obtain ⟨D,hown,hsz,hD⟩:=zqc h1 hKk hKl
 have fin:∀ (w' : World) (v:Value) (ss:List (List UInt8)),ss.Perm (strKeys D)→w'.ownsRow (w.alloc (.cells #[.map (some m)] 67)).heap.size 9 1 v ss.length ((ss.mergeSort (fun x y=>decide (x≤y))).map encStr) →
   Below (w.alloc (.cells #[.map (some m)] 67)).heap.size (w.alloc (.cells #[.map (some m)] 67)) w'→∃ ao c,v = .slice ao V.length c∧Cel w' ao c (kyC V)∧(∀ ad,ao=some ad→w.heap.size≤ad.block)∧w.grownBy w' none:=by
  intro w' v ss hs ho hb
  have hs2:ss.Perm (zao V):=(hs.trans hD).trans hp
  rw[zmj hV hs2] at ho
  have e1:(zao V).map encStr=kyC V:=by unfold zao kyC;rw[List.map_map];rfl
  have e2:ss.length=(kyC V).length:=by have:=hs2.length_eq;simp[zao,kyC] at this ⊢;exact this
  rw[e1,e2] at ho
  obtain ⟨ao,c,q1,q2,q3⟩:=Cel.own ho (fun u hu=>by unfold kyC at hu;obtain ⟨y,_,rfl⟩:=List.mem_map.1 hu;rfl)
  have e3:(kyC V).length=V.length:=by simp[kyC]
  rw[e3] at q1
  refine ⟨ao,c,q1,q2,fun ad e => ?_,tn (zaf (zac _ _) _) (zdq hb)⟩
  have:=q3 ad e
  rw[World.size_alloc] at this
  omega
 have hmax:Maps.size D≤maxLen:=by unfold maxLen;omega
 have hbytes:Maps.size D*16≤140737488355328:=by omega
 have HF:=hide fin
 clear fin h1 h2 h3 hp hKk hD hV hKl hk hl
 refine (callsIn_wide (n:=6)).1 ?_
 have hfK:Fence.wide.fn 66:=trivial
 have hfS:Fence.wide.fn 65:=trivial
 refine callsIn_of_wp Tryz.func41 rfl trivial ?_ rfl
 simp only[Tryz.ntmps41,List.size_toArray,List.length_cons,List.length_nil,Nat.reduceAdd,Nat.reduceSub,Array.replicate_succ,Array.replicate_zero,List.push_toArray,List.append_toArray,List.nil_append,List.cons_append]
 gi_wp2_with (first
  | (gi_at_call 66;refine (zon _ _).mono ?_;rintro e w' ⟨rfl,rfl⟩)
  | (gi_at_call 65;refine (zgt m K.length D nilR w hown hmax hbytes).mono ?_;rintro e w' ⟨v,ss,rfl,hS,hrow,hnil,hb⟩))
 go_ret
 obtain ⟨ao,c,rfl,q⟩:=uh HF w' v ss hS hrow hb
 exact ⟨ao,c,rfl,q⟩
end Go.Proofs.YtoilcpdhhlcidaaGreatDoor
