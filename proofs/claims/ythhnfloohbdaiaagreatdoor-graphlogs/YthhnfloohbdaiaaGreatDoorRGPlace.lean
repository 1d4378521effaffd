/- Lemmas. -/
import Derived.Test.YthhnfloohbdaiaaGreatDoorRPure
import Derived.Test.YthhnfloohbdaiaaGreatDoorRGHas
namespace Go.Proofs.YthhnfloohbdaiaaGreatDoor
open Go.RowKit
theorem zn0 (l:List UInt8) (k:Int):(numS l k 8).1<18446744073709551616:=by
 have hnb:nb 8=8:=by decide
 unfold numS
 rw[hnb]
 repeat' split
 ·simp
 ·have h1:=zt3 (l.take 8)
  have h2:256 ^ (l.take 8).length≤256 ^ 8:=Nat.pow_le_pow_right (by omega) (by simp;omega)
  simp only
  omega
 ·simp
def rdC (d:List UInt8) (j:Nat):ChgL × List UInt8 × Int :=
 let t:=rawS d 0 32
 let n:=numS t.2.1 t.2.2 1
 let q:=runQ n.2 j
 let m:=numS q.2.1 q.2.2 8
 let a:=zap m.2.1 m.2.2
 let x:=zap a.2.1 a.2.2
 (⟨t.1,q.1,m.1,a.1,x.1⟩,x.2)
def rdN (d:List UInt8):Nat × List UInt8 × Int:=numS (rawS d 0 32).2.1 (rawS d 0 32).2.2 1
theorem zn1 (s:List UInt8 × Int) (j:Nat):(runQ s j).1.length=j:=by
 induction j with
 | zero=>rfl
 | succ j ih=>rw[runQ,zja];simp[ih]
theorem zrr (s:List UInt8 × Int) (j:Nat):(runQ s j).2.1.length≤s.1.length:=by
 induction j with
 | zero=>exact Nat.le_refl _
 | succ j ih =>
  rw[runQ,zja]
  exact Nat.le_trans (zcu _ _ _) ih
theorem zpf (s:List UInt8 × Int) (j:Nat):∀ x∈(runQ s j).1,x.length≤32:=by
 induction j with
 | zero=>intro e he;simp[runQ] at he
 | succ j ih =>
  intro e he
  rw[runQ,zja] at he
  simp only[List.mem_append,List.mem_singleton] at he
  rcases he with he | rfl
  ·exact ih e he
  ·exact zgs _ _ 32
theorem zpg {s:List UInt8 × Int} {j:Nat} {ps:List (List UInt8)} {l' : List UInt8} {e' : Int} (h:runQ s j=(ps,l',e')) {y l3:List UInt8} {e3:Int} (h3:rawS l' e' 32=(y,l3,e3)):runQ s (j+1)=(ps++[y],l3,e3):=by
 rw[runQ,h,zja]
 simp only[h3]
theorem zu0 (ps:List (List UInt8)) (m:List UInt8) (h:∀ x∈ps,x.length=32):∀ k,k≤ps.length→runQ (ps.flatten++m,0) k=(ps.take k,(ps.drop k).flatten++m,0):=by
 intro k
 induction k with
 | zero=>intro _;simp[runQ]
 | succ k ih =>
  intro hk
  have h1:=ih (by omega)
  have h32:=h _ (List.getElem_mem (l:=ps) (n:=k) (by omega))
  have h3:=zef (ps[k]) ((ps.drop (k+1)).flatten++m) 32 h32
  rw[runQ,h1,List.drop_eq_getElem_cons (by omega),List.flatten_cons,List.append_assoc]
  unfold zja
  simp only
  rw[show (32:Int)=((32:Nat):Int) from rfl,h3,List.take_succ_eq_append_getElem (by omega)]
theorem zrs (s:List UInt8 × Int) (j:Nat):∀ x∈(runP s j).1,x.length=32:=by
 induction j with
 | zero=>intro e he;simp[runP] at he
 | succ j ih =>
  intro e he
  rw[runP,zj3] at he
  simp only[List.mem_append,List.mem_singleton] at he
  rcases he with he | rfl
  ·exact ih e he
  ·exact zbu _ _
theorem zu1 {d:List UInt8} {j:Nat} (hs:zra (fun i=>(runQ (rdN d).2 i).2.2) (rdN d).1 j) :
  ((zd6 (rdC d j).2.1 (rdC d j).2.2=0∧zcf (rdC d j).1=(0,d))↔zcf (zbh d)=(0,d))∧(zcf (zbh d)=(0,d)→(rdC d j).1=zbh d):=by
 have hfwd:(zd6 (rdC d j).2.1 (rdC d j).2.2=0∧zcf (rdC d j).1=(0,d))→(rdC d j).1=zbh d:=by
  rintro ⟨h1,h2⟩
  obtain ⟨_,he⟩:=zj9 h1
  obtain ⟨_,h4,_⟩:=znq h2
  have hq:(runQ (rdN d).2 j).2.2=0:=by
   have he' : (zap (zap (numS (runQ (rdN d).2 j).2.1 (runQ (rdN d).2 j).2.2 8).2.1 (numS (runQ (rdN d).2 j).2.1 (runQ (rdN d).2 j).2.2 8).2.2).2.1 (zap (numS (runQ (rdN d).2 j).2.1 (runQ (rdN d).2 j).2.2 8).2.1 (numS (runQ (rdN d).2 j).2.1 (runQ (rdN d).2 j).2.2 8).2.2).2.2).2.2=0:=he
   exact zmb (zdp (zdp he'))
  have hj:=zns hs hq
  have hr:=zq9 hq
  have hz:(runQ (rdN d).2 0).2.2=0:=by
   by_cases h0:0<j
   ·exact hs.2.1 0 h0
   ·have:j=0:=by omega
    rw[← this];exact hq
  have hn0:(rdN d).2.2=0:=hz
  have e3:=zf5 (zmb hn0)
  have h4' : (runQ (rdN d).2 j).1.length≤4:=h4
  rw[zn1] at h4'
  have hmin:min (rdN d).1 4=j:=by rw[← hj];exact Nat.min_eq_left h4'
  unfold rdC zbh
  simp only[zdg _ e3]
  show (ChgL.mk _ (runQ (rdN d).2 j).1 (numS (runQ (rdN d).2 j).2.1 (runQ (rdN d).2 j).2.2 8).1 _ _)=ChgL.mk _ (runP (rdN d).2 (min (rdN d).1 4)).1 (numS (runP (rdN d).2 (min (rdN d).1 4)).2.1 (runP (rdN d).2 (min (rdN d).1 4)).2.2 8).1 _ _
  have hmin2:min (numS (rawS d 0 32).2.1 (rawS d 0 32).2.2 1).1 4=j:=hmin
  have hr2:runQ (numS (rawS d 0 32).2.1 (rawS d 0 32).2.2 1).2 j=runP (numS (rawS d 0 32).2.1 (rawS d 0 32).2.2 1).2 j:=hr
  unfold rdN
  rw[hmin2,hr2]
 have hbwd:zcf (zbh d)=(0,d)→zd6 (rdC d j).2.1 (rdC d j).2.2=0∧(rdC d j).1=zbh d:=by
  intro h
  obtain ⟨hd,h4,ha,hx⟩:=znq h
  have ht:(zbh d).tree.length=32:=by unfold zbh;exact zbu _ _
  have hp:∀ x∈(zbh d).pars,x.length=32:=by unfold zbh;exact zrs _ _
  have htm:(zbh d).time<18446744073709551616:=by unfold zbh;exact zn0 _ _
  obtain ⟨c,hc⟩:∃ c,c=zbh d:=⟨_,rfl⟩
  rw[← hc] at hd h4 ha hx ht hp htm ⊢
  obtain ⟨tree,pars,time,author,text⟩:=c
  simp only at hd h4 ha hx ht hp htm
  have e1:d=tree++(lb pars.length 1++(pars.flatten++(lb time 8++(layS author++(layS text++[]))))):=by rw[hd];simp[chgB]
  have h1:=zef tree (lb pars.length 1++(pars.flatten++(lb time 8++(layS author++(layS text++[]))))) 32 ht
  have h2:=zf4 pars.length (by omega) (pars.flatten++(lb time 8++(layS author++(layS text++[]))))
  have h4b:=zk1 time htm (layS author++(layS text++[]))
  have h5:=zcx author (layS text++[]) (by omega)
  have h6:=zcx text [] (by omega)
  rw[← e1,show ((32:Nat):Int)=32 from rfl] at h1
  have hN:rdN d=(pars.length,pars.flatten++(lb time 8++(layS author++(layS text++[]))),0):=by
   unfold rdN
   rw[h1]
   exact h2
  rw[hN] at hs
  simp only at hs
  have hrun:=zu0 pars (lb time 8++(layS author++(layS text++[]))) hp
  have hj:j=pars.length:=by
   rcases hs.2.2 with h7 | h7
   ·exact h7
   ·have:=hrun j hs.1
    have h8:(runQ (pars.flatten++(lb time 8++(layS author++(layS text++[]))),0) j).2.2=0:=by rw[this]
    exact absurd h8 h7
  have hrj:=hrun pars.length (Nat.le_refl _)
  rw[List.take_of_length_le (Nat.le_refl _),List.drop_of_length_le (Nat.le_refl _),List.flatten_nil,List.nil_append] at hrj
  have hr:rdC d j=(⟨tree,pars,time,author,text⟩,[],0):=by
   unfold rdC
   simp only[h1,h2,hj,hrj,h4b,h5,h6]
  rw[hr]
  exact ⟨rfl,rfl⟩
 exact ⟨⟨fun h=>by rw[← hfwd h];exact h.2,fun h=>⟨(hbwd h).1,by rw[(hbwd h).2];exact h⟩⟩,fun h=>(hbwd h).2⟩
set_option maxRecDepth 100000 in
set_option maxHeartbeats 4000000 in
theorem zph (w:World) (a0:Nat) (ao:Option Addr) (ac:Nat) (A:List (List UInt8)) (hA:Stl w a0 ao ac A) (bo:Option Addr) (m bc:Nat) (x:List UInt8) (hm:A.length≤1000000) :
  Calls Tryz.prog 15 #[.agg #[.slice ao A.length ac,.slice bo m bc],.string (str x)] w fun e w'=>∃ r:Int,e = .returned (.int .i64 r)∧w.grownBy w' none∧((r = -1∧x∉A)∨∃ j:Nat,r=(j:Int)∧A[j]? = some x∧x∉A.take j):=by
 obtain ⟨n,hn⟩:∃ n,n=A.length:=⟨_,rfl⟩
 obtain ⟨W0,hW0,hB0,g0⟩:∃ W,W=w.alloc (.cells #[.slice ao A.length ac,.slice bo m bc] 28)∧Blk W w.heap.size 28 [.slice ao A.length ac,.slice bo m bc]∧w.grownBy W none:=zag w _ _
 rw[← hn] at hW0 hB0
 obtain ⟨TX,hTX⟩:∃ T,T=str x:=⟨_,rfl⟩
 rw[← hn,← hTX]
 rw[← hn] at hm
 have hLX:TX.toList=x:=by rw[hTX,za5]
 obtain ⟨HA,HN,HW0,HB0,HG0,HTX⟩:=zh6 hA hn hW0 hB0 g0 hTX
 clear hA hn hTX hW0 hB0 g0
 go_enter Tryz.func15,Tryz.ntmps15
 go_wp2_with (rw[← uh HW0])
 go_loopw [5] (fun i wr=>∃ j:Nat,i = .int .i64 j∧j≤n∧Hid (x∉A.take j)∧W0.grownBy wr none) (fun i _=>n - (intOf i).toNat)
 case atStart=>exact ⟨0,rfl,Nat.zero_le _,(by simp:x∉A.take 0),zab _ _⟩
 case round =>
  obtain ⟨j,rfl,hj,HE,hg⟩:=hrel
  have hc0:wr.cell? ⟨w.heap.size,0,none⟩=some (.slice ao n ac):=by rw[((uh HB0).kept hg (by simp)).cell];rfl
  by_cases hlt:j<n
  ·have hla:j<A.length:=by have:=uh HN;omega
   obtain ⟨b,hao,hc⟩:=((uh HA).kept (tn (uh HG0) hg)).at j hla
   have hta:=List.take_succ_eq_append_getElem hla
   have hin:A[j]∈A:=List.getElem_mem hla
   obtain ⟨F,hF⟩:∃ F,F=A[j]:=⟨_,rfl⟩
   rw[← hF] at hc hta hin
   obtain ⟨TF,hTF⟩:∃ T,T=str F:=⟨_,rfl⟩
   rw[← hTF] at hc
   have hLF:TF.toList=F:=by rw[hTF,za5]
   have hjw:IntKind.i64.wrap ((j:Int)+1)=(j:Int)+1:=by rw[IntKind.wrap_i64];omega
   subst hao
   by_cases hFx:F=x
   ·have hTT:TF=TX:=by rw[hTF,uh HTX,hFx]
    have hat:A[j]? = some x:=by rw[← hFx,hF];simp
    have HAT:=hide hat
    clear hat
    subst hTT
    clear hLF hLX hTF hta hin hFx hF hla
    go_wp2
    go_ret
    exact ⟨(j:Int),rfl,tn (uh HG0) hg,Or.inr ⟨j,rfl,uh HAT,uh HE⟩⟩
   ·have h1:¬ TF.toList=TX.toList:=by rw[hLF,hLX];exact hFx
    have h2:(F == x)=false:=by simpa using hFx
    have hnew:x∉A.take (j+1):=by
     rw[hta]
     intro h
     rcases List.mem_append.1 h with h | h
     ·exact uh HE h
     ·exact hFx (List.mem_singleton.1 h).symm
    have HNW:=hide hnew
    clear hTF hta hin hF hla hnew
    go_wp2
    go_roundw
    case rel=>exact ⟨j+1,by go_num,by omega,HNW,hg⟩
    case measure=>simp[intOf];omega
  ·have hjn:j=A.length:=by have:=uh HN;omega
   have hno:x∉A:=by
    have:=uh HE
    rwa [hjn,List.take_of_length_le (Nat.le_refl _)] at this
   have HNO:=hide hno
   clear hjn hno
   go_wp2
   go_ret
   exact ⟨-1,rfl,tn (uh HG0) hg,Or.inl ⟨rfl,uh HNO⟩⟩
end Go.Proofs.YthhnfloohbdaiaaGreatDoor
