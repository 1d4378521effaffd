/- Lemmas. -/
import Derived.Test.YthhnfloohbdaiaaGreatDoorRPure
import Derived.Test.YthhnfloohbdaiaaGreatDoorRGHas
namespace Go.Proofs.YthhnfloohbdaiaaGreatDoor
open Go.RowKit
theorem zny (l:List UInt8) (k:Int):(numS l k 8).1<18446744073709551616:=by
 have hnb:nb 8=8:=by decide
 unfold numS
 rw[hnb]
 repeat' split
 ·simp
 ·have h1:=ztp (l.take 8)
  have h2:256 ^ (l.take 8).length≤256 ^ 8:=Nat.pow_le_pow_right (by omega) (by simp;omega)
  simp only
  omega
 ·simp
def rdC (d:List UInt8) (j:Nat):ChgL × List UInt8 × Int :=
 let t:=rawS d 0 32
 let n:=numS t.2.1 t.2.2 1
 let q:=runQ n.2 j
 let m:=numS q.2.1 q.2.2 8
 let a:=zap m.2.1 m.2.2
 let x:=zap a.2.1 a.2.2
 (⟨t.1,q.1,m.1,a.1,x.1⟩,x.2)
def rdN (d:List UInt8):Nat × List UInt8 × Int:=numS (rawS d 0 32).2.1 (rawS d 0 32).2.2 1
theorem znz (s:List UInt8 × Int) (j:Nat):(runQ s j).1.length=j:=by
 induction j with
 | zero=>rfl
 | succ j ih=>rw[runQ,zi6];simp[ih]
theorem zrl (s:List UInt8 × Int) (j:Nat):(runQ s j).2.1.length≤s.1.length:=by
 induction j with
 | zero=>exact Nat.le_refl _
 | succ j ih =>
  rw[runQ,zi6]
  exact Nat.le_trans (zcp _ _ _) ih
theorem zpd (s:List UInt8 × Int) (j:Nat):∀ x∈(runQ s j).1,x.length≤32:=by
 induction j with
 | zero=>intro e he;simp[runQ] at he
 | succ j ih =>
  intro e he
  rw[runQ,zi6] at he
  simp only[List.mem_append,List.mem_singleton] at he
  rcases he with he | rfl
  ·exact ih e he
  ·exact zgo _ _ 32
theorem zpe {s:List UInt8 × Int} {j:Nat} {ps:List (List UInt8)} {l' : List UInt8} {e' : Int} (h:runQ s j=(ps,l',e')) {y l3:List UInt8} {e3:Int} (h3:rawS l' e' 32=(y,l3,e3)):runQ s (j+1)=(ps++[y],l3,e3):=by
 rw[runQ,h,zi6]
 simp only[h3]
theorem zum (ps:List (List UInt8)) (m:List UInt8) (h:∀ x∈ps,x.length=32):∀ k,k≤ps.length→runQ (ps.flatten++m,0) k=(ps.take k,(ps.drop k).flatten++m,0):=by
 intro k
 induction k with
 | zero=>intro _;simp[runQ]
 | succ k ih =>
  intro hk
  have h1:=ih (by omega)
  have h32:=h _ (List.getElem_mem (l:=ps) (n:=k) (by omega))
  have h3:=zeh (ps[k]) ((ps.drop (k+1)).flatten++m) 32 h32
  rw[runQ,h1,List.drop_eq_getElem_cons (by omega),List.flatten_cons,List.append_assoc]
  unfold zi6
  simp only
  rw[show (32:Int)=((32:Nat):Int) from rfl,h3,List.take_succ_eq_append_getElem (by omega)]
theorem zrm (s:List UInt8 × Int) (j:Nat):∀ x∈(runP s j).1,x.length=32:=by
 induction j with
 | zero=>intro e he;simp[runP] at he
 | succ j ih =>
  intro e he
  rw[runP,zjy] at he
  simp only[List.mem_append,List.mem_singleton] at he
  rcases he with he | rfl
  ·exact ih e he
  ·exact zbv _ _
theorem zun {d:List UInt8} {j:Nat} (hs:zq4 (fun i=>(runQ (rdN d).2 i).2.2) (rdN d).1 j) :
  ((zd8 (rdC d j).2.1 (rdC d j).2.2=0∧zce (rdC d j).1=(0,d))↔zce (zbf d)=(0,d))∧(zce (zbf d)=(0,d)→(rdC d j).1=zbf d):=by
 have hfwd:(zd8 (rdC d j).2.1 (rdC d j).2.2=0∧zce (rdC d j).1=(0,d))→(rdC d j).1=zbf d:=by
  rintro ⟨h1,h2⟩
  obtain ⟨_,he⟩:=zj3 h1
  obtain ⟨_,h4,_⟩:=znn h2
  have hq:(runQ (rdN d).2 j).2.2=0:=by
   have he' : (zap (zap (numS (runQ (rdN d).2 j).2.1 (runQ (rdN d).2 j).2.2 8).2.1 (numS (runQ (rdN d).2 j).2.1 (runQ (rdN d).2 j).2.2 8).2.2).2.1 (zap (numS (runQ (rdN d).2 j).2.1 (runQ (rdN d).2 j).2.2 8).2.1 (numS (runQ (rdN d).2 j).2.1 (runQ (rdN d).2 j).2.2 8).2.2).2.2).2.2=0:=he
   exact zl8 (zdr (zdr he'))
  have hj:=znp hs hq
  have hr:=zq3 hq
  have hz:(runQ (rdN d).2 0).2.2=0:=by
   by_cases h0:0<j
   ·exact hs.2.1 0 h0
   ·have:j=0:=by omega
    rw[← this];exact hq
  have hn0:(rdN d).2.2=0:=hz
  have e3:=zfz (zl8 hn0)
  have h4' : (runQ (rdN d).2 j).1.length≤4:=h4
  rw[znz] at h4'
  have hmin:min (rdN d).1 4=j:=by rw[← hj];exact Nat.min_eq_left h4'
  unfold rdC zbf
  simp only[zdh _ e3]
  show (ChgL.mk _ (runQ (rdN d).2 j).1 (numS (runQ (rdN d).2 j).2.1 (runQ (rdN d).2 j).2.2 8).1 _ _)=ChgL.mk _ (runP (rdN d).2 (min (rdN d).1 4)).1 (numS (runP (rdN d).2 (min (rdN d).1 4)).2.1 (runP (rdN d).2 (min (rdN d).1 4)).2.2 8).1 _ _
  have hmin2:min (numS (rawS d 0 32).2.1 (rawS d 0 32).2.2 1).1 4=j:=hmin
  have hr2:runQ (numS (rawS d 0 32).2.1 (rawS d 0 32).2.2 1).2 j=runP (numS (rawS d 0 32).2.1 (rawS d 0 32).2.2 1).2 j:=hr
  unfold rdN
  rw[hmin2,hr2]
 have hbwd:zce (zbf d)=(0,d)→zd8 (rdC d j).2.1 (rdC d j).2.2=0∧(rdC d j).1=zbf d:=by
  intro h
  obtain ⟨hd,h4,ha,hx⟩:=znn h
  have ht:(zbf d).tree.length=32:=by unfold zbf;exact zbv _ _
  have hp:∀ x∈(zbf d).pars,x.length=32:=by unfold zbf;exact zrm _ _
  have htm:(zbf d).time<18446744073709551616:=by unfold zbf;exact zny _ _
  obtain ⟨c,hc⟩:∃ c,c=zbf d:=⟨_,rfl⟩
  rw[← hc] at hd h4 ha hx ht hp htm ⊢
  obtain ⟨tree,pars,time,author,text⟩:=c
  simp only at hd h4 ha hx ht hp htm
  have e1:d=tree++(lb pars.length 1++(pars.flatten++(lb time 8++(layS author++(layS text++[]))))):=by rw[hd];simp[chgB]
  have h1:=zeh tree (lb pars.length 1++(pars.flatten++(lb time 8++(layS author++(layS text++[]))))) 32 ht
  have h2:=zfy pars.length (by omega) (pars.flatten++(lb time 8++(layS author++(layS text++[]))))
  have h4b:=zkw time htm (layS author++(layS text++[]))
  have h5:=zct author (layS text++[]) (by omega)
  have h6:=zct text [] (by omega)
  rw[← e1,show ((32:Nat):Int)=32 from rfl] at h1
  have hN:rdN d=(pars.length,pars.flatten++(lb time 8++(layS author++(layS text++[]))),0):=by
   unfold rdN
   rw[h1]
   exact h2
  rw[hN] at hs
  simp only at hs
  have hrun:=zum pars (lb time 8++(layS author++(layS text++[]))) hp
  have hj:j=pars.length:=by
   rcases hs.2.2 with h7 | h7
   ·exact h7
   ·have:=hrun j hs.1
    have h8:(runQ (pars.flatten++(lb time 8++(layS author++(layS text++[]))),0) j).2.2=0:=by rw[this]
    exact absurd h8 h7
  have hrj:=hrun pars.length (Nat.le_refl _)
  rw[List.take_of_length_le (Nat.le_refl _),List.drop_of_length_le (Nat.le_refl _),List.flatten_nil,List.nil_append] at hrj
  have hr:rdC d j=(⟨tree,pars,time,author,text⟩,[],0):=by
   unfold rdC
   simp only[h1,h2,hj,hrj,h4b,h5,h6]
  rw[hr]
  exact ⟨rfl,rfl⟩
 exact ⟨⟨fun h=>by rw[← hfwd h];exact h.2,fun h=>⟨(hbwd h).1,by rw[(hbwd h).2];exact h⟩⟩,fun h=>(hbwd h).2⟩
end Go.Proofs.YthhnfloohbdaiaaGreatDoor
