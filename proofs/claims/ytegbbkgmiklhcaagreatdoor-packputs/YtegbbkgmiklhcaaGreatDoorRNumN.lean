/- Lemmas. -/
import Derived.Test.YtegbbkgmiklhcaaGreatDoorMStr
import Derived.Deep.Slices
import Derived.Lib.Strings
namespace Go.Proofs.YtegbbkgmiklhcaaGreatDoor
open Go.RowKit
set_option maxRecDepth 100000
theorem ztp:str []=⟨#[]⟩:=rfl
theorem zrh (l:List UInt8) (n:Nat):(str l).extract n (str l).size=str (l.drop n):=by
 apply ByteArray.ext
 apply Array.toList_inj.1
 rw[Lib.extract_data,zaj]
 show ((l.drop n).take (l.length - n))=l.drop n
 exact List.take_of_length_le (by simp)
theorem zg2 (l:List UInt8) (n:Nat):(str l).extract n l.length=str (l.drop n):=by
 have:=zrh l n
 rwa [zaj] at this
theorem zri (l:List UInt8) (n:Nat):(str l).extract 0 n=str (l.take n):=by
 apply ByteArray.ext
 apply Array.toList_inj.1
 rw[Lib.extract_data]
 show ((l.drop 0).take (n - 0))=l.take n
 simp
abbrev rv (l:List UInt8) (e:Int):Value := .agg #[.string (str l),.int .i64 e]
abbrev rc (l:List UInt8) (e:Int):Obj := .cells #[.string (str l),.int .i64 e] 75
def St (w:World) (b:Nat) (u v:Value):Prop:=w.heap[b]? = some (.cells #[u,v] 75 (0,0))
theorem St.c0 {w:World} {b:Nat} {u v:Value} (h:St w b u v):w.cell? ⟨b,0,none⟩=some u:=by
 unfold St at h;simp[World.cell?,h]
theorem St.c1 {w:World} {b:Nat} {u v:Value} (h:St w b u v):w.cell? ⟨b,1,none⟩=some v:=by
 unfold St at h;simp[World.cell?,h]
theorem St.fz {w:World} {b:Nat} {u v:Value} (h:St w b u v) (o:Nat):w.frozen? ⟨b,o,none⟩=false:=by
 unfold St at h;simp[World.frozen?,h]
theorem St.lt {w:World} {b:Nat} {u v:Value} (h:St w b u v):b<w.heap.size:=(Array.getElem?_eq_some_iff.1 h).1
theorem St.set {w:World} {b:Nat} {u v:Value} (h:St w b u v) (x y:Value):St ((w.setCell ⟨b,0,none⟩ x).setCell ⟨b,1,none⟩ y) b x y:=by
 unfold St at h ⊢;simp[World.setCell,Array.getElem?_modify,h]
theorem St.kept {w a:World} {b:Nat} {u v:Value} {r:Option Nat} (h:St w b u v) (g:w.grownBy a r) (hr:some b≠r):St a b u v:=by
 unfold St;rw[g.block b h.lt hr];exact h
theorem St.new (w:World) (u v:Value):St (w.alloc (.cells #[u,v] 75)) w.heap.size u v:=heap_alloc_new w _
theorem St.new2 (w:World) (o:Obj) (u v:Value):St ((w.alloc o).alloc (.cells #[u,v] 75)) (w.heap.size+1) u v:=by
 have:=St.new (w.alloc o) u v
 rwa [World.size_alloc] at this
theorem St.old {w:World} {b:Nat} {u v:Value} (h:St w b u v) (o:Obj):St (w.alloc o) b u v:=h.kept (World.grownBy_alloc w o none) (by simp)
theorem zum {w a:World} {r:Option Nat} (h:w.grownBy a r):w.grownBy a.drew r:=⟨h.os,h.tape,h.output,h.size,h.block⟩
theorem zjk (w a:World) (b:Nat) (x y:Value) {r:Option Nat} (h:w.grownBy a r) (hb:w.heap.size≤b):w.grownBy ((a.setCell ⟨b,0,none⟩ x).setCell ⟨b,1,none⟩ y) r :=
 zab (zab h ⟨b,0,none⟩ x (Or.inl hb)) ⟨b,1,none⟩ y (Or.inl hb)
theorem zfv (w:World) (l:List UInt8) (e k:Int) :
  Calls Tryz.prog 56 #[.agg #[.string (str l),.int .i64 e],.int .i64 k] w fun r w'=>r = .returned (.agg #[.string (str []),.int .i64 k])∧w.grownBy w' none:=by
 go_enter Tryz.func56,Tryz.ntmps56
 go_wp2
 exact bodyPost_ret (v := .agg #[.string (str []),.int .i64 k]) (by simp[results,Tryz.results56,go_sem,ztp]) rfl ⟨rfl,zad (zad (zaa _ _) _) _⟩
set_option maxHeartbeats 400000 in
theorem zrj (w:World) (l:List UInt8) (e n:Int) (he:e≠0) :
  Calls Tryz.prog 31 #[.agg #[.string (str l),.int .i64 e],.int .i64 n] w fun r w'=>r = .returned (.tuple #[.agg #[.string (str l),.int .i64 e],.int .u64 0])∧w.grownBy w' none:=by
 have he1:(e != 0)=true:=by simpa using he
 clear he
 by_cases hn:8<n
 all_goals
  go_enter Tryz.func31,Tryz.ntmps31
  go_wp2
  exact bodyPost_ret (v := .tuple #[.agg #[.string (str l),.int .i64 e],.int .u64 0]) (by simp[results,Tryz.results31,go_sem]) rfl ⟨rfl,zad (zad (zaa _ _) _) _⟩
set_option maxHeartbeats 400000 in
theorem zpg (w:World) (l:List UInt8) (n:Int) (hn:n<1) :
  Calls Tryz.prog 31 #[.agg #[.string (str l),.int .i64 0],.int .i64 n] w fun r w'=>r = .returned (.tuple #[.agg #[.string (str l),.int .i64 0],.int .u64 0])∧w.grownBy w' none:=by
 go_enter Tryz.func31,Tryz.ntmps31
 go_wp2
 exact bodyPost_ret (v := .tuple #[.agg #[.string (str l),.int .i64 0],.int .u64 0]) (by simp[results,Tryz.results31,go_sem]) rfl ⟨rfl,zad (zad (zaa _ _) _) _⟩
set_option maxHeartbeats 400000 in
theorem zrk (w:World) (l:List UInt8) (n:Int) (k:Nat) (hk:1≤k) (hn:n=(k:Int)∨(8<n∧k=8)) (hk8:k≤8) (hl:l.length<k) :
  Calls Tryz.prog 31 #[.agg #[.string (str l),.int .i64 0],.int .i64 n] w fun r w'=>r = .returned (.tuple #[.agg #[.string (str []),.int .i64 10],.int .u64 0])∧w.grownBy w' none:=by
 have hsz:=zaj l
 rcases hn with rfl | ⟨hn8,hk8⟩
 all_goals
  go_enter Tryz.func31,Tryz.ntmps31
  go_wp2_with fail
  refine (zfv _ _ _ _).mono ?_
  rintro e w1 ⟨rfl,g1⟩
  have hs:=(St.new2 w (.cells #[.string (str l),.int .i64 0] 75) (.string ⟨#[]⟩) (.int .i64 0)).kept g1 (by simp)
  have c0:=hs.c0
  have c1:=hs.c1
  have f0:=hs.fz 0
  have f1:=hs.fz 1
  have hs2:=hs.set (.string (str [])) (.int .i64 10)
  have hG:=zjk w w1 (w.heap.size+1) (.string (str [])) (.int .i64 10) (zae (zad (zad (zaa w none) _) _) g1 (fun _ e=>by cases e)) (by omega)
  have d0:=hs2.c0
  have d1:=hs2.c1
  clear hs hs2 g1
  go_wp2
  exact bodyPost_ret (v := .tuple #[.agg #[.string (str []),.int .i64 10],.int .u64 0]) (by simp[results,Tryz.results31,go_sem,d0,d1]) rfl ⟨rfl,hG⟩
set_option maxHeartbeats 400000 in
theorem zrl (w:World) (l:List UInt8) (n:Int) (k:Nat) (hk:1≤k) (hn:n=(k:Int)∨(8<n∧k=8)) (hk8:k≤8) (hl:k≤l.length) (hb:l.length≤70368744177664) :
  Calls Tryz.prog 31 #[.agg #[.string (str l),.int .i64 0],.int .i64 n] w fun r w'=>r = .returned (.tuple #[.agg #[.string (str (l.drop k)),.int .i64 0],.int .u64 (be (l.take k):Int)])∧w.grownBy w' none:=by
 have hsz:=zaj l
 rcases hn with rfl | ⟨hn8,hk8⟩
 ·skip
  go_enter Tryz.func31,Tryz.ntmps31
  go_wp2
  go_loop [6,7] (fun v i=>∃ j:Nat,j≤k∧i = .int .i64 j∧v = .int .u64 ((be (l.take j):Nat):Int)) (fun _ i=>k - (intOf i).toNat)
  case atStart=>exact ⟨0,Nat.zero_le _,rfl,rfl⟩
  case round =>
   obtain ⟨j,hj,rfl,rfl⟩:=hrel
   by_cases hlt:j<k
   ·have hjl:j<l.length:=by omega
    have hjs:(j:Int)<((str l).size:Int):=by omega
    have hbt:=zfn l j (by omega)
    have hx:=(l[j]).toNat_lt
    have hsn:be (l.take (j+1))=be (l.take j)*256+(l[j]).toNat:=by rw[zdj hjl,zfl]
    have HS:=hide hsn
    have hg:∀ h:j<(str l).size,((str l)[j]'h).toNat=(l[j]).toNat:=fun h=>rfl
    have hxl:∀ h:j<(str l).size,((str l)[j]'h).toNat<256:=fun h=>UInt8.toNat_lt _
    clear hsn
    go_wp2
    go_round
    case rel=>exact ⟨j+1,by omega,by go_num,by have:=uh HS;rw[this];go_num⟩
    case measure=>simp[intOf];omega
   ·have hjk:j=k:=by omega
    have HE:Hid (be (l.take k)=be (l.take j)):=by rw[hjk];exact rfl
    clear hjk
    go_wp2
    exact bodyPost_ret (v := .tuple #[.agg #[.string ((str l).extract k l.length),.int .i64 0],.int .u64 ((be (l.take j):Nat):Int)]) (by simp[results,Tryz.results31,go_sem]) rfl ⟨by rw[zg2,uh HE],zad (zad (zaa _ _) _) _⟩
 ·subst hk8
  go_enter Tryz.func31,Tryz.ntmps31
  go_wp2
  go_loop [6,7] (fun v i=>∃ j:Nat,j≤8∧i = .int .i64 j∧v = .int .u64 ((be (l.take j):Nat):Int)) (fun _ i=>8 - (intOf i).toNat)
  case atStart=>exact ⟨0,Nat.zero_le _,rfl,rfl⟩
  case round =>
   obtain ⟨j,hj,rfl,rfl⟩:=hrel
   by_cases hlt:j<8
   ·have hjl:j<l.length:=by omega
    have hjs:(j:Int)<((str l).size:Int):=by omega
    have hbt:=zfn l j (by omega)
    have hx:=(l[j]).toNat_lt
    have hsn:be (l.take (j+1))=be (l.take j)*256+(l[j]).toNat:=by rw[zdj hjl,zfl]
    have HS:=hide hsn
    have hg:∀ h:j<(str l).size,((str l)[j]'h).toNat=(l[j]).toNat:=fun h=>rfl
    have hxl:∀ h:j<(str l).size,((str l)[j]'h).toNat<256:=fun h=>UInt8.toNat_lt _
    clear hsn
    go_wp2
    go_round
    case rel=>exact ⟨j+1,by omega,by go_num,by have:=uh HS;rw[this];go_num⟩
    case measure=>simp[intOf];omega
   ·have hjk:j=8:=by omega
    have HE:Hid (be (l.take 8)=be (l.take j)):=by rw[hjk];exact rfl
    clear hjk
    go_wp2
    exact bodyPost_ret (v := .tuple #[.agg #[.string ((str l).extract 8 l.length),.int .i64 0],.int .u64 ((be (l.take j):Nat):Int)]) (by simp[results,Tryz.results31,go_sem]) rfl ⟨by rw[zg2,uh HE],zad (zad (zaa _ _) _) _⟩
theorem zdy (w:World) (l:List UInt8) (e n:Int) (hb:l.length≤70368744177664) :
  Calls Tryz.prog 31 #[.agg #[.string (str l),.int .i64 e],.int .i64 n] w fun r w'=>r = .returned (.tuple #[.agg #[.string (str (numS l e n).2.1),.int .i64 (numS l e n).2.2],.int .u64 ((numS l e n).1:Int)])∧w.grownBy w' none:=by
 by_cases he:e=0
 ·subst he
  by_cases hn:n<1
  ·have h0:nb n=0:=by unfold nb;omega
   have e1:numS l 0 n=(0,l,0):=by unfold numS;rw[h0];simp[be]
   rw[e1]
   exact zpg w l n hn
  ·have hn2:n=((nb n:Nat):Int)∨(8<n∧nb n=8):=by unfold nb;omega
   by_cases hl:l.length<nb n
   ·have e1:numS l 0 n=(0,[],10):=by simp[numS,hl]
    rw[e1]
    exact zrk w l n (nb n) (by unfold nb;omega) hn2 (by unfold nb;omega) hl
   ·have e1:numS l 0 n=(be (l.take (nb n)),l.drop (nb n),0):=by simp[numS,hl]
    rw[e1]
    exact zrl w l n (nb n) (by unfold nb;omega) hn2 (by unfold nb;omega) (by omega) hb
 ·have e1:numS l e n=(0,l,e):=by simp[numS,he]
  rw[e1]
  exact zrj w l e n he
end Go.Proofs.YtegbbkgmiklhcaaGreatDoor
