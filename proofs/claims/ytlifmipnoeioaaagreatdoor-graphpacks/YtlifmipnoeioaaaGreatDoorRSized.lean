/- Lemmas. -/
import Derived.Test.YtlifmipnoeioaaaGreatDoorRPut
import Derived.Lib.Strings
namespace Go.Proofs.YtlifmipnoeioaaaGreatDoor
open Go.RowKit
theorem str_nil:str []=⟨#[]⟩:=rfl
theorem str_drop (l:List UInt8) (n:Nat):(str l).extract n (str l).size=str (l.drop n):=by
 apply ByteArray.ext
 apply Array.toList_inj.1
 rw [Lib.extract_data,str_size]
 show ((l.drop n).take (l.length - n))=l.drop n
 exact List.take_of_length_le (by simp)
theorem str_drop' (l:List UInt8) (n:Nat):(str l).extract n l.length=str (l.drop n):=by
 have:=str_drop l n
 rwa [str_size] at this
theorem str_take (l:List UInt8) (n:Nat):(str l).extract 0 n=str (l.take n):=by
 apply ByteArray.ext
 apply Array.toList_inj.1
 rw [Lib.extract_data]
 show ((l.drop 0).take (n - 0))=l.take n
 simp
abbrev rv (l:List UInt8) (e:Int):Value := .agg #[.string (str l),.int .i64 e]
abbrev rc (l:List UInt8) (e:Int):Obj := .cells #[.string (str l),.int .i64 e] 185
def St (w:World) (b:Nat) (u v:Value):Prop:=w.heap[b]? = some (.cells #[u,v] 185 (0,0))
theorem St.c0 {w:World} {b:Nat} {u v:Value} (h:St w b u v):w.cell? ⟨b,0,none⟩=some u:=by
 unfold St at h;simp [World.cell?,h]
theorem St.c1 {w:World} {b:Nat} {u v:Value} (h:St w b u v):w.cell? ⟨b,1,none⟩=some v:=by
 unfold St at h;simp [World.cell?,h]
theorem St.fz {w:World} {b:Nat} {u v:Value} (h:St w b u v) (o:Nat):w.frozen? ⟨b,o,none⟩=false:=by
 unfold St at h;simp [World.frozen?,h]
theorem St.lt {w:World} {b:Nat} {u v:Value} (h:St w b u v):b<w.heap.size:=(Array.getElem?_eq_some_iff.1 h).1
theorem St.set {w:World} {b:Nat} {u v:Value} (h:St w b u v) (x y:Value):St ((w.setCell ⟨b,0,none⟩ x).setCell ⟨b,1,none⟩ y) b x y:=by
 unfold St at h ⊢;simp [World.setCell,Array.getElem?_modify,h]
theorem St.kept {w a:World} {b:Nat} {u v:Value} {r:Option Nat} (h:St w b u v) (g:w.grownBy a r) (hr:some b≠r):St a b u v:=by
 unfold St;rw [g.block b h.lt hr];exact h
theorem St.new (w:World) (u v:Value):St (w.alloc (.cells #[u,v] 185)) w.heap.size u v:=heap_alloc_new w _
theorem St.new2 (w:World) (o:Obj) (u v:Value):St ((w.alloc o).alloc (.cells #[u,v] 185)) (w.heap.size+1) u v:=by
 have:=St.new (w.alloc o) u v
 rwa [World.size_alloc] at this
theorem St.old {w:World} {b:Nat} {u v:Value} (h:St w b u v) (o:Obj):St (w.alloc o) b u v:=h.kept (World.grownBy_alloc w o none) (by simp)
theorem gb_drw {w a:World} {r:Option Nat} (h:w.grownBy a r):w.grownBy a.drew r:=⟨h.os,h.tape,h.output,h.size,h.block⟩
theorem gb_two (w a:World) (b:Nat) (x y:Value) {r:Option Nat} (h:w.grownBy a r) (hb:w.heap.size≤b):w.grownBy ((a.setCell ⟨b,0,none⟩ x).setCell ⟨b,1,none⟩ y) r :=
 gb_setCell (gb_setCell h ⟨b,0,none⟩ x (Or.inl hb)) ⟨b,1,none⟩ y (Or.inl hb)
theorem rwrong_any (w:World) (l:List UInt8) (e k:Int) :
  Calls Tryz.prog 140 #[.agg #[.string (str l),.int .i64 e],.int .i64 k] w fun r w'=>r = .returned (.agg #[.string (str []),.int .i64 k])∧w.grownBy w' none:=by
 go_enter Tryz.func140,Tryz.ntmps140
 go_wp2
 exact bodyPost_ret (v := .agg #[.string (str []),.int .i64 k]) (by simp [results,Tryz.results140,go_sem,str_nil]) rfl ⟨rfl,gb_alloc (gb_alloc (gb_refl _ _) _) _⟩
set_option maxRecDepth 100000 in
set_option maxHeartbeats 400000 in
theorem rnum_bad (w:World) (l:List UInt8) (e n:Int) (he:e≠0) :
  Calls Tryz.prog 107 #[.agg #[.string (str l),.int .i64 e],.int .i64 n] w fun r w'=>r = .returned (.tuple #[.agg #[.string (str l),.int .i64 e],.int .u64 0])∧w.grownBy w' none:=by
 have he1:(e != 0)=true:=by simpa using he
 clear he
 by_cases hn:8<n
 all_goals
  go_enter Tryz.func107,Tryz.ntmps107
  go_wp2
  exact bodyPost_ret (v := .tuple #[.agg #[.string (str l),.int .i64 e],.int .u64 0]) (by simp [results,Tryz.results107,go_sem]) rfl ⟨rfl,gb_alloc (gb_alloc (gb_refl _ _) _) _⟩
set_option maxRecDepth 100000 in
set_option maxHeartbeats 400000 in
theorem rnum_zero (w:World) (l:List UInt8) (n:Int) (hn:n<1) :
  Calls Tryz.prog 107 #[.agg #[.string (str l),.int .i64 0],.int .i64 n] w fun r w'=>r = .returned (.tuple #[.agg #[.string (str l),.int .i64 0],.int .u64 0])∧w.grownBy w' none:=by
 go_enter Tryz.func107,Tryz.ntmps107
 go_wp2
 exact bodyPost_ret (v := .tuple #[.agg #[.string (str l),.int .i64 0],.int .u64 0]) (by simp [results,Tryz.results107,go_sem]) rfl ⟨rfl,gb_alloc (gb_alloc (gb_refl _ _) _) _⟩
set_option maxRecDepth 100000 in
set_option maxHeartbeats 400000 in
theorem rnum_end (w:World) (l:List UInt8) (n:Int) (k:Nat) (hk:1≤k) (hn:n=(k:Int)∨(8<n∧k=8)) (hk8:k≤8) (hl:l.length<k) :
  Calls Tryz.prog 107 #[.agg #[.string (str l),.int .i64 0],.int .i64 n] w fun r w'=>r = .returned (.tuple #[.agg #[.string (str []),.int .i64 10],.int .u64 0])∧w.grownBy w' none:=by
 have hsz:=str_size l
 rcases hn with rfl | ⟨hn8,hk8⟩
 all_goals
  go_enter Tryz.func107,Tryz.ntmps107
  go_wp2_with fail
  refine (rwrong_any _ _ _ _).mono ?_
  rintro e w1 ⟨rfl,g1⟩
  have hs:=(St.new2 w (.cells #[.string (str l),.int .i64 0] 185) (.string ⟨#[]⟩) (.int .i64 0)).kept g1 (by simp)
  have c0:=hs.c0
  have c1:=hs.c1
  have f0:=hs.fz 0
  have f1:=hs.fz 1
  have hs2:=hs.set (.string (str [])) (.int .i64 10)
  have hG:=gb_two w w1 (w.heap.size+1) (.string (str [])) (.int .i64 10) (gb_trans (gb_alloc (gb_alloc (gb_refl w none) _) _) g1 (fun _ e=>by cases e)) (by omega)
  have d0:=hs2.c0
  have d1:=hs2.c1
  clear hs hs2 g1
  go_wp2
  exact bodyPost_ret (v := .tuple #[.agg #[.string (str []),.int .i64 10],.int .u64 0]) (by simp [results,Tryz.results107,go_sem,d0,d1]) rfl ⟨rfl,hG⟩
set_option maxRecDepth 100000 in
set_option maxHeartbeats 400000 in
theorem rnum_yes (w:World) (l:List UInt8) (n:Int) (k:Nat) (hk:1≤k) (hn:n=(k:Int)∨(8<n∧k=8)) (hk8:k≤8) (hl:k≤l.length) (hb:l.length≤70368744177664) :
  Calls Tryz.prog 107 #[.agg #[.string (str l),.int .i64 0],.int .i64 n] w fun r w'=>r = .returned (.tuple #[.agg #[.string (str (l.drop k)),.int .i64 0],.int .u64 (be (l.take k):Int)])∧w.grownBy w' none:=by
 have hsz:=str_size l
 rcases hn with rfl | ⟨hn8,hk8⟩
 ·skip
  go_enter Tryz.func107,Tryz.ntmps107
  go_wp2
  go_loop [6,7] (fun v i=>∃ j:Nat,j≤k∧i = .int .i64 j∧v = .int .u64 ((be (l.take j):Nat):Int)) (fun _ i=>k - (intOf i).toNat)
  case atStart=>exact ⟨0,Nat.zero_le _,rfl,rfl⟩
  case round =>
   obtain ⟨j,hj,rfl,rfl⟩:=hrel
   by_cases hlt:j<k
   ·have hjl:j<l.length:=by omega
    have hjs:(j:Int)<((str l).size:Int):=by omega
    have hbt:=be_take_lt l j (by omega)
    have hx:=(l[j]).toNat_lt
    have hsn:be (l.take (j+1))=be (l.take j)*256+(l[j]).toNat:=by rw [take_snoc hjl,be_snoc]
    have HS:=hide hsn
    have hg:∀ h:j<(str l).size,((str l)[j]'h).toNat=(l[j]).toNat:=fun h=>rfl
    have hxl:∀ h:j<(str l).size,((str l)[j]'h).toNat<256:=fun h=>UInt8.toNat_lt _
    clear hsn
    go_wp2
    go_round
    case rel=>exact ⟨j+1,by omega,by go_num,by have:=uh HS;rw [this];go_num⟩
    case measure=>simp [intOf];omega
   ·have hjk:j=k:=by omega
    have HE:Hid (be (l.take k)=be (l.take j)):=by rw [hjk];exact rfl
    clear hjk
    go_wp2
    exact bodyPost_ret (v := .tuple #[.agg #[.string ((str l).extract k l.length),.int .i64 0],.int .u64 ((be (l.take j):Nat):Int)]) (by simp [results,Tryz.results107,go_sem]) rfl ⟨by rw [str_drop',uh HE],gb_alloc (gb_alloc (gb_refl _ _) _) _⟩
 ·subst hk8
  go_enter Tryz.func107,Tryz.ntmps107
  go_wp2
  go_loop [6,7] (fun v i=>∃ j:Nat,j≤8∧i = .int .i64 j∧v = .int .u64 ((be (l.take j):Nat):Int)) (fun _ i=>8 - (intOf i).toNat)
  case atStart=>exact ⟨0,Nat.zero_le _,rfl,rfl⟩
  case round =>
   obtain ⟨j,hj,rfl,rfl⟩:=hrel
   by_cases hlt:j<8
   ·have hjl:j<l.length:=by omega
    have hjs:(j:Int)<((str l).size:Int):=by omega
    have hbt:=be_take_lt l j (by omega)
    have hx:=(l[j]).toNat_lt
    have hsn:be (l.take (j+1))=be (l.take j)*256+(l[j]).toNat:=by rw [take_snoc hjl,be_snoc]
    have HS:=hide hsn
    have hg:∀ h:j<(str l).size,((str l)[j]'h).toNat=(l[j]).toNat:=fun h=>rfl
    have hxl:∀ h:j<(str l).size,((str l)[j]'h).toNat<256:=fun h=>UInt8.toNat_lt _
    clear hsn
    go_wp2
    go_round
    case rel=>exact ⟨j+1,by omega,by go_num,by have:=uh HS;rw [this];go_num⟩
    case measure=>simp [intOf];omega
   ·have hjk:j=8:=by omega
    have HE:Hid (be (l.take 8)=be (l.take j)):=by rw [hjk];exact rfl
    clear hjk
    go_wp2
    exact bodyPost_ret (v := .tuple #[.agg #[.string ((str l).extract 8 l.length),.int .i64 0],.int .u64 ((be (l.take j):Nat):Int)]) (by simp [results,Tryz.results107,go_sem]) rfl ⟨by rw [str_drop',uh HE],gb_alloc (gb_alloc (gb_refl _ _) _) _⟩
theorem rnum_any (w:World) (l:List UInt8) (e n:Int) (hb:l.length≤70368744177664) :
  Calls Tryz.prog 107 #[.agg #[.string (str l),.int .i64 e],.int .i64 n] w fun r w'=>r = .returned (.tuple #[.agg #[.string (str (numS l e n).2.1),.int .i64 (numS l e n).2.2],.int .u64 ((numS l e n).1:Int)])∧w.grownBy w' none:=by
 by_cases he:e=0
 ·subst he
  by_cases hn:n<1
  ·have h0:nb n=0:=by unfold nb;omega
   have e1:numS l 0 n=(0,l,0):=by unfold numS;rw [h0];simp [be]
   rw [e1]
   exact rnum_zero w l n hn
  ·have hn2:n=((nb n:Nat):Int)∨(8<n∧nb n=8):=by unfold nb;omega
   by_cases hl:l.length<nb n
   ·have e1:numS l 0 n=(0,[],10):=by simp [numS,hl]
    rw [e1]
    exact rnum_end w l n (nb n) (by unfold nb;omega) hn2 (by unfold nb;omega) hl
   ·have e1:numS l 0 n=(be (l.take (nb n)),l.drop (nb n),0):=by simp [numS,hl]
    rw [e1]
    exact rnum_yes w l n (nb n) (by unfold nb;omega) hn2 (by unfold nb;omega) (by omega) hb
 ·have e1:numS l e n=(0,l,e):=by simp [numS,he]
  rw [e1]
  exact rnum_bad w l e n he
set_option maxRecDepth 100000 in
set_option maxHeartbeats 400000 in
theorem rraw_any (w:World) (l:List UInt8) (e n:Int) (_hb:l.length≤70368744177664) :
  Calls Tryz.prog 106 #[.agg #[.string (str l),.int .i64 e],.int .i64 n] w fun r w'=>r = .returned (.tuple #[.agg #[.string (str (rawS l e n).2.1),.int .i64 (rawS l e n).2.2],.string (str (rawS l e n).1)])∧w.grownBy w' none:=by
 have hsz:=str_size l
 by_cases he:e=0
 ·subst he
  by_cases hn:n<1
  ·have e1:rawS l 0 n=([],l,0):=by unfold rawS;rw [show n.toNat=0 from by omega];simp
   rw [e1]
   clear e1
   go_enter Tryz.func106,Tryz.ntmps106
   go_wp2
   exact bodyPost_ret (v := .tuple #[.agg #[.string (str l),.int .i64 0],.string ⟨#[]⟩]) (by simp [results,Tryz.results106,go_sem]) rfl ⟨rfl,gb_alloc (gb_alloc (gb_refl _ _) _) _⟩
  ·obtain ⟨k,hk⟩:∃ k:Nat,n=(k:Int):=⟨n.toNat,by omega⟩
   subst hk
   by_cases hl:l.length<k
   ·have e1:rawS l 0 (k:Int)=([],[],10):=by simp [rawS,hl]
    rw [e1]
    clear e1
    go_enter Tryz.func106,Tryz.ntmps106
    go_wp2_with fail
    refine (rwrong_any _ _ _ _).mono ?_
    rintro e w1 ⟨rfl,g1⟩
    have hs:=(St.new2 w (.cells #[.string (str l),.int .i64 0] 185) (.string ⟨#[]⟩) (.int .i64 0)).kept g1 (by simp)
    have c0:=hs.c0
    have c1:=hs.c1
    have f0:=hs.fz 0
    have f1:=hs.fz 1
    have hs2:=hs.set (.string (str [])) (.int .i64 10)
    have hG:=gb_two w w1 (w.heap.size+1) (.string (str [])) (.int .i64 10) (gb_trans (gb_alloc (gb_alloc (gb_refl w none) _) _) g1 (fun _ e=>by cases e)) (by omega)
    have d0:=hs2.c0
    have d1:=hs2.c1
    clear hs hs2 g1
    go_wp2
    exact bodyPost_ret (v := .tuple #[.agg #[.string (str []),.int .i64 10],.string ⟨#[]⟩]) (by simp [results,Tryz.results106,go_sem,d0,d1]) rfl ⟨rfl,hG⟩
   ·have e1:rawS l 0 (k:Int)=(l.take k,l.drop k,0):=by simp [rawS,hl]
    rw [e1]
    clear e1
    have hk1:1≤k:=by omega
    have hkl:k≤l.length:=by omega
    go_enter Tryz.func106,Tryz.ntmps106
    go_wp2
    go_region
    all_goals (try go_wp2)
    exact bodyPost_ret (v := .tuple #[.agg #[.string ((str l).extract k l.length),.int .i64 0],.string ((str l).extract 0 k)]) (by simp [results,Tryz.results106,go_sem]) rfl ⟨by rw [str_drop',str_take],gb_drw (gb_alloc (gb_alloc (gb_refl _ _) _) _)⟩
 ·have e1:rawS l e n=([],l,e):=by simp [rawS,he]
  rw [e1]
  have he1:(e != 0)=true:=by simpa using he
  clear e1 he
  go_enter Tryz.func106,Tryz.ntmps106
  go_wp2
  exact bodyPost_ret (v := .tuple #[.agg #[.string (str l),.int .i64 e],.string ⟨#[]⟩]) (by simp [results,Tryz.results106,go_sem]) rfl ⟨rfl,gb_alloc (gb_alloc (gb_refl _ _) _) _⟩
theorem rdone_any (w:World) (l:List UInt8) (e:Int) (hb:l.length≤70368744177664):Calls Tryz.prog 109 #[.agg #[.string (str l),.int .i64 e]] w fun r w'=>r = .returned (.int .i64 (doneS l e))∧w.grownBy w' none:=by
 have hsz:=str_size l
 by_cases he:e=0
 ·subst he
  by_cases hl:l=[]
  ·have e1:doneS l 0=0:=by simp [doneS,hl]
   rw [e1]
   have hl0:l.length≤0:=by rw [hl];exact Nat.le_refl _
   clear e1 hl
   go_enter Tryz.func109,Tryz.ntmps109
   go_wp2
   go_ret
   exact ⟨rfl,gb_alloc (gb_refl _ _) _⟩
  ·have e1:doneS l 0=11:=by simp [doneS,hl]
   rw [e1]
   have hl0:=List.length_pos_iff.2 hl
   clear e1 hl
   go_enter Tryz.func109,Tryz.ntmps109
   go_wp2
   go_ret
   exact ⟨rfl,gb_alloc (gb_refl _ _) _⟩
 ·have e1:doneS l e=e:=by simp [doneS,he]
  rw [e1]
  have he1:(e == 0)=false:=by simpa using he
  clear e1 he
  go_enter Tryz.func109,Tryz.ntmps109
  go_wp2
  go_ret
  exact ⟨rfl,gb_alloc (gb_refl _ _) _⟩
end Go.Proofs.YtlifmipnoeioaaaGreatDoor

/- Lemmas. -/
namespace Go.Proofs.YtlifmipnoeioaaaGreatDoor
open Go.RowKit
set_option maxRecDepth 100000 in
set_option maxHeartbeats 400000 in
theorem rsz_bad (w:World) (l:List UInt8) (e:Int) (v:Nat) (l1:List UInt8) (e1:Int) (hn:numS l e 4=(v,l1,e1)) (he:e1≠0) (hb:l.length≤70368744177664) :
  Calls Tryz.prog 108 #[.agg #[.string (str l),.int .i64 e]] w fun r w'=>r = .returned (.tuple #[.agg #[.string (str l1),.int .i64 e1],.string (str [])])∧w.grownBy w' none:=by
 have h1:=fun W=>rnum_any W l e 4 hb
 simp only [hn] at h1
 have he1:(e1 != 0)=true:=by simpa using he
 clear hn he
 go_enter Tryz.func108,Tryz.ntmps108
 go_wp2_with fail
 refine (h1 _).mono ?_
 rintro r w1 ⟨rfl,g1⟩
 have hs:=(St.new2 w (.cells #[.string (str l),.int .i64 e] 185) (.string ⟨#[]⟩) (.int .i64 0)).kept g1 (by simp)
 have hlt:=hs.lt
 have c0:=hs.c0
 have c1:=hs.c1
 have f0:=hs.fz 0
 have f1:=hs.fz 1
 have hs2:=(hs.set (.string (str l1)) (.int .i64 e1)).old (.cells #[.string (str l1),.int .i64 e1] 185)
 have hG:=gb_alloc (gb_two w w1 (w.heap.size+1) (.string (str l1)) (.int .i64 e1) (gb_trans (gb_alloc (gb_alloc (gb_refl w none) _) _) g1 (fun _ e=>by cases e)) (by omega)) (.cells #[.string (str l1),.int .i64 e1] 185)
 have d0:=hs2.c0
 have d1:=hs2.c1
 clear hs hs2 g1 h1
 go_wp2
 exact bodyPost_ret (v := .tuple #[.agg #[.string (str l1),.int .i64 e1],.string ⟨#[]⟩]) (by simp [results,Tryz.results108,go_sem,d0,d1]) rfl ⟨rfl,hG⟩
set_option maxRecDepth 100000 in
set_option maxHeartbeats 400000 in
theorem rsz_big (w:World) (l:List UInt8) (e:Int) (v:Nat) (l1:List UInt8) (hn:numS l e 4=(v,l1,0)) (hv:65536<v) (hb:l.length≤70368744177664) :
  Calls Tryz.prog 108 #[.agg #[.string (str l),.int .i64 e]] w fun r w'=>r = .returned (.tuple #[.agg #[.string (str []),.int .i64 3],.string (str [])])∧w.grownBy w' none:=by
 have h1:=fun W=>rnum_any W l e 4 hb
 simp only [hn] at h1
 clear hn
 go_enter Tryz.func108,Tryz.ntmps108
 go_wp2_with fail
 refine (h1 _).mono ?_
 rintro r w1 ⟨rfl,g1⟩
 have hs:=(St.new2 w (.cells #[.string (str l),.int .i64 e] 185) (.string ⟨#[]⟩) (.int .i64 0)).kept g1 (by simp)
 have G1:w.grownBy w1 none:=gb_trans (gb_alloc (gb_alloc (gb_refl w none) _) _) g1 (fun _ e=>by cases e)
 have hlt:=hs.lt
 clear g1 h1
 go_wp2_with fail
 refine (rwrong_any _ _ _ _).mono ?_
 rintro r w2 ⟨rfl,g2⟩
 have hs':=(hs.old (.cells #[.string (str l1),.int .i64 0] 185)).kept g2 (by simp)
 have c0:=hs'.c0
 have c1:=hs'.c1
 have f0:=hs'.fz 0
 have f1:=hs'.fz 1
 have hs2:=hs'.set (.string (str [])) (.int .i64 3)
 have hG:=gb_two w w2 (w.heap.size+1) (.string (str [])) (.int .i64 3) (gb_trans (gb_alloc G1 _) g2 (fun _ e=>by cases e)) (by omega)
 have d0:=hs2.c0
 have d1:=hs2.c1
 clear hs hs' hs2 g2
 go_wp2
 exact bodyPost_ret (v := .tuple #[.agg #[.string (str []),.int .i64 3],.string ⟨#[]⟩]) (by simp [results,Tryz.results108,go_sem,d0,d1]) rfl ⟨rfl,hG⟩
set_option maxRecDepth 100000 in
set_option maxHeartbeats 400000 in
theorem rsz_go (w:World) (l:List UInt8) (e:Int) (v:Nat) (l1 x l2:List UInt8) (e2:Int) (hn:numS l e 4=(v,l1,0)) (hv:v≤65536) (hr:rawS l1 0 (v:Int)=(x,l2,e2)) (hb:l.length≤70368744177664) (hb1:l1.length≤70368744177664) :
  Calls Tryz.prog 108 #[.agg #[.string (str l),.int .i64 e]] w fun r w'=>r = .returned (.tuple #[.agg #[.string (str l2),.int .i64 e2],.string (str x)])∧w.grownBy w' none:=by
 have h1:=fun W=>rnum_any W l e 4 hb
 have h2:=fun W=>rraw_any W l1 0 (v:Int) hb1
 simp only [hn] at h1
 simp only [hr] at h2
 clear hn hr
 go_enter Tryz.func108,Tryz.ntmps108
 go_wp2_with fail
 refine (h1 _).mono ?_
 rintro r w1 ⟨rfl,g1⟩
 have hs:=(St.new2 w (.cells #[.string (str l),.int .i64 e] 185) (.string ⟨#[]⟩) (.int .i64 0)).kept g1 (by simp)
 have G1:w.grownBy w1 none:=gb_trans (gb_alloc (gb_alloc (gb_refl w none) _) _) g1 (fun _ e=>by cases e)
 have hlt:=hs.lt
 clear g1 h1
 go_wp2_with fail
 refine (h2 _).mono ?_
 rintro r w2 ⟨rfl,g2⟩
 have hs':=(hs.old (.cells #[.string (str l1),.int .i64 0] 185)).kept g2 (by simp)
 have c0:=hs'.c0
 have c1:=hs'.c1
 have f0:=hs'.fz 0
 have f1:=hs'.fz 1
 have hs2:=hs'.set (.string (str l2)) (.int .i64 e2)
 have hG:=gb_two w w2 (w.heap.size+1) (.string (str l2)) (.int .i64 e2) (gb_trans (gb_alloc G1 _) g2 (fun _ e=>by cases e)) (by omega)
 have d0:=hs2.c0
 have d1:=hs2.c1
 clear hs hs' hs2 g2 h2
 go_wp2
 exact bodyPost_ret (v := .tuple #[.agg #[.string (str l2),.int .i64 e2],.string (str x)]) (by simp [results,Tryz.results108,go_sem,d0,d1]) rfl ⟨rfl,hG⟩
theorem rsz_any (w:World) (l:List UInt8) (e:Int) (hb:l.length≤70368744177664) :
  Calls Tryz.prog 108 #[.agg #[.string (str l),.int .i64 e]] w fun r w'=>r = .returned (.tuple #[.agg #[.string (str (sizedS l e).2.1),.int .i64 (sizedS l e).2.2],.string (str (sizedS l e).1)])∧w.grownBy w' none:=by
 have hnb:nb 4=4:=by decide
 by_cases hk:e=0
 ·subst hk
  by_cases h4:l.length<4
  ·have e1:numS l 0 4=(0,[],10):=by simp [numS,hnb,h4]
   have e2:sizedS l 0=([],[],10):=by simp [sizedS,h4]
   rw [e2]
   exact rsz_bad w l 0 0 [] 10 e1 (by decide) hb
  ·have e1:numS l 0 4=(be (l.take 4),l.drop 4,0):=by simp [numS,hnb,h4]
   by_cases hbg:65536<be (l.take 4)
   ·have e2:sizedS l 0=([],[],3):=by simp [sizedS,h4,hbg]
    rw [e2]
    exact rsz_big w l 0 _ _ e1 hbg hb
   ·have e2:sizedS l 0=rawS (l.drop 4) 0 ((be (l.take 4):Nat):Int):=by
     by_cases hr:l.length<4+be (l.take 4)
     ·simp only [sizedS,rawS,Int.toNat_natCast,List.length_drop,if_true,if_neg h4,if_neg hbg,if_pos hr]
      rw [if_pos (by omega)]
     ·simp only [sizedS,rawS,Int.toNat_natCast,List.length_drop,if_true,if_neg h4,if_neg hbg,if_neg hr]
      rw [if_neg (by omega)]
    rw [e2]
    exact rsz_go w l 0 _ _ _ _ _ e1 (by omega) rfl hb (by simp;omega)
 ·have e1:numS l e 4=(0,l,e):=by simp [numS,hk]
  have e2:sizedS l e=([],l,e):=by simp [sizedS,hk]
  rw [e2]
  exact rsz_bad w l e 0 l e e1 hk hb
end Go.Proofs.YtlifmipnoeioaaaGreatDoor
