/- Lemmas. -/
import Derived.Test.YtegbbkgmiklhcaaGreatDoorRPut
import Derived.Test.YtegbbkgmiklhcaaGreatDoorRNumN
import Derived.Lib.Strings
namespace Go.Proofs.YtegbbkgmiklhcaaGreatDoor
open Go.RowKit
set_option maxRecDepth 100000
set_option maxHeartbeats 400000 in
theorem zfb (w:World) (l:List UInt8) (e n:Int) (_hb:l.length≤70368744177664) :
  Calls Tryz.prog 57 #[.agg #[.string (str l),.int .i64 e],.int .i64 n] w fun r w'=>r = .returned (.tuple #[.agg #[.string (str (rawS l e n).2.1),.int .i64 (rawS l e n).2.2],.string (str (rawS l e n).1)])∧w.grownBy w' none:=by
 have hsz:=zaj l
 by_cases he:e=0
 ·subst he
  by_cases hn:n<1
  ·have e1:rawS l 0 n=([],l,0):=by unfold rawS;rw[show n.toNat=0 from by omega];simp
   rw[e1]
   clear e1
   go_enter Tryz.func57,Tryz.ntmps57
   go_wp2
   exact bodyPost_ret (v := .tuple #[.agg #[.string (str l),.int .i64 0],.string ⟨#[]⟩]) (by simp[results,Tryz.results57,go_sem]) rfl ⟨rfl,zad (zad (zaa _ _) _) _⟩
  ·obtain ⟨k,hk⟩:∃ k:Nat,n=(k:Int):=⟨n.toNat,by omega⟩
   subst hk
   by_cases hl:l.length<k
   ·have e1:rawS l 0 (k:Int)=([],[],10):=by simp[rawS,hl]
    rw[e1]
    clear e1
    go_enter Tryz.func57,Tryz.ntmps57
    go_wp2_with fail
    refine (zfv _ _ _ _).mono ?_
    rintro e w1 ⟨rfl,g1⟩
    have hs:=(St.new2 w (.cells #[.string (str l),.int .i64 0] 75) (.string ⟨#[]⟩) (.int .i64 0)).kept g1 (by simp)
    have c0:=hs.c0
    have c1:=hs.c1
    have f0:=hs.fz 0
    have f1:=hs.fz 1
    have hs2:=hs.set (.string (str [])) (.int .i64 10)
    have hG:=zjo w w1 (w.heap.size+1) (.string (str [])) (.int .i64 10) (zae (zad (zad (zaa w none) _) _) g1 (fun _ e=>by cases e)) (by omega)
    have d0:=hs2.c0
    have d1:=hs2.c1
    clear hs hs2 g1
    go_wp2
    exact bodyPost_ret (v := .tuple #[.agg #[.string (str []),.int .i64 10],.string ⟨#[]⟩]) (by simp[results,Tryz.results57,go_sem,d0,d1]) rfl ⟨rfl,hG⟩
   ·have e1:rawS l 0 (k:Int)=(l.take k,l.drop k,0):=by simp[rawS,hl]
    rw[e1]
    clear e1
    have hk1:1≤k:=by omega
    have hkl:k≤l.length:=by omega
    go_enter Tryz.func57,Tryz.ntmps57
    go_wp2
    go_region
    all_goals (try go_wp2)
    exact bodyPost_ret (v := .tuple #[.agg #[.string ((str l).extract k l.length),.int .i64 0],.string ((str l).extract 0 k)]) (by simp[results,Tryz.results57,go_sem]) rfl ⟨by rw[zg6,zru],zuu (zad (zad (zaa _ _) _) _)⟩
 ·have e1:rawS l e n=([],l,e):=by simp[rawS,he]
  rw[e1]
  have he1:(e != 0)=true:=by simpa using he
  clear e1 he
  go_enter Tryz.func57,Tryz.ntmps57
  go_wp2
  exact bodyPost_ret (v := .tuple #[.agg #[.string (str l),.int .i64 e],.string ⟨#[]⟩]) (by simp[results,Tryz.results57,go_sem]) rfl ⟨rfl,zad (zad (zaa _ _) _) _⟩
theorem zfc (w:World) (l:List UInt8) (e:Int) (hb:l.length≤70368744177664):Calls Tryz.prog 33 #[.agg #[.string (str l),.int .i64 e]] w fun r w'=>r = .returned (.int .i64 (zb4 l e))∧w.grownBy w' none:=by
 have hsz:=zaj l
 by_cases he:e=0
 ·subst he
  by_cases hl:l=[]
  ·have e1:zb4 l 0=0:=by simp[zb4,hl]
   rw[e1]
   have hl0:l.length≤0:=by rw[hl];exact Nat.le_refl _
   clear e1 hl
   go_enter Tryz.func33,Tryz.ntmps33
   go_wp2
   go_ret
   exact ⟨rfl,zad (zaa _ _) _⟩
  ·have e1:zb4 l 0=11:=by simp[zb4,hl]
   rw[e1]
   have hl0:=List.length_pos_iff.2 hl
   clear e1 hl
   go_enter Tryz.func33,Tryz.ntmps33
   go_wp2
   go_ret
   exact ⟨rfl,zad (zaa _ _) _⟩
 ·have e1:zb4 l e=e:=by simp[zb4,he]
  rw[e1]
  have he1:(e == 0)=false:=by simpa using he
  clear e1 he
  go_enter Tryz.func33,Tryz.ntmps33
  go_wp2
  go_ret
  exact ⟨rfl,zad (zaa _ _) _⟩
set_option maxHeartbeats 400000 in
theorem zph (w:World) (l:List UInt8) (e:Int) (v:Nat) (l1:List UInt8) (e1:Int) (hn:numS l e 4=(v,l1,e1)) (he:e1≠0) (hb:l.length≤70368744177664) :
  Calls Tryz.prog 32 #[.agg #[.string (str l),.int .i64 e]] w fun r w'=>r = .returned (.tuple #[.agg #[.string (str l1),.int .i64 e1],.string (str [])])∧w.grownBy w' none:=by
 have h1:=fun W=>zc2 W l e 4 hb
 simp only[hn] at h1
 have he1:(e1 != 0)=true:=by simpa using he
 clear hn he
 go_enter Tryz.func32,Tryz.ntmps32
 go_wp2_with fail
 refine (h1 _).mono ?_
 rintro r w1 ⟨rfl,g1⟩
 have hs:=(St.new2 w (.cells #[.string (str l),.int .i64 e] 75) (.string ⟨#[]⟩) (.int .i64 0)).kept g1 (by simp)
 have hlt:=hs.lt
 have c0:=hs.c0
 have c1:=hs.c1
 have f0:=hs.fz 0
 have f1:=hs.fz 1
 have hs2:=(hs.set (.string (str l1)) (.int .i64 e1)).old (.cells #[.string (str l1),.int .i64 e1] 75)
 have hG:=zad (zjo w w1 (w.heap.size+1) (.string (str l1)) (.int .i64 e1) (zae (zad (zad (zaa w none) _) _) g1 (fun _ e=>by cases e)) (by omega)) (.cells #[.string (str l1),.int .i64 e1] 75)
 have d0:=hs2.c0
 have d1:=hs2.c1
 clear hs hs2 g1 h1
 go_wp2
 exact bodyPost_ret (v := .tuple #[.agg #[.string (str l1),.int .i64 e1],.string ⟨#[]⟩]) (by simp[results,Tryz.results32,go_sem,d0,d1]) rfl ⟨rfl,hG⟩
set_option maxHeartbeats 400000 in
theorem zts (w:World) (l:List UInt8) (e:Int) (v:Nat) (l1:List UInt8) (hn:numS l e 4=(v,l1,0)) (hv:65536<v) (hb:l.length≤70368744177664) :
  Calls Tryz.prog 32 #[.agg #[.string (str l),.int .i64 e]] w fun r w'=>r = .returned (.tuple #[.agg #[.string (str []),.int .i64 3],.string (str [])])∧w.grownBy w' none:=by
 have h1:=fun W=>zc2 W l e 4 hb
 simp only[hn] at h1
 clear hn
 go_enter Tryz.func32,Tryz.ntmps32
 go_wp2_with fail
 refine (h1 _).mono ?_
 rintro r w1 ⟨rfl,g1⟩
 have hs:=(St.new2 w (.cells #[.string (str l),.int .i64 e] 75) (.string ⟨#[]⟩) (.int .i64 0)).kept g1 (by simp)
 have G1:w.grownBy w1 none:=zae (zad (zad (zaa w none) _) _) g1 (fun _ e=>by cases e)
 have hlt:=hs.lt
 clear g1 h1
 go_wp2_with fail
 refine (zfv _ _ _ _).mono ?_
 rintro r w2 ⟨rfl,g2⟩
 have hs':=(hs.old (.cells #[.string (str l1),.int .i64 0] 75)).kept g2 (by simp)
 have c0:=hs'.c0
 have c1:=hs'.c1
 have f0:=hs'.fz 0
 have f1:=hs'.fz 1
 have hs2:=hs'.set (.string (str [])) (.int .i64 3)
 have hG:=zjo w w2 (w.heap.size+1) (.string (str [])) (.int .i64 3) (zae (zad G1 _) g2 (fun _ e=>by cases e)) (by omega)
 have d0:=hs2.c0
 have d1:=hs2.c1
 clear hs hs' hs2 g2
 go_wp2
 exact bodyPost_ret (v := .tuple #[.agg #[.string (str []),.int .i64 3],.string ⟨#[]⟩]) (by simp[results,Tryz.results32,go_sem,d0,d1]) rfl ⟨rfl,hG⟩
set_option maxHeartbeats 400000 in
theorem zuv (w:World) (l:List UInt8) (e:Int) (v:Nat) (l1 x l2:List UInt8) (e2:Int) (hn:numS l e 4=(v,l1,0)) (hv:v≤65536) (hr:rawS l1 0 (v:Int)=(x,l2,e2)) (hb:l.length≤70368744177664) (hb1:l1.length≤70368744177664) :
  Calls Tryz.prog 32 #[.agg #[.string (str l),.int .i64 e]] w fun r w'=>r = .returned (.tuple #[.agg #[.string (str l2),.int .i64 e2],.string (str x)])∧w.grownBy w' none:=by
 have h1:=fun W=>zc2 W l e 4 hb
 have h2:=fun W=>zfb W l1 0 (v:Int) hb1
 simp only[hn] at h1
 simp only[hr] at h2
 clear hn hr
 go_enter Tryz.func32,Tryz.ntmps32
 go_wp2_with fail
 refine (h1 _).mono ?_
 rintro r w1 ⟨rfl,g1⟩
 have hs:=(St.new2 w (.cells #[.string (str l),.int .i64 e] 75) (.string ⟨#[]⟩) (.int .i64 0)).kept g1 (by simp)
 have G1:w.grownBy w1 none:=zae (zad (zad (zaa w none) _) _) g1 (fun _ e=>by cases e)
 have hlt:=hs.lt
 clear g1 h1
 go_wp2_with fail
 refine (h2 _).mono ?_
 rintro r w2 ⟨rfl,g2⟩
 have hs':=(hs.old (.cells #[.string (str l1),.int .i64 0] 75)).kept g2 (by simp)
 have c0:=hs'.c0
 have c1:=hs'.c1
 have f0:=hs'.fz 0
 have f1:=hs'.fz 1
 have hs2:=hs'.set (.string (str l2)) (.int .i64 e2)
 have hG:=zjo w w2 (w.heap.size+1) (.string (str l2)) (.int .i64 e2) (zae (zad G1 _) g2 (fun _ e=>by cases e)) (by omega)
 have d0:=hs2.c0
 have d1:=hs2.c1
 clear hs hs' hs2 g2 h2
 go_wp2
 exact bodyPost_ret (v := .tuple #[.agg #[.string (str l2),.int .i64 e2],.string (str x)]) (by simp[results,Tryz.results32,go_sem,d0,d1]) rfl ⟨rfl,hG⟩
theorem zfw (w:World) (l:List UInt8) (e:Int) (hb:l.length≤70368744177664) :
  Calls Tryz.prog 32 #[.agg #[.string (str l),.int .i64 e]] w fun r w'=>r = .returned (.tuple #[.agg #[.string (str (zal l e).2.1),.int .i64 (zal l e).2.2],.string (str (zal l e).1)])∧w.grownBy w' none:=by
 have hnb:nb 4=4:=by decide
 by_cases hk:e=0
 ·subst hk
  by_cases h4:l.length<4
  ·have e1:numS l 0 4=(0,[],10):=by simp[numS,hnb,h4]
   have e2:zal l 0=([],[],10):=by simp[zal,h4]
   rw[e2]
   exact zph w l 0 0 [] 10 e1 (by decide) hb
  ·have e1:numS l 0 4=(be (l.take 4),l.drop 4,0):=by simp[numS,hnb,h4]
   by_cases hbg:65536<be (l.take 4)
   ·have e2:zal l 0=([],[],3):=by simp[zal,h4,hbg]
    rw[e2]
    exact zts w l 0 _ _ e1 hbg hb
   ·have e2:zal l 0=rawS (l.drop 4) 0 ((be (l.take 4):Nat):Int):=by
     by_cases hr:l.length<4+be (l.take 4)
     ·simp only[zal,rawS,Int.toNat_natCast,List.length_drop,if_true,if_neg h4,if_neg hbg,if_pos hr]
      rw[if_pos (by omega)]
     ·simp only[zal,rawS,Int.toNat_natCast,List.length_drop,if_true,if_neg h4,if_neg hbg,if_neg hr]
      rw[if_neg (by omega)]
    rw[e2]
    exact zuv w l 0 _ _ _ _ _ e1 (by omega) rfl hb (by simp;omega)
 ·have e1:numS l e 4=(0,l,e):=by simp[numS,hk]
  have e2:zal l e=([],l,e):=by simp[zal,hk]
  rw[e2]
  exact zph w l e 0 l e e1 hk hb
end Go.Proofs.YtegbbkgmiklhcaaGreatDoor
