/- Lemmas. -/
import Derived.Test.YtegbbkgmiklhcaaGreatDoorOLayC
import Derived.Test.YtegbbkgmiklhcaaGreatDoorNPtd
import Derived.Test.YtegbbkgmiklhcaaGreatDoorMGrd
import Derived.Deep.RegionHeld3
import Derived.Deep.DrawnRows
import Derived.Deep.DeepCutAuto
namespace Go.Proofs.YtegbbkgmiklhcaaGreatDoor
open Go.RowKit
theorem zlz (w:World) (l:List UInt8) (h:64<l.length) (hl:l.length≤140737488355328):Calls Tryz.prog 135 #[.string (str l)] w fun e w'=>e = .returned (.bool false)∧w.grownBy w' none:=by
 obtain ⟨S,hS⟩:∃ S,S=str l:=⟨_,rfl⟩
 obtain ⟨n,hn⟩:∃ n,n=l.length:=⟨_,rfl⟩
 have hsz:S.size=n:=by rw[hS,zba,hn]
 obtain ⟨LL,hLL⟩:∃ L,L=S.toList:=⟨_,rfl⟩
 have hLl:LL=l:=by rw[hLL,hS,zct]
 have e1:LL.isEmpty=false:=by rw[hLl];cases l with | nil=>simp at h | cons=>rfl
 have n1:¬ LL=[]:=by simpa using e1
 have h64i:(64:Int)<(n:Int):=by omega
 have h47:(n:Int)≤140737488355328:=by omega
 rw[← hS]
 have hT:=hLL.symm
 clear hS hn hl hLL hLl h
 go_enter Tryz.func135,Tryz.ntmps135
 go_wp2
 go_ret
 exact ⟨rfl,zab _ _⟩
theorem zl0 (w:World) (l:List UInt8) (hl:l.length≤140737488355328):Calls Tryz.prog 135 #[.string (str l)] w fun e w'=>e = .returned (.bool (zcj l))∧w.grownBy w' none:=by
 by_cases h:l.length≤64
 ·exact zns w l (by omega)
 ·have:zcj l=false:=by
   unfold zcj
   simp[h]
  rw[this]
  exact zlz w l (by omega) hl
theorem zpi {l:List UInt8} (h:zcj l=true):l.length≤64:=by
 unfold zcj at h
 simp only[Bool.and_eq_true,decide_eq_true_eq] at h
 omega
theorem zkj {es:List EntL} (h:zcx es es.length=true):∀ e∈es,e.name.length≤64:=by
 intro e he
 obtain ⟨i,hi,rfl⟩:=List.getElem_of_mem he
 have h1:=List.all_eq_true.1 h i (List.mem_range.2 hi)
 unfold zfb at h1
 simp only[Bool.and_eq_true] at h1
 have h2:=zpi h1.1
 rwa [show es.getD i default=es[i] by simp[hi]] at h2
theorem zl1 (es:List EntL) (j:Nat) (hj:j<es.length):zfb es j=(zcj es[j].name && (decide (j=0) || za5 (es[j - 1]'(by omega)).name es[j].name)):=by
 have h:j - 1<es.length:=by omega
 unfold zfb
 rw[show es.getD j default=es[j] by simp[hj],show es.getD (j - 1) default=es[j - 1] by simp[h]]
def Made (w w' : World) (K:Int) (r:Int × List UInt8) (e:Ending):Prop:=∃ v,e = .returned (.tuple #[.agg #[.int .i64 (if r.1=0 then K else 0),v],.int .i64 r.1])∧NewB w w' v r.2∧w.grownBy w' none
theorem Made.bad {w w' : World} (K:Int) {r:Int × List UInt8} {k:Int} (hr:r=(k,[])) (hk:k≠0) (g:w.grownBy w' none):Made w w' K r (.returned (.tuple #[.agg #[.int .i64 0,.slice none 0 0],.int .i64 k])):=by
 subst hr
 exact ⟨_,by simp[hk],NewB.nil _ _,g⟩
theorem zdo {K:Int} {v:Value} (h:v.oneCell'=true):(#[.int .i64 K,v]:Array Value).all (·.oneCell')=true :=
 all_oneCell_toArray (cs:=[.int .i64 K,v]) (by
  intro u hu
  simp only[List.mem_cons,List.not_mem_nil,or_false] at hu
  rcases hu with rfl | rfl
  ·rfl
  ·exact h)
theorem zgx (w w1:World) (K:Int) (v:Value) (d:List UInt8) (h:NewB w w1 v d) (g:w.grownBy w1 none) :
  Calls Tryz.prog 137 #[.int .i64 K,v] w1 fun e w'=>∃ v' x,e = .returned (.tuple #[.agg #[.int .i64 (if (fitB d).1=0 then K else 0),v'],.int .i64 x])∧x=(fitB d).1∧NewB w w' v' (fitB d).2∧v'.oneCell'=true∧w.grownBy w' none∧w1.grownBy w' none:=by
 obtain ⟨ao,c,rfl,hb,hn⟩:=h
 refine (zka w1 K ao c d).mono ?_
 rintro e w2 ⟨rfl,g2⟩
 refine ⟨_,_,rfl,rfl,?_,?_,tn g g2,g2⟩
 ·by_cases hd:16384<d.length
  ·simp only[fitB,hd,if_true]
   exact NewB.nil _ _
  ·simp only[fitB,hd,if_false,if_true]
   exact ⟨ao,c,rfl,hb.kept g2 (fun _ e=>by cases e),fun ad e=>⟨(hn ad e).1,(hn ad e).2.kept g2 (by simp)⟩⟩
 ·split <;> rfl
set_option maxRecDepth 100000 in
set_option maxHeartbeats 4000000 in
theorem zkk (w:World) (ao:Option Addr) (c:Nat) (es:List EntL) (hE:Ens w ao c es) (hs:∀ e∈es,e.name.length≤140737488355328) :
  Calls Tryz.prog 118 #[.slice ao es.length c] w fun e w'=>Made w w' 2 (zbr es) e:=by
 by_cases hn:32<es.length
 ·have hr:zbr es=(3,[]):=by simp[zbr,hn]
  obtain ⟨n,hln⟩:∃ n,n=es.length:=⟨_,rfl⟩
  have hn2:(32:Int)<(n:Int):=by omega
  rw[← hln]
  clear hln hn hE hs
  go_enter Tryz.func118,Tryz.ntmps118
  go_wp2
  exact bodyPost_ret (v := .tuple #[.agg #[.int .i64 0,.slice none 0 0],.int .i64 3]) (by simp[results,Tryz.results118,go_sem]) rfl (Made.bad 2 hr (by decide) (zai (zab _ _) _))
 ·obtain ⟨Z,hZ,hzv⟩:=zgs
  obtain ⟨n,hln⟩:∃ n,n=es.length:=⟨_,rfl⟩
  have hn2:¬ (32:Int)<(n:Int):=by omega
  have hn3:n≤32:=by omega
  obtain ⟨HE,HM,HL,HZ⟩:=zh4 hE hs hln hZ
  have hN:¬ 32<es.length:=hn
  have HN:=hide hN
  rw[← hln]
  clear hE hs hln hn hZ hN
  go_enter Tryz.func118,Tryz.ntmps118
  go_wp2
  go_loopw [12] (fun i wr=>∃ j:Nat,i = .int .i64 j∧j≤n∧Hid (zcx es j=true)∧Hid (Blk wr w.heap.size 42 [.int .i64 0,.slice none 0 0])∧w.grownBy wr none) (fun i _=>n - (intOf i).toNat)
  case atStart=>exact ⟨0,rfl,Nat.zero_le _,rfl,Blk.new w _ _,zai (zab _ _) _⟩
  case round =>
   obtain ⟨j,rfl,hj,HG,HB,hg⟩:=hrel
   by_cases hlt:j<n
   ·have hlt' : j<es.length:=by have:=uh HL;omega
    obtain ⟨b,o,hao,hrow⟩:=(uh HE).at j hlt'
    have hr:=zad (hrow j hlt') hg (by simp)
    have hid:=(uh HE).ids _ (List.getElem_mem hlt')
    have hnl:=(uh HM) _ (List.getElem_mem hlt')
    have hgd:=zl1 es j hlt'
    obtain ⟨q,hq⟩:∃ q,q=j - 1:=⟨_,rfl⟩
    have hq' : q<es.length:=by omega
    have hrp:=zad (hrow q hq') hg (by simp)
    obtain ⟨E,hEE⟩:∃ E,E=es[j]:=⟨_,rfl⟩
    obtain ⟨F,hFF⟩:∃ E,E=es[q]:=⟨_,rfl⟩
    have hFq:es[j - 1]'(by omega)=F:=by rw[hFF];congr 1;exact hq.symm
    rw[hFq,← hEE] at hgd
    rw[← hEE] at hr hid hnl
    rw[← hFF] at hrp
    clear hrow hEE hFF hFq hlt' hq'
    subst hao
    obtain ⟨nm,D,id⟩:=E
    obtain ⟨pn,PD,pid⟩:=F
    simp only at hid hnl hgd
    obtain ⟨EC,hEC⟩:∃ L,L=enC ⟨nm,D,id⟩:=⟨_,rfl⟩
    have hEl:EC.length=34:=by rw[hEC];exact zeb _ hid
    have hEo:EC.toArray.all (·.oneCell')=true:=by rw[hEC];exact all_oneCell_toArray (zff _)
    obtain ⟨W,hW,hB,gW⟩:=zbg wr 154 Z EC
    have hc0:W.cell? ⟨wr.heap.size,0,none⟩=some (.string (str nm)):=by rw[hB.cell 0,hEC];rfl
    have hcp:W.cell? ⟨b,o+q*34,none⟩=some (.string (str pn)):=gW.cell (hrp 0 _ rfl) (by simp)
    rw[← hEC] at hr
    have hG:=tn hg gW
    obtain ⟨HW,HEO,HHG⟩:=zh3 hW hEo hG
    have HBW:=hide ((uh HB).kept gW (by simp))
    have hiE:(Tryz.prog.info? 154).map (·.size)=some EC.length:=by rw[hEl];exact zgq
    have HIE:=hide hiE
    have hZE:Z.size=EC.toArray.size:=by rw[uh HZ];simp[hEl]
    have HZE:=hide hZE
    have cpart:∀ V,Calls Tryz.prog 135 #[.string (str nm)] V fun e w'=>e = .returned (.bool (zcj nm))∧V.grownBy w' none:=fun V=>zl0 V nm hnl
    have cless:∀ V,Calls Tryz.prog 136 #[.string (str pn),.string (str nm)] V fun e w'=>e = .returned (.bool (za5 pn nm))∧w'=V:=fun V=>zlm V pn nm
    have h0:W.grownBy W.drew none:=zas (zab _ _)
    obtain ⟨HGD,HQ⟩:=zh2 hgd hq
    clear hW hEo hG hB hEC hEl hid hnl hiE hZE hgd hrp gW hg HB hq
    go_upto_region 6 with (first
     | (refine wpList_load_mid rfl 154 _ rfl b (o+j*34) rfl EC _ hr Tryz.underlying154 rfl (uh HIE) ?_;clear hr)
     | (refine wpList_store_row rfl 154 _ _ rfl wr.heap.size EC.toArray rfl rfl _ _ (heap_alloc_new _ _) (by simpa using uh HIE) (uh HZE) (uh HEO) ?_;rw[← uh HW]))
    by_cases hp:zcj nm=true
    ·rw[hp] at cpart
     by_cases hj0:j=0
     ·have hj1:¬ (0:Int)<(j:Int):=by omega
      have hj2:¬ 0<j:=by omega
      have hj3:decide (0<j)=false:=by simp[hj2]
      have hgt:zcx es (j+1)=true:=by rw[zfc,uh HG,uh HGD,hp];simp[hj0]
      have HGT:=hide hgt
      clear hj0 hgt hp cless hcp HGD HG
      refine wp_region_noPanic ?_
      refine wp_region_held_drew (S:=fun V=>W.grownBy V none) (by kernel_rfl) h0 (fun _ => ?_)
      refine tq 0 17 (.fieldAddr 154 (.tmp 5) 0) (.pointer (some ⟨wr.heap.size,0,none⟩)) h0 ?_
      refine tz 1 18 (.load 9 (.tmp 17)) (.string (str nm)) h0 ?_ (y:=(Or.inl ⟨by rfl,fun V hV=>by (have q9:=hV.cell hc0 (by simp);go_simp)⟩))
      (try simp only[pq])
      refine rdq 2 (some 19) (.call { callee := .value (.func 135),args := #[(.tmp 18)],argTypes := #[9] }) (fun K9 hK9 => ?_)
      go_simp
      go_at_call 135
      refine (cpart _).mono ?_
      rintro e w2 ⟨rfl,g2a⟩
      have g2:=tn h0 g2a
      clear g2a
      go_wp2_with fail
      refine hK9.out _ _ g2 (fun _ => ?_)
      clear hK9 K9
      refine tq 3 20 (.unOp .not 4 (.tmp 19)) (.bool false) g2 ?_
      refine tq 4 21 (.move (.tmp 20)) (.bool false) g2 ?_
      refine tq 5 22 (.move (.tmp 4)) (.int .i64 (j:Int)) g2 ?_
      (try simp only[pq])
      refine tq 6 23 (.binOp .gtr 3 (.tmp 22) (.const (.int .i64 0)) 3) (.bool false) g2 ?_
      refine tq 7 24 (.move (.tmp 23)) (.bool false) g2 ?_
      refine tz 8 25 (.move (.tmp 0)) undef g2 ?_ (y:=(Or.inr ⟨by rfl,rfl⟩))
      refine tz 9 26 (.move (.tmp 4)) undef g2 ?_ (y:=(Or.inr ⟨by rfl,rfl⟩))
      (try simp only[pq])
      refine tz 10 27 (.binOp .sub 3 (.tmp 26) (.const (.int .i64 1)) 3) undef g2 ?_ (y:=(Or.inr ⟨by rfl,rfl⟩))
      refine tz 11 28 (.indexAddr 150 (.tmp 25) (.tmp 27)) undef g2 ?_ (y:=(Or.inr ⟨by rfl,rfl⟩))
      refine tz 12 29 (.fieldAddr 154 (.tmp 28) 0) undef g2 ?_ (y:=(Or.inr ⟨by rfl,rfl⟩))
      refine tz 13 30 (.load 9 (.tmp 29)) undef g2 ?_ (y:=(Or.inr ⟨by rfl,rfl⟩))
      (try simp only[pq])
      refine tz 14 31 (.fieldAddr 154 (.tmp 5) 0) undef g2 ?_ (y:=(Or.inr ⟨by rfl,rfl⟩))
      refine tz 15 32 (.load 9 (.tmp 31)) undef g2 ?_ (y:=(Or.inr ⟨by rfl,rfl⟩))
      refine tz 16 33 (.call { callee := .value (.func 136),args := #[(.tmp 30),(.tmp 32)],argTypes := #[9,9] }) undef g2 ?_ (y:=(Or.inr ⟨by rfl,rfl⟩))
      refine tz 17 34 (.unOp .not 4 (.tmp 33)) undef g2 ?_ (y:=(Or.inr ⟨by rfl,rfl⟩))
      (try simp only[pq])
      refine tq 18 35 (.pick (.tmp 24) (.tmp 34) (.const (.bool false))) (.bool false) g2 ?_
      refine tq 19 36 (.pick (.tmp 21) (.const (.bool true)) (.tmp 35)) (.bool false) g2 ?_
      (try simp only[pq])
      refine wpAnyH_done (by kernel_rfl) ?_ _
      refine NoPanic.normal ?_
      go_wp2
      go_roundw
      case rel=>exact ⟨j+1,by go_num,by omega,HGT,hide ((uh HBW).kept g2 (by simp)),tn (uh HHG) g2⟩
      case measure=>simp[intOf];omega
     ·have hj1:(0:Int)<(j:Int):=by omega
      have hj2:0<j:=by omega
      have hjq:(j:Int) - 1=(q:Int):=by have:=uh HQ;omega
      have hqn:q<n:=by have:=uh HQ;omega
      have hqw:IntKind.i64.wrap (q:Int)=(q:Int):=by rw[IntKind.wrap_i64];omega
      by_cases hls:za5 pn nm=true
      ·rw[hls] at cless
       have hgt:zcx es (j+1)=true:=by rw[zfc,uh HG,uh HGD,hp,hls];simp
       have HGT:=hide hgt
       clear hj0 hgt hp HGD HG hls
       refine wp_region_noPanic ?_
       refine wp_region_held_drew (S:=fun V=>W.grownBy V none) (by kernel_rfl) h0 (fun _ => ?_)
       refine tq 0 17 (.fieldAddr 154 (.tmp 5) 0) (.pointer (some ⟨wr.heap.size,0,none⟩)) h0 ?_
       refine tz 1 18 (.load 9 (.tmp 17)) (.string (str nm)) h0 ?_ (y:=(Or.inl ⟨by rfl,fun V hV=>by (have q9:=hV.cell hc0 (by simp);go_simp)⟩))
       (try simp only[pq])
       refine rdq 2 (some 19) (.call { callee := .value (.func 135),args := #[(.tmp 18)],argTypes := #[9] }) (fun K9 hK9 => ?_)
       go_simp
       go_at_call 135
       refine (cpart _).mono ?_
       rintro e w2 ⟨rfl,g2a⟩
       have g2:=tn h0 g2a
       clear g2a
       go_wp2_with fail
       refine hK9.out _ _ g2 (fun _ => ?_)
       clear hK9 K9
       refine tq 3 20 (.unOp .not 4 (.tmp 19)) (.bool false) g2 ?_
       refine tq 4 21 (.move (.tmp 20)) (.bool false) g2 ?_
       refine tq 5 22 (.move (.tmp 4)) (.int .i64 (j:Int)) g2 ?_
       (try simp only[pq])
       refine tq 6 23 (.binOp .gtr 3 (.tmp 22) (.const (.int .i64 0)) 3) (.bool true) g2 ?_
       refine tq 7 24 (.move (.tmp 23)) (.bool true) g2 ?_
       refine tq 8 25 (.move (.tmp 0)) (.slice (some ⟨b,o,none⟩) n c) g2 ?_
       refine tq 9 26 (.move (.tmp 4)) (.int .i64 (j:Int)) g2 ?_
       (try simp only[pq])
       refine tq 10 27 (.binOp .sub 3 (.tmp 26) (.const (.int .i64 1)) 3) (.int .i64 (q:Int)) g2 ?_
       refine tq 11 28 (.indexAddr 150 (.tmp 25) (.tmp 27)) (.pointer (some ⟨b,o+q*34,none⟩)) g2 ?_
       refine tq 12 29 (.fieldAddr 154 (.tmp 28) 0) (.pointer (some ⟨b,o+q*34,none⟩)) g2 ?_
       refine tz 13 30 (.load 9 (.tmp 29)) (.string (str pn)) g2 ?_ (y:=(Or.inl ⟨by rfl,fun V hV=>by (have q9:=hV.cell hcp (by simp);go_simp)⟩))
       (try simp only[pq])
       refine tq 14 31 (.fieldAddr 154 (.tmp 5) 0) (.pointer (some ⟨wr.heap.size,0,none⟩)) g2 ?_
       refine tz 15 32 (.load 9 (.tmp 31)) (.string (str nm)) g2 ?_ (y:=(Or.inl ⟨by rfl,fun V hV=>by (have q9:=hV.cell hc0 (by simp);go_simp)⟩))
       (try simp only[pq])
       refine rdq 16 (some 33) (.call { callee := .value (.func 136),args := #[(.tmp 30),(.tmp 32)],argTypes := #[9,9] }) (fun K9 hK9 => ?_)
       go_simp
       go_at_call 136
       refine (cless _).mono ?_
       rintro e w3 ⟨rfl,hw3⟩
       subst w3
       go_wp2_with fail
       refine hK9.out _ _ g2 (fun _ => ?_)
       clear hK9 K9
       refine tq 17 34 (.unOp .not 4 (.tmp 33)) (.bool false) g2 ?_
       refine tq 18 35 (.pick (.tmp 24) (.tmp 34) (.const (.bool false))) (.bool false) g2 ?_
       refine tq 19 36 (.pick (.tmp 21) (.const (.bool true)) (.tmp 35)) (.bool false) g2 ?_
       (try simp only[pq])
       refine wpAnyH_done (by kernel_rfl) ?_ _
       refine NoPanic.normal ?_
       go_wp2
       go_roundw
       case rel=>exact ⟨j+1,by go_num,by omega,HGT,hide ((uh HBW).kept g2 (by simp)),tn (uh HHG) g2⟩
       case measure=>simp[intOf];omega
      ·have hlf:za5 pn nm=false:=by simpa using hls
       rw[hlf] at cless
       have hgf:zfb es j=false:=by rw[uh HGD,hp,hlf];simp[hj0]
       have hres:zbr es=(2,[]):=by
        have h1:zcx es es.length=false:=zic (by have:=uh HL;omega) hgf
        simp[zbr,uh HN,h1]
       have HRS:=hide hres
       clear hj0 hp HGD HG hls hlf hgf hres
       refine wp_region_noPanic ?_
       refine wp_region_held_drew (S:=fun V=>W.grownBy V none) (by kernel_rfl) h0 (fun _ => ?_)
       refine tq 0 17 (.fieldAddr 154 (.tmp 5) 0) (.pointer (some ⟨wr.heap.size,0,none⟩)) h0 ?_
       refine tz 1 18 (.load 9 (.tmp 17)) (.string (str nm)) h0 ?_ (y:=(Or.inl ⟨by rfl,fun V hV=>by (have q9:=hV.cell hc0 (by simp);go_simp)⟩))
       (try simp only[pq])
       refine rdq 2 (some 19) (.call { callee := .value (.func 135),args := #[(.tmp 18)],argTypes := #[9] }) (fun K9 hK9 => ?_)
       go_simp
       go_at_call 135
       refine (cpart _).mono ?_
       rintro e w2 ⟨rfl,g2a⟩
       have g2:=tn h0 g2a
       clear g2a
       go_wp2_with fail
       refine hK9.out _ _ g2 (fun _ => ?_)
       clear hK9 K9
       refine tq 3 20 (.unOp .not 4 (.tmp 19)) (.bool false) g2 ?_
       refine tq 4 21 (.move (.tmp 20)) (.bool false) g2 ?_
       refine tq 5 22 (.move (.tmp 4)) (.int .i64 (j:Int)) g2 ?_
       (try simp only[pq])
       refine tq 6 23 (.binOp .gtr 3 (.tmp 22) (.const (.int .i64 0)) 3) (.bool true) g2 ?_
       refine tq 7 24 (.move (.tmp 23)) (.bool true) g2 ?_
       refine tq 8 25 (.move (.tmp 0)) (.slice (some ⟨b,o,none⟩) n c) g2 ?_
       refine tq 9 26 (.move (.tmp 4)) (.int .i64 (j:Int)) g2 ?_
       (try simp only[pq])
       refine tq 10 27 (.binOp .sub 3 (.tmp 26) (.const (.int .i64 1)) 3) (.int .i64 (q:Int)) g2 ?_
       refine tq 11 28 (.indexAddr 150 (.tmp 25) (.tmp 27)) (.pointer (some ⟨b,o+q*34,none⟩)) g2 ?_
       refine tq 12 29 (.fieldAddr 154 (.tmp 28) 0) (.pointer (some ⟨b,o+q*34,none⟩)) g2 ?_
       refine tz 13 30 (.load 9 (.tmp 29)) (.string (str pn)) g2 ?_ (y:=(Or.inl ⟨by rfl,fun V hV=>by (have q9:=hV.cell hcp (by simp);go_simp)⟩))
       (try simp only[pq])
       refine tq 14 31 (.fieldAddr 154 (.tmp 5) 0) (.pointer (some ⟨wr.heap.size,0,none⟩)) g2 ?_
       refine tz 15 32 (.load 9 (.tmp 31)) (.string (str nm)) g2 ?_ (y:=(Or.inl ⟨by rfl,fun V hV=>by (have q9:=hV.cell hc0 (by simp);go_simp)⟩))
       (try simp only[pq])
       refine rdq 16 (some 33) (.call { callee := .value (.func 136),args := #[(.tmp 30),(.tmp 32)],argTypes := #[9,9] }) (fun K9 hK9 => ?_)
       go_simp
       go_at_call 136
       refine (cless _).mono ?_
       rintro e w3 ⟨rfl,hw3⟩
       subst w3
       go_wp2_with fail
       refine hK9.out _ _ g2 (fun _ => ?_)
       clear hK9 K9
       refine tq 17 34 (.unOp .not 4 (.tmp 33)) (.bool true) g2 ?_
       refine tq 18 35 (.pick (.tmp 24) (.tmp 34) (.const (.bool false))) (.bool true) g2 ?_
       refine tq 19 36 (.pick (.tmp 21) (.const (.bool true)) (.tmp 35)) (.bool true) g2 ?_
       (try simp only[pq])
       refine wpAnyH_done (by kernel_rfl) ?_ _
       refine NoPanic.normal ?_
       have hBr:=(uh HBW).kept g2 (by simp)
       have hf0:=hBr.fz 0
       have hf1:=hBr.fz 1
       have hd0:=hBr.cell 0
       have hd1:=hBr.cell 1
       simp only[List.getElem?_cons_zero,List.getElem?_cons_succ] at hd0 hd1
       go_wp2
       refine bodyPost_ret (zag rfl _ _ _ _ _ _ _ rfl ((hBr.set 0 (.int .i64 0)).set 1 (.slice none 0 0)) Tryz.underlying42 rfl zam) rfl ?_
       exact Made.bad 2 (uh HRS) (by decide) (zae (zae (tn (uh HHG) g2) _ _ (Or.inl (Nat.le_refl _))) _ _ (Or.inl (Nat.le_refl _)))
    ·have hpf:zcj nm=false:=by simpa using hp
     rw[hpf] at cpart
     have hgf:zfb es j=false:=by rw[uh HGD,hpf];rfl
     have hres:zbr es=(2,[]):=by
      have h1:zcx es es.length=false:=zic (by have:=uh HL;omega) hgf
      simp[zbr,uh HN,h1]
     have HRS:=hide hres
     clear hp HGD HG hpf hgf hres
     refine wp_region_noPanic ?_
     refine wp_region_held_drew (S:=fun V=>W.grownBy V none) (by kernel_rfl) h0 (fun _ => ?_)
     refine tq 0 17 (.fieldAddr 154 (.tmp 5) 0) (.pointer (some ⟨wr.heap.size,0,none⟩)) h0 ?_
     refine tz 1 18 (.load 9 (.tmp 17)) (.string (str nm)) h0 ?_ (y:=(Or.inl ⟨by rfl,fun V hV=>by (have q9:=hV.cell hc0 (by simp);go_simp)⟩))
     (try simp only[pq])
     refine rdq 2 (some 19) (.call { callee := .value (.func 135),args := #[(.tmp 18)],argTypes := #[9] }) (fun K9 hK9 => ?_)
     go_simp
     go_at_call 135
     refine (cpart _).mono ?_
     rintro e w2 ⟨rfl,g2a⟩
     have g2:=tn h0 g2a
     clear g2a
     go_wp2_with fail
     refine hK9.out _ _ g2 (fun _ => ?_)
     clear hK9 K9
     refine tq 3 20 (.unOp .not 4 (.tmp 19)) (.bool true) g2 ?_
     refine tq 4 21 (.move (.tmp 20)) (.bool true) g2 ?_
     refine tz 5 22 (.move (.tmp 4)) undef g2 ?_ (y:=(Or.inr ⟨by rfl,rfl⟩))
     (try simp only[pq])
     refine tz 6 23 (.binOp .gtr 3 (.tmp 22) (.const (.int .i64 0)) 3) undef g2 ?_ (y:=(Or.inr ⟨by rfl,rfl⟩))
     refine tz 7 24 (.move (.tmp 23)) undef g2 ?_ (y:=(Or.inr ⟨by rfl,rfl⟩))
     refine tz 8 25 (.move (.tmp 0)) undef g2 ?_ (y:=(Or.inr ⟨by rfl,rfl⟩))
     refine tz 9 26 (.move (.tmp 4)) undef g2 ?_ (y:=(Or.inr ⟨by rfl,rfl⟩))
     (try simp only[pq])
     refine tz 10 27 (.binOp .sub 3 (.tmp 26) (.const (.int .i64 1)) 3) undef g2 ?_ (y:=(Or.inr ⟨by rfl,rfl⟩))
     refine tz 11 28 (.indexAddr 150 (.tmp 25) (.tmp 27)) undef g2 ?_ (y:=(Or.inr ⟨by rfl,rfl⟩))
     refine tz 12 29 (.fieldAddr 154 (.tmp 28) 0) undef g2 ?_ (y:=(Or.inr ⟨by rfl,rfl⟩))
     refine tz 13 30 (.load 9 (.tmp 29)) undef g2 ?_ (y:=(Or.inr ⟨by rfl,rfl⟩))
     (try simp only[pq])
     refine tz 14 31 (.fieldAddr 154 (.tmp 5) 0) undef g2 ?_ (y:=(Or.inr ⟨by rfl,rfl⟩))
     refine tz 15 32 (.load 9 (.tmp 31)) undef g2 ?_ (y:=(Or.inr ⟨by rfl,rfl⟩))
     refine tz 16 33 (.call { callee := .value (.func 136),args := #[(.tmp 30),(.tmp 32)],argTypes := #[9,9] }) undef g2 ?_ (y:=(Or.inr ⟨by rfl,rfl⟩))
     refine tz 17 34 (.unOp .not 4 (.tmp 33)) undef g2 ?_ (y:=(Or.inr ⟨by rfl,rfl⟩))
     (try simp only[pq])
     refine tz 18 35 (.pick (.tmp 24) (.tmp 34) (.const (.bool false))) undef g2 ?_ (y:=(Or.inr ⟨by rfl,rfl⟩))
     refine tq 19 36 (.pick (.tmp 21) (.const (.bool true)) (.tmp 35)) (.bool true) g2 ?_
     (try simp only[pq])
     refine wpAnyH_done (by kernel_rfl) ?_ _
     refine NoPanic.normal ?_
     have hBr:=(uh HBW).kept g2 (by simp)
     have hf0:=hBr.fz 0
     have hf1:=hBr.fz 1
     have hd0:=hBr.cell 0
     have hd1:=hBr.cell 1
     simp only[List.getElem?_cons_zero,List.getElem?_cons_succ] at hd0 hd1
     go_wp2
     refine bodyPost_ret (zag rfl _ _ _ _ _ _ _ rfl ((hBr.set 0 (.int .i64 0)).set 1 (.slice none 0 0)) Tryz.underlying42 rfl zam) rfl ?_
     exact Made.bad 2 (uh HRS) (by decide) (zae (zae (tn (uh HHG) g2) _ _ (Or.inl (Nat.le_refl _))) _ _ (Or.inl (Nat.le_refl _)))
   ·have hjn:j=es.length:=by have:=uh HL;omega
    have hres:zbr es=fitB (zj8 es):=by
     have h1:zcx es es.length=true:=by rw[← hjn];exact uh HG
     simp[zbr,uh HN,h1]
    have hnm:=zkj (show zcx es es.length=true by rw[← hjn];exact uh HG)
    have cl:=zii wr ao c es ((uh HE).none hg) (by have:=uh HL;omega) (fun e he=>Nat.le_trans (hnm e he) (by omega))
    rw[← uh HL] at cl
    have HRS:=hide hres
    clear hjn hres hnm HG
    go_wp2_with fail
    refine cl.mono ?_
    rintro e w1 ⟨v1,rfl,hN1,g1⟩
    have hBr:=(uh HB).kept g1 (by simp)
    have cm:=zgx w w1 2 v1 (zj8 es) (NewB.later hN1 hg.size) (tn hg g1)
    obtain ⟨r,hr⟩:∃ r,r=fitB (zj8 es):=⟨_,rfl⟩
    rw[← hr] at cm
    have HRR:=hide hr
    clear cl hN1 g1 hr
    go_wp2_with fail
    refine cm.mono ?_
    rintro e w2 ⟨v2,x,rfl,hx,hN2,h1c,g2,gm⟩
    have hB2:=hBr.kept gm (by simp)
    obtain ⟨K,hK⟩:∃ K:Int,K=(if r.1=0 then 2 else 0):=⟨_,rfl⟩
    rw[← hK]
    obtain ⟨HK,HX⟩:=zh2 hK hx
    clear cm hK hx hBr
    go_wp2_with (refine wpList_store_row rfl 42 _ _ rfl w.heap.size #[.int .i64 K,v2] rfl rfl _ _ hB2 zam rfl (zdo h1c) ?_)
    refine bodyPost_ret (zag rfl _ _ _ _ _ _ _ rfl (hB2.row [.int .i64 K,v2]) Tryz.underlying42 rfl zam) rfl ?_
    have hrr:zbr es=r:=by rw[uh HRS,uh HRR]
    rw[hrr]
    refine ⟨v2,?_,?_,zaq g2 _ (Or.inl (Nat.le_refl _))⟩
    ·rw[← uh HK,← uh HX]
     rfl
    ·obtain ⟨ao2,c2,e1,e2,e3⟩:=hN2
     refine ⟨ao2,c2,e1,e2.kept (zaq (zab _ _) _ (Or.inr rfl)) ?_,fun ad e=>⟨(e3 ad e).1,(e3 ad e).2.kept (zaq (zab _ _) _ (Or.inr rfl)) ?_⟩⟩
     ·intro x e ad e2 e4
      cases e
      exact hB2.typ (by decide) (e4 ▸ (e3 ad e2).2)
     ·intro e4
      have e5:=Option.some.inj e4
      exact hB2.typ (by decide) (e5 ▸ (e3 ad e).2)
end Go.Proofs.YtegbbkgmiklhcaaGreatDoor
