/- Lemmas. -/
import Derived.Test.YtoilcpdhhlcidaaGreatDoorMOpen
namespace Go.Proofs.YtoilcpdhhlcidaaGreatDoor
open Go.RowKit
set_option maxRecDepth 100000 in
set_option maxHeartbeats 8000000 in
theorem zin (w:World) (a b:Int) (fo:Option Addr) (fc:Nat) (L:List Int) (hL0:Nts w fo fc L) (hT:Tabs w) :
  Calls Tryz.prog 5 #[.int .i64 a,.int .i64 b,.slice fo L.length fc] w fun e w'=>e = .returned (.bool true)∧w.grownBy w' none:=by
 obtain ⟨n2,hn2⟩:∃ n,n=L.length:=⟨_,rfl⟩
 rw[← hn2]
 obtain ⟨j,hj,hand⟩:=zjk 31 (by decide) a
 obtain ⟨k,hk,hank⟩:=zjk 7 (by decide) b
 have hand2:bits .and .i64 a 31=(j:Int):=hand
 have hank2:bits .and .i64 b 7=(k:Int):=hank
 obtain ⟨N,hN⟩:∃ N,N=8+j:=⟨_,rfl⟩
 have hNw:IntKind.i64.wrap (8+(j:Int))=(N:Int):=by rw[IntKind.wrap_i64];omega
 have hN8:8≤N∧N≤39:=by omega
 have cn:=lnew (zab w none) N (by omega) (by omega)
 obtain ⟨HT,HL0,HN2,HN8,HK⟩:=zh5 hT hL0 hn2 hN8 hk
 clear hT hL0 hn2 hN8 hN hj hk hand hank
 go_enter Tryz.func5,Tryz.ntmps5
 go_wp2_with (go_at_call 9;fail)
 refine cn.mono ?_
 rintro e w1 ⟨d,F,rfl,hd1,-,-⟩
 have ca:=larm hd1 (k:Int) (by have:=uh HK;omega)
 clear cn
 go_wp2_with (go_at_call 22;fail)
 refine ca.mono ?_
 rintro e w2 ⟨rfl,F2,hd2,-,-⟩
 have co:=zlb (n:=N) (k:=k) (show Dw w w2 F2 d ⟨List.replicate N zsec,[],(k:Int),false⟩ from hd2) ((uh HT).kept0 hd2.gb) (uh HN8).1
 clear ca hd1 hd2 hand2 hank2 hNw
 go_wp2_with (go_at_call 10;fail)
 refine co.mono ?_
 rintro e w3 (⟨s,f,e9,p,g,r,m,G,rfl,hb3,hv3,g3⟩ | ⟨F3,D3,rfl,hd3,hu3,hF3,hf3⟩)
 ·have ck:=zka w3 s d _ _ _ _ _ _ _ hb3 G [] hv3 [] (by simp) (by simp)
  rw[show (zc8 [] []).length=0 from rfl,show str []=⟨#[]⟩ from rfl] at ck
  have HG3:=hide g3
  clear co hb3 hv3 g3
  go_upto_region 6 with fail
  refine zak fun O hO => ?_
  refine zaa (by rw[hO];kernel_rfl) (.pointer (some ⟨s,0,none⟩)) (fun K9 hK9=>by go_simp;exact hK9) ?_
  (try simp only[pq])
  refine zaa (by rw[hO];kernel_rfl) (.bool true) (fun K9 hK9=>by go_simp;exact hK9) ?_
  (try simp only[pq])
  refine zaa (by rw[hO];kernel_rfl) (.bool true) (fun K9 hK9=>by go_simp;exact hK9) ?_
  (try simp only[pq])
  refine zaa (by rw[hO];kernel_rfl) (.pointer (some ⟨s,0,none⟩)) (fun K9 hK9=>by go_simp;exact hK9) ?_
  (try simp only[pq])
  refine zam (by rw[hO];kernel_rfl) fun K9 hK9 => ?_
  go_simp
  go_at_call 20
  refine (ck).mono ?_
  rintro e w4 ⟨ko,kc,rfl,-,g4⟩
  have HG4:=hide (tn (uh HG3) g4)
  have c1:=zi7 w4 ((uh HT).kept0 (uh HG4))
  clear ck g4
  refine hK9 _ _ ?_
  clear hK9 K9
  (try simp only[pq])
  refine zaa (by rw[hO];kernel_rfl) (.int .i64 0) (fun K9 hK9=>by go_simp;exact hK9) ?_
  (try simp only[pq])
  refine zaa (by rw[hO];kernel_rfl) (.bool true) (fun K9 hK9=>by go_simp;exact hK9) ?_
  (try simp only[pq])
  refine zaa (by rw[hO];kernel_rfl) (.bool true) (fun K9 hK9=>by go_simp;exact hK9) ?_
  (try simp only[pq])
  refine zaa (by rw[hO];kernel_rfl) (.bool true) (fun K9 hK9=>by go_simp;exact hK9) ?_
  (try simp only[pq])
  refine zam (by rw[hO];kernel_rfl) fun K9 hK9 => ?_
  go_simp
  go_at_call 21
  refine (c1).mono ?_
  rintro e w5 ⟨rfl,g5⟩
  have HG5:=hide (tn (uh HG4) g5)
  clear g5
  refine hK9 _ _ ?_
  clear hK9 K9
  (try simp only[pq])
  refine zaa (by rw[hO];kernel_rfl) (.bool true) (fun K9 hK9=>by go_simp;exact hK9) ?_
  (try simp only[pq])
  refine zaa (by rw[hO];kernel_rfl) (.bool true) (fun K9 hK9=>by go_simp;exact hK9) ?_
  (try simp only[pq])
  go_wp2
  go_ret
  exact ⟨rfl,uh HG5⟩
 ·by_cases h50:n2≤50
  ·have hd50:decide ((50:Int)<(n2:Int))=false:=decide_eq_false (by omega)
   have HD3:=hide hd3
   have cf:=zk3 w3 fo fc L ((uh HL0).kept hd3.gb)
   rw[← uh HN2] at cf
   obtain ⟨HU3,HF3,H50⟩:=zh3 hu3 hf3 h50
   clear co hd3 hu3 hF3 hf3 h50
   go_upto_region 7 with fail
   refine zak fun O hO => ?_
   refine zaa (by rw[hO];kernel_rfl) (.int .i64 17) (fun K9 hK9=>by go_simp;exact hK9) ?_
   (try simp only[pq])
   refine zaa (by rw[hO];kernel_rfl) (.bool false) (fun K9 hK9=>by go_simp;exact hK9) ?_
   (try simp only[pq])
   refine zaa (by rw[hO];kernel_rfl) (.bool false) (fun K9 hK9=>by go_simp;exact hK9) ?_
   (try simp only[pq])
   refine zaa (by rw[hO];kernel_rfl) (.pointer none) (fun K9 hK9=>by go_simp;exact hK9) ?_
   (try simp only[pq])
   refine zaa (by rw[hO];kernel_rfl) (.bool false) (fun K9 hK9=>by go_simp;exact hK9) ?_
   (try simp only[pq])
   refine zaa (by rw[hO];kernel_rfl) (.bool false) (fun K9 hK9=>by go_simp;exact hK9) ?_
   (try simp only[pq])
   refine zaa (by rw[hO];kernel_rfl) (.bool false) (fun K9 hK9=>by go_simp;exact hK9) ?_
   (try simp only[pq])
   refine zaa (by rw[hO];kernel_rfl) (.slice fo n2 fc) (fun K9 hK9=>by go_simp;exact hK9) ?_
   (try simp only[pq])
   refine zaa (by rw[hO];kernel_rfl) (.int .i64 (n2:Int)) (fun K9 hK9=>by go_simp;exact hK9) ?_
   (try simp only[pq])
   refine zaa (by rw[hO];kernel_rfl) (.bool false) (fun K9 hK9=>by go_simp;exact hK9) ?_
   (try simp only[pq])
   refine zaa (by rw[hO];kernel_rfl) (.bool false) (fun K9 hK9=>by go_simp;exact hK9) ?_
   (try simp only[pq])
   clear hd50
   go_wp2_with (go_at_call 24;fail)
   refine cf.mono ?_
   rintro e w4 ⟨ao,c,rfl,hn4,hl4,g4⟩
   have hd4:=(uh HD3).nn g4
   have cl:=zqk hd4 (by have:=uh HU3;omega) ao c _ hn4 (fun ad e hx=>by have h1:=hl4 ad e;have h2:=((uh HD3).lo _ hx).2;omega)
   obtain ⟨S,hS1,hS2⟩:=(uh HF3) (L.take 500)
   rw[hS1] at cl
   obtain ⟨ln,hln⟩:∃ ln,ln=(L.take 500).length:=⟨_,rfl⟩
   rw[← hln] at cl ⊢
   have HS2:=hide hS2
   clear cf hn4 hl4 g4 hd4 hS1 hS2 hln
   go_wp2_with (go_at_call 23;fail)
   refine cl.mono ?_
   rintro e w5 ⟨rfl,F5,hd5,-,-⟩
   have co:=zlc hd5 (uh HS2) ((uh HT).kept0 hd5.gb) (uh HN8).1
   clear cl hd5
   go_wp2_with (go_at_call 10;fail)
   refine co.mono ?_
   rintro e w6 ⟨s,m,F6,S6,c6,g6,ls6,p6,rfl,hs6⟩
   have ck:=zka w6 s d _ _ _ _ _ _ _ hs6.blk _ [] hs6.vm [] (by simp) (by simp)
   rw[show (zc8 [] []).length=0 from rfl,show str []=⟨#[]⟩ from rfl] at ck
   have HS6:=hide hs6
   clear co hs6
   go_wp2_with (go_at_call 20;fail)
   refine ck.mono ?_
   rintro e w9 ⟨ko,kc,rfl,-,g9⟩
   have hs9:=(uh HS6).nn g9
   have HS9:=hide hs9
   clear ck g9 HS6
   obtain ⟨W3,hW3⟩:∃ W,W=w9.alloc (.cells #[.int .u8 118] 5 (1,2)):=⟨_,rfl⟩
   have g3:w9.grownBy W3 none:=by rw[hW3];exact zad (zab _ _) _
   have hcv:(convert 53 53 (.slice (some ⟨w9.heap.size,0,none⟩) 1 1)).run Tryz.prog (w9.alloc (.cells #[.int .u8 118] 5)) = .ok (.slice (some ⟨w9.heap.size,0,none⟩) 1 1) W3:=by
    rw[hW3];exact Lib.run_convert_bytes_const (P:=Tryz.prog) w9 53 5 #[.int .u8 118] 1 1 Tryz.underlying53 Tryz.underlying5
   have hbx3:Bts W3 (some ⟨w9.heap.size,0,none⟩) 1 [118]:=by rw[hW3];exact zim w9 [118] (1,2) (by unfold maxLen;decide)
   obtain ⟨W4,hW4,hB4,g4⟩:=zal W3 55 [.string ⟨#[107]⟩,.slice (some ⟨w9.heap.size,0,none⟩) 1 1,.bool false]
   have hx4:Rws W4 3 ciC (some ⟨W3.heap.size,0,none⟩) 1 [(⟨[107],some ⟨w9.heap.size,0,none⟩,1,[118],false⟩:ChI)]:=zg9 (show Blk W4 W3.heap.size 55 (ciC ⟨[107],some ⟨w9.heap.size,0,none⟩,1,[118],false⟩) from hB4)
   have hbx:Bts W4 (some ⟨w9.heap.size,0,none⟩) 1 [118]:=hbx3.kept g4 (fun _ e=>by cases e)
   have hs4:=(hs9.nn g3).nn g4
   have hlow:∀ x∈m::s::F6,x<w9.heap.size:=fun x hx=>by
    simp only[List.mem_cons] at hx
    rcases hx with rfl | rfl | hx
    ·exact hs9.vm.lt
    ·exact hs9.blk.lt
    ·exact (hs9.dw.lo x hx).2
   have hcs:CsG W4 (some ⟨W3.heap.size,0,none⟩) 1 [(⟨[107],some ⟨w9.heap.size,0,none⟩,1,[118],false⟩:ChI)] (m::s::F6):=by
    refine ⟨⟨hx4,fun x hx=>by rw[List.mem_singleton.1 hx];exact hbx⟩,fun ad e _ hm => ?_,fun x hx ad e _ hm => ?_⟩
    ·cases e
     have h1:=hlow _ hm
     have h2:=g3.size
     simp only at h1
     omega
    ·rw[List.mem_singleton.1 hx] at e
     cases e
     have h1:=hlow _ hm
     simp only at h1
     omega
   have hT4:=(uh HT).kept0 hs4.gb
   have cc:=zgs hs4 hT4 _ _ _ hcs (by simp) (by simp) (by simp)
   rw[show ([(⟨[107],some ⟨w9.heap.size,0,none⟩,1,[118],false⟩:ChI)]).map ChI.chg=oneV from rfl,zpx (N / 2) (by have:=(uh HN8).1;omega),show ([(⟨[107],some ⟨w9.heap.size,0,none⟩,1,[118],false⟩:ChI)]).length=1 from rfl] at cc
   have HW4:=hide (show W4=W3.alloc (.cells #[.string ⟨#[107]⟩,.slice (some ⟨w9.heap.size,0,none⟩) 1 1,.bool false] 55) from hW4)
   clear hs9 hW3 hbx3 g3 hW4 hB4 g4 hx4 hbx hs4 hlow hcs hT4
   go_wp2_with (first
    | (rw[← uh HW4])
    | (go_at_call 15;fail))
   refine cc.mono ?_
   rintro e w5 ⟨rfl,F7,m7,S7,c7,g7,ls7,p7,hs7,-⟩
   have hn7:=hs7.hn
   simp only at hn7
   have co:=zi6 hs7.dw hs7.on ((uh HT).kept0 hs7.gb) hn7 (by have:=(uh HN8).1;omega)
   clear cc hs7 hn7
   go_wp2_with (go_at_call 10;fail)
   refine co.mono ?_
   rintro e w8 ⟨s8,m8,rfl,hs8,-⟩
   have cg:=znj w8 s8 d _ _ _ _ _ _ _ hs8.blk _ _ hs8.vm [107] (by simp[getK])
   rw[show (getK (⟨[([107],[118])],N / 2,4,0⟩:RSt).V [107])=some [118] from rfl] at cg
   simp only[Option.getD_some,List.length_cons,List.length_nil,Option.isSome_some,Nat.zero_add] at cg
   rw[show str [107]=⟨#[107]⟩ from rfl] at cg
   have HS8:=hide hs8
   clear co hs8
   go_wp2_with (go_at_call 25;fail)
   refine cg.mono ?_
   rintro e w7 ⟨ga,gc,rfl,hb7,g7⟩
   have HCV:=hide (show (convert 53 9 (.slice ga 1 gc)).run Tryz.prog w7 = .ok (.string ⟨#[118]⟩) w7 from zdb hb7)
   have HG8:=hide (tn (uh HS8).gb g7)
   have c1:=zi7 w7 ((uh HT).kept0 (uh HG8))
   clear cg hb7 g7
   go_upto_region 15 with fail
   refine zak fun O hO => ?_
   refine zaa (by rw[hO];kernel_rfl) (.int .i64 0) (fun K9 hK9=>by go_simp;exact hK9) ?_
   (try simp only[pq])
   refine zaa (by rw[hO];kernel_rfl) (.bool true) (fun K9 hK9=>by go_simp;exact hK9) ?_
   (try simp only[pq])
   refine zaa (by rw[hO];kernel_rfl) (.bool true) (fun K9 hK9=>by go_simp;exact hK9) ?_
   (try simp only[pq])
   refine zaa (by rw[hO];kernel_rfl) (.bool true) (fun K9 hK9=>by go_simp;exact hK9) ?_
   (try simp only[pq])
   refine zaa (by rw[hO];kernel_rfl) (.bool true) (fun K9 hK9=>by go_simp;exact hK9) ?_
   (try simp only[pq])
   refine zaa (by rw[hO];kernel_rfl) (.bool true) (fun K9 hK9=>by go_simp;exact hK9) ?_
   (try simp only[pq])
   refine zaa (by rw[hO];kernel_rfl) (.slice ga 1 gc) (fun K9 hK9=>by go_simp;exact hK9) ?_
   (try simp only[pq])
   refine zaa (by rw[hO];kernel_rfl) (.string ⟨#[118]⟩) (fun K9 hK9=>by have hv1:=uh HCV;go_simp;exact hK9) ?_
   (try simp only[pq])
   refine zaa (by rw[hO];kernel_rfl) (.bool true) (fun K9 hK9=>by go_simp;exact hK9) ?_
   (try simp only[pq])
   refine zaa (by rw[hO];kernel_rfl) (.bool true) (fun K9 hK9=>by go_simp;exact hK9) ?_
   (try simp only[pq])
   refine zaa (by rw[hO];kernel_rfl) (.bool true) (fun K9 hK9=>by go_simp;exact hK9) ?_
   (try simp only[pq])
   refine zam (by rw[hO];kernel_rfl) fun K9 hK9 => ?_
   go_simp
   go_at_call 21
   refine (c1).mono ?_
   rintro e w5 ⟨rfl,g5⟩
   have HG5:=hide (tn (uh HG8) g5)
   clear g5
   refine hK9 _ _ ?_
   clear hK9 K9
   (try simp only[pq])
   refine zaa (by rw[hO];kernel_rfl) (.bool true) (fun K9 hK9=>by go_simp;exact hK9) ?_
   (try simp only[pq])
   refine zaa (by rw[hO];kernel_rfl) (.bool true) (fun K9 hK9=>by go_simp;exact hK9) ?_
   (try simp only[pq])
   go_wp2
   go_ret
   exact ⟨rfl,uh HG5⟩
  ·have hd50:decide ((50:Int)<(n2:Int))=true:=decide_eq_true (by omega)
   have HG3:=hide hd3.gb
   clear co hd3 hu3 hF3 hf3 h50
   have c1:=zi7 w3 ((uh HT).kept0 (uh HG3))
   go_upto_region 7 with fail
   refine zak fun O hO => ?_
   refine zaa (by rw[hO];kernel_rfl) (.int .i64 17) (fun K9 hK9=>by go_simp;exact hK9) ?_
   (try simp only[pq])
   refine zaa (by rw[hO];kernel_rfl) (.bool false) (fun K9 hK9=>by go_simp;exact hK9) ?_
   (try simp only[pq])
   refine zaa (by rw[hO];kernel_rfl) (.bool false) (fun K9 hK9=>by go_simp;exact hK9) ?_
   (try simp only[pq])
   refine zaa (by rw[hO];kernel_rfl) (.pointer none) (fun K9 hK9=>by go_simp;exact hK9) ?_
   (try simp only[pq])
   refine zaa (by rw[hO];kernel_rfl) (.bool false) (fun K9 hK9=>by go_simp;exact hK9) ?_
   (try simp only[pq])
   refine zaa (by rw[hO];kernel_rfl) (.bool false) (fun K9 hK9=>by go_simp;exact hK9) ?_
   (try simp only[pq])
   refine zaa (by rw[hO];kernel_rfl) (.bool false) (fun K9 hK9=>by go_simp;exact hK9) ?_
   (try simp only[pq])
   refine zaa (by rw[hO];kernel_rfl) (.slice fo n2 fc) (fun K9 hK9=>by go_simp;exact hK9) ?_
   (try simp only[pq])
   refine zaa (by rw[hO];kernel_rfl) (.int .i64 (n2:Int)) (fun K9 hK9=>by go_simp;exact hK9) ?_
   (try simp only[pq])
   refine zaa (by rw[hO];kernel_rfl) (.bool true) (fun K9 hK9=>by go_simp;exact hK9) ?_
   (try simp only[pq])
   refine zaa (by rw[hO];kernel_rfl) (.bool true) (fun K9 hK9=>by go_simp;exact hK9) ?_
   (try simp only[pq])
   clear hd50
   go_upto_region 8 with fail
   refine zak fun O hO => ?_
   refine zaa (by rw[hO];kernel_rfl) (.int .i64 17) (fun K9 hK9=>by go_simp;exact hK9) ?_
   (try simp only[pq])
   refine zaa (by rw[hO];kernel_rfl) (.bool true) (fun K9 hK9=>by go_simp;exact hK9) ?_
   (try simp only[pq])
   refine zaa (by rw[hO];kernel_rfl) (.bool true) (fun K9 hK9=>by go_simp;exact hK9) ?_
   (try simp only[pq])
   refine zaa (by rw[hO];kernel_rfl) (.pointer none) (fun K9 hK9=>by go_simp;exact hK9) ?_
   (try simp only[pq])
   refine zaa (by rw[hO];kernel_rfl) (.bool true) (fun K9 hK9=>by go_simp;exact hK9) ?_
   (try simp only[pq])
   refine zaa (by rw[hO];kernel_rfl) (.bool true) (fun K9 hK9=>by go_simp;exact hK9) ?_
   (try simp only[pq])
   refine zaa (by rw[hO];kernel_rfl) (.bool true) (fun K9 hK9=>by go_simp;exact hK9) ?_
   (try simp only[pq])
   refine zam (by rw[hO];kernel_rfl) fun K9 hK9 => ?_
   go_simp
   go_at_call 21
   refine (c1).mono ?_
   rintro e w5 ⟨rfl,g5⟩
   have HG5:=hide (tn (uh HG3) g5)
   clear g5
   refine hK9 _ _ ?_
   clear hK9 K9
   (try simp only[pq])
   refine zaa (by rw[hO];kernel_rfl) (.bool true) (fun K9 hK9=>by go_simp;exact hK9) ?_
   (try simp only[pq])
   refine zaa (by rw[hO];kernel_rfl) (.bool true) (fun K9 hK9=>by go_simp;exact hK9) ?_
   (try simp only[pq])
   go_wp2
   go_ret
   exact ⟨rfl,uh HG5⟩
end Go.Proofs.YtoilcpdhhlcidaaGreatDoor
