/- Lemmas. -/
import Derived.Test.YtegbbkgmiklhcaaGreatDoorRSum
import Derived.Test.YtegbbkgmiklhcaaGreatDoorROPut
namespace Go.Proofs.YtegbbkgmiklhcaaGreatDoor
open Go.RowKit
theorem zr6:(Tryz.prog.info? 46).map (·.size)=some 32:=by kernel_rfl
theorem znu (b o:Nat) (W:World):(Instr.sliceAt 46 (.pointer (some ⟨b,o,none⟩)) none none none).run Tryz.prog W = .ok (.slice (some ⟨b,o,none⟩) 32 32) W:=by
 have ea:Tryz.prog.arrayLen 46=32:=by simp[Program.arrayLen,Tryz.underlying46]
 have ee:Tryz.prog.elem 46=5:=by simp[Program.elem,Tryz.underlying46]
 rw[run_sliceAt_array_all W 46 ⟨b,o,none⟩ (by rw[ea,ee];exact Tryz.underlying46),ea,ee,za2]
 simp only[Result.andThen_ok,slicedAt,Nat.zero_mul,Nat.sub_zero]
 rw[if_neg (by omega),Addr.add_mid]
 rfl
set_option maxRecDepth 100000 in
set_option maxHeartbeats 4000000 in
theorem zr7 (w:World) (k:Int) (d:List UInt8) (hd:d.length≤100000):Calls Tryz.prog 26 #[.agg #[.int .i64 k,.string (str d)]] w fun e w'=>e = .returned (.string (str (shaL (putL k d))))∧w.grownBy w' none:=by
 obtain ⟨SD,hSD⟩:∃ S,S=str d:=⟨_,rfl⟩
 obtain ⟨W0,hW0,hB0,g0⟩:∃ W1,W1=w.alloc (.cells #[.int .i64 k,.string SD] 44)∧Blk W1 w.heap.size 44 [.int .i64 k,.string SD]∧w.grownBy W1 none:=zag w _ _
 have c0:=hB0.cell 0
 have c1:=hB0.cell 1
 simp only[List.getElem?_cons_zero,List.getElem?_cons_succ] at c0 c1
 obtain ⟨n,hn⟩:∃ n,n=d.length:=⟨_,rfl⟩
 have hzs:=zaj d
 rw[← hSD,← hn] at hzs
 have hcv:=zpl k
 obtain ⟨z,hz⟩:∃ z:Int,z=(((UInt8.ofInt k).toNat:Nat):Int):=⟨_,rfl⟩
 rw[← hz] at hcv
 have hcu:IntKind.u64.wrap (n:Int)=(n:Int):=by rw[IntKind.wrap_u64];omega
 have cput:∀ V:World,Calls Tryz.prog 27 #[.string (str []),.int .u64 (n:Int),.int .i64 4] V fun e w'=>e = .returned (.string (str (lb n 4)))∧V.grownBy w' none:=fun V=>by
  have:=zdx V [] n 4 (by omega) (by simp)
  simpa[show nb 4=4 from rfl] using this
 have hl4:(lb n 4).length=4:=zbb _ _
 have csum:∀ V:World,Calls Tryz.prog 51 #[.string (str (putL k d))] V fun e w'=>e = .returned (.agg ((shaL (putL k d)).map bv).toArray)∧V.grownBy w' none:=fun V=>zr5 V _ (by unfold putL layS;simp[zbb];omega)
 have ha1:str [UInt8.ofInt k]++str (lb n 4)=str ([UInt8.ofInt k]++lb n 4):=by rw[zcf]
 have ha2:str ([UInt8.ofInt k]++lb n 4)++SD=str (putL k d):=by rw[hSD,zcf];unfold putL layS;rw[hn];simp
 have hs1:=zaj [UInt8.ofInt k]
 have hs2:=zaj (lb n 4)
 have hs3:=zaj ([UInt8.ofInt k]++lb n 4)
 rw[List.length_append,hl4] at hs3
 rw[hl4] at hs2
 rw[show ([UInt8.ofInt k]:List UInt8).length=1 from rfl] at hs1 hs3
 obtain ⟨S,hS⟩:∃ S,S=(shaL (putL k d)).map bv:=⟨_,rfl⟩
 have hSl:S.length=32:=by rw[hS,List.length_map];exact zb2 _
 have hSo:S.toArray.all (·.oneCell')=true:=by rw[hS];exact all_oneCell_toArray (za8 _)
 obtain ⟨ZL,hZL⟩:∃ Z:List Value,Z=(List.replicate 32 (0:UInt8)).map bv:=⟨_,rfl⟩
 have hzv:∀ w,(zeroValue 46).run Tryz.prog w = .ok (.agg ZL.toArray) w:=fun w=>by rw[hZL];kernel_rfl
 have hiS:(Tryz.prog.info? 46).map (·.size)=some S.toArray.size:=by rw[show S.toArray.size=32 by simpa using hSl];exact zr6
 have hZS:ZL.toArray.size=S.toArray.size:=by simp[hZL,hSl]
 obtain ⟨TS,hTS⟩:∃ T,T=str (shaL (putL k d)):=⟨_,rfl⟩
 have htail:∀ V p,Blk V p 46 S→(convert 24 9 (.slice (some ⟨p,0,none⟩) 32 32)).run Tryz.prog V = .ok (.string TS) V:=fun V p hB=>by
  have h1:=zau hB
  rw[hS] at h1
  have h2:=zas (zdo h1 (by rw[zb2];decide))
  rwa [zb2,← hTS] at h2
 have hsl:=fun b V=>znu b 0 V
 obtain ⟨TB,hTB⟩:∃ T,T=str [UInt8.ofInt k]:=⟨_,rfl⟩
 obtain ⟨T4,hT4⟩:∃ T,T=str (lb n 4):=⟨_,rfl⟩
 obtain ⟨T2,hT2⟩:∃ T,T=str ([UInt8.ofInt k]++lb n 4):=⟨_,rfl⟩
 obtain ⟨TQ,hTQ⟩:∃ T,T=str (putL k d):=⟨_,rfl⟩
 rw[← hTB] at ha1 hs1
 rw[← hT4] at ha1 hs2 cput
 rw[← hT2] at ha1 ha2 hs3
 rw[← hTQ] at ha2 csum
 rw[← hS] at csum
 rw[← hSD,← hTS]
 obtain ⟨HI,HZS,HSO⟩:=zh3 hiS hZS hSo
 have hn5:5+n≤9223372036854775807:=by omega
 have hn6:¬ 9223372036854775807<5+n:=by omega
 obtain ⟨HW,HZ,HTB⟩:=zh3 hW0 hz hTB
 have h0:W0.grownBy W0.drew none:=zan (zaa _ _)
 clear hz hTB hSD hW0 hB0 hn hd hl4 hS hSl hSo hZL hiS hZS hTS hT4 hT2 hTQ
 go_enter Tryz.func26,Tryz.ntmps26
 go_upto_region 1 with (rw[← uh HW])
 refine wp_region_noPanic ?_
 refine wp_region_held_drew (S:=fun V=>W0.grownBy V none) (by kernel_rfl) h0 (fun _ => ?_)
 obtain ⟨WD,hWD⟩:∃ V,V=W0.drew:=⟨_,rfl⟩
 rw[← hWD]
 rw[← hWD] at h0
 clear hWD
 refine tq 0 4 (.fieldAddr 44 (.tmp 1) 0) (.pointer (some ⟨w.heap.size,0,none⟩)) h0 ?_
 refine tq 5 9 (.fieldAddr 44 (.tmp 1) 1) (.pointer (some ⟨w.heap.size,1,none⟩)) h0 ?_
 refine tq 11 15 (.fieldAddr 44 (.tmp 1) 1) (.pointer (some ⟨w.heap.size,1,none⟩)) h0 ?_
 refine tz 1 5 (.load 3 (.tmp 4)) (.int .i64 k) h0 ?_ (y:=(Or.inl ⟨by rfl,fun V hV=>by (have q9:=hV.cell c0 (by simp);go_simp)⟩))
 (try simp only[pq])
 refine tz 6 10 (.load 9 (.tmp 9)) (.string SD) h0 ?_ (y:=(Or.inl ⟨by rfl,fun V hV=>by (have q9:=hV.cell c1 (by simp);go_simp)⟩))
 refine tz 12 16 (.load 9 (.tmp 15)) (.string SD) h0 ?_ (y:=(Or.inl ⟨by rfl,fun V hV=>by (have q9:=hV.cell c1 (by simp);go_simp)⟩))
 refine tq 2 6 (.convert 3 5 (.tmp 5)) (.int .u8 z) h0 ?_
 refine tq 7 11 (.call { callee := .builtin .len,args := #[(.tmp 10)],argTypes := #[9] }) (.int .i64 (n:Int)) h0 ?_
 (try simp only[pq])
 refine tq 8 12 (.convert 3 64 (.tmp 11)) (.int .u64 (n:Int)) h0 ?_
 (try simp only[pq])
 refine wpAnyH_ready (rs:=[3,9,15]) (by kernel_rfl) (by simp) ?_
 refine AllReadyH.cons (o:=⟨some 7,.buildSlice 24 1 #[(0,(.tmp 6))],_,_,_,_⟩) rfl (fun K9 hK9 => ?_) (AllReadyH.cons (o:=⟨some 13,.call { callee := .value (.func 27),args := #[.const (.string { data := #[] }),(.tmp 12),.const (.int .i64 4)],argTypes := #[9,64,3] },_,_,_,_⟩) rfl (fun K9 hK9 => ?_) (AllReadyH.cons (o:=⟨some 3,.alloc 46,_,_,_,_⟩) rfl (fun K9 hK9 => ?_) AllReadyH.nil))
 ·obtain ⟨wb1,hw1,hb1,gb1⟩:=zkv WD (UInt8.ofInt k)
  rw[← uh HZ] at hw1
  go_simp
  rw[← hw1]
  have hh2:=tn h0 gb1
  refine hK9.out _ _ hh2 (fun _ => ?_)
  clear hK9 K9 hw1
  (try simp only[pq])
  refine wpAnyH_ready (rs:=[4,9,15]) (by kernel_rfl) (by simp) ?_
  refine AllReadyH.cons (o:=⟨some 8,.convert 24 9 (.tmp 7),_,_,_,_⟩) rfl (fun K9 hK9 => ?_) (AllReadyH.cons (o:=⟨some 13,.call { callee := .value (.func 27),args := #[.const (.string { data := #[] }),(.tmp 12),.const (.int .i64 4)],argTypes := #[9,64,3] },_,_,_,_⟩) rfl (fun K9 hK9 => ?_) (AllReadyH.cons (o:=⟨some 3,.alloc 46,_,_,_,_⟩) rfl (fun K9 hK9 => ?_) AllReadyH.nil))
  ·have z9:=zas (hb1.kept (zaa wb1 none) (fun _ e=>by cases e))
   rw[show ([UInt8.ofInt k]:List UInt8).length=1 from rfl,← uh HTB] at z9
   go_simp
   clear z9
   refine hK9.out _ _ hh2 (fun _ => ?_)
   clear hK9 K9
   (try simp only[pq])
   refine wpAnyH_ready (rs:=[9,15]) (by kernel_rfl) (by simp) ?_
   refine AllReadyH.cons (o:=⟨some 13,.call { callee := .value (.func 27),args := #[.const (.string { data := #[] }),(.tmp 12),.const (.int .i64 4)],argTypes := #[9,64,3] },_,_,_,_⟩) rfl (fun K9 hK9 => ?_) (AllReadyH.cons (o:=⟨some 3,.alloc 46,_,_,_,_⟩) rfl (fun K9 hK9 => ?_) AllReadyH.nil)
   ·go_simp
    go_at_call 27
    refine (cput wb1).mono ?_
    rintro e wc3 ⟨rfl,gc3⟩
    go_wp2_with fail
    have gg4wb1:=tn ((zaa wb1 none)) gc3
    have hh4:=tn hh2 gc3
    refine hK9.out _ _ hh4 (fun _ => ?_)
    clear hK9 K9
    refine tq 10 14 (.binOp .add 9 (.tmp 8) (.tmp 13) 9) (.string T2) hh4 ?_
    refine tq 13 17 (.binOp .add 9 (.tmp 14) (.tmp 16) 9) (.string TQ) hh4 ?_
    (try simp only[pq])
    refine wpAnyH_ready (rs:=[14,15]) (by kernel_rfl) (by simp) ?_
    refine AllReadyH.cons (o:=⟨some 18,.call { callee := .value (.func 51),args := #[(.tmp 17)],argTypes := #[9] },_,_,_,_⟩) rfl (fun K9 hK9 => ?_) (AllReadyH.cons (o:=⟨some 3,.alloc 46,_,_,_,_⟩) rfl (fun K9 hK9 => ?_) AllReadyH.nil)
    ·go_simp
     go_at_call 51
     refine (csum wc3).mono ?_
     rintro e wc5 ⟨rfl,gc5⟩
     go_wp2_with fail
     have gg6wb1:=tn (gg4wb1) gc5
     have hh6:=tn hh4 gc5
     refine hK9.out _ _ hh6 (fun _ => ?_)
     clear hK9 K9
     (try simp only[pq])
     refine rdq 15 (some 3) (.alloc 46) (fun K9 hK9 => ?_)
     obtain ⟨wa7,hw7,hB7,ga7⟩:=zag wc5 46 ZL
     have z9:=hzv wc5
     go_simp
     rw[← hw7]
     clear z9
     have gg8wb1:=tn (gg6wb1) ga7
     have hh8:=tn hh6 ga7
     refine hK9.out _ _ hh8 (fun _ => ?_)
     clear hK9 K9 hw7
     (try simp only[pq])
     refine rdq 16 none (.store 46 (.tmp 3) (.tmp 18)) (fun K9 hK9 => ?_)
     have hX9:=hB7.kept (zaa wa7 none) (by simp)
     rw[if_pos (by rfl)]
     refine wp_store_row _ _ _ rfl wc5.heap.size S.toArray rfl rfl _ _ hX9 (uh HI) (uh HZS) (uh HSO) ?_
     obtain ⟨wf,hwf⟩:∃ V,V=wa7.setRow wc5.heap.size S.toArray:=⟨_,rfl⟩
     have hf:W0.grownBy wf none:=by rw[hwf];exact zar hh8 _ (Or.inl hh6.size)
     have hBf:Blk wf wc5.heap.size 46 S:=by rw[hwf];exact hX9.row S
     rw[← hwf]
     refine hK9.out _ _ hf (fun _ => ?_)
     clear hK9 K9 hwf
     (try simp only[Act.put])
     refine wpAnyH_done (by kernel_rfl) ?_ _
     refine NoPanic.normal ?_
     have z9:=htail _ _ hBf
     have z8:=hsl wc5.heap.size
     clear hBf
     go_wp2
     go_ret
     exact ⟨rfl,tn g0 hf⟩
    ·obtain ⟨wa5,hw5,hB5,ga5⟩:=zag wc3 46 ZL
     have z9:=hzv wc3
     go_simp
     rw[← hw5]
     clear z9
     have gg6wb1:=tn (gg4wb1) ga5
     have hh6:=tn hh4 ga5
     refine hK9.out _ _ hh6 (fun _ => ?_)
     clear hK9 K9 hw5
     (try simp only[pq])
     refine rdq 14 (some 18) (.call { callee := .value (.func 51),args := #[(.tmp 17)],argTypes := #[9] }) (fun K9 hK9 => ?_)
     go_simp
     go_at_call 51
     refine (csum wa5).mono ?_
     rintro e wc7 ⟨rfl,gc7⟩
     go_wp2_with fail
     have gg8wb1:=tn (gg6wb1) gc7
     have gg8wa5:=tn ((zaa wa5 none)) gc7
     have hh8:=tn hh6 gc7
     refine hK9.out _ _ hh8 (fun _ => ?_)
     clear hK9 K9
     (try simp only[pq])
     refine rdq 16 none (.store 46 (.tmp 3) (.tmp 18)) (fun K9 hK9 => ?_)
     have hX9:=hB5.kept gg8wa5 (by simp)
     rw[if_pos (by rfl)]
     refine wp_store_row _ _ _ rfl wc3.heap.size S.toArray rfl rfl _ _ hX9 (uh HI) (uh HZS) (uh HSO) ?_
     obtain ⟨wf,hwf⟩:∃ V,V=wc7.setRow wc3.heap.size S.toArray:=⟨_,rfl⟩
     have hf:W0.grownBy wf none:=by rw[hwf];exact zar hh8 _ (Or.inl hh4.size)
     have hBf:Blk wf wc3.heap.size 46 S:=by rw[hwf];exact hX9.row S
     rw[← hwf]
     refine hK9.out _ _ hf (fun _ => ?_)
     clear hK9 K9 hwf
     (try simp only[Act.put])
     refine wpAnyH_done (by kernel_rfl) ?_ _
     refine NoPanic.normal ?_
     have z9:=htail _ _ hBf
     have z8:=hsl wc3.heap.size
     clear hBf
     go_wp2
     go_ret
     exact ⟨rfl,tn g0 hf⟩
   ·obtain ⟨wa3,hw3,hB3,ga3⟩:=zag wb1 46 ZL
    have z9:=hzv wb1
    go_simp
    rw[← hw3]
    clear z9
    have gg4wb1:=tn ((zaa wb1 none)) ga3
    have hh4:=tn hh2 ga3
    refine hK9.out _ _ hh4 (fun _ => ?_)
    clear hK9 K9 hw3
    (try simp only[pq])
    refine rdq 9 (some 13) (.call { callee := .value (.func 27),args := #[.const (.string { data := #[] }),(.tmp 12),.const (.int .i64 4)],argTypes := #[9,64,3] }) (fun K9 hK9 => ?_)
    go_simp
    go_at_call 27
    refine (cput wa3).mono ?_
    rintro e wc5 ⟨rfl,gc5⟩
    go_wp2_with fail
    have gg6wb1:=tn (gg4wb1) gc5
    have gg6wa3:=tn ((zaa wa3 none)) gc5
    have hh6:=tn hh4 gc5
    refine hK9.out _ _ hh6 (fun _ => ?_)
    clear hK9 K9
    refine tq 10 14 (.binOp .add 9 (.tmp 8) (.tmp 13) 9) (.string T2) hh6 ?_
    refine tq 13 17 (.binOp .add 9 (.tmp 14) (.tmp 16) 9) (.string TQ) hh6 ?_
    (try simp only[pq])
    refine rdq 14 (some 18) (.call { callee := .value (.func 51),args := #[(.tmp 17)],argTypes := #[9] }) (fun K9 hK9 => ?_)
    go_simp
    go_at_call 51
    refine (csum wc5).mono ?_
    rintro e wc7 ⟨rfl,gc7⟩
    go_wp2_with fail
    have gg8wb1:=tn (gg6wb1) gc7
    have gg8wa3:=tn (gg6wa3) gc7
    have hh8:=tn hh6 gc7
    refine hK9.out _ _ hh8 (fun _ => ?_)
    clear hK9 K9
    (try simp only[pq])
    refine rdq 16 none (.store 46 (.tmp 3) (.tmp 18)) (fun K9 hK9 => ?_)
    have hX9:=hB3.kept gg8wa3 (by simp)
    rw[if_pos (by rfl)]
    refine wp_store_row _ _ _ rfl wb1.heap.size S.toArray rfl rfl _ _ hX9 (uh HI) (uh HZS) (uh HSO) ?_
    obtain ⟨wf,hwf⟩:∃ V,V=wc7.setRow wb1.heap.size S.toArray:=⟨_,rfl⟩
    have hf:W0.grownBy wf none:=by rw[hwf];exact zar hh8 _ (Or.inl hh2.size)
    have hBf:Blk wf wb1.heap.size 46 S:=by rw[hwf];exact hX9.row S
    rw[← hwf]
    refine hK9.out _ _ hf (fun _ => ?_)
    clear hK9 K9 hwf
    (try simp only[Act.put])
    refine wpAnyH_done (by kernel_rfl) ?_ _
    refine NoPanic.normal ?_
    have z9:=htail _ _ hBf
    have z8:=hsl wb1.heap.size
    clear hBf
    go_wp2
    go_ret
    exact ⟨rfl,tn g0 hf⟩
  ·go_simp
   go_at_call 27
   refine (cput wb1).mono ?_
   rintro e wc3 ⟨rfl,gc3⟩
   go_wp2_with fail
   have gg4wb1:=tn ((zaa wb1 none)) gc3
   have hh4:=tn hh2 gc3
   refine hK9.out _ _ hh4 (fun _ => ?_)
   clear hK9 K9
   (try simp only[pq])
   refine wpAnyH_ready (rs:=[4,15]) (by kernel_rfl) (by simp) ?_
   refine AllReadyH.cons (o:=⟨some 8,.convert 24 9 (.tmp 7),_,_,_,_⟩) rfl (fun K9 hK9 => ?_) (AllReadyH.cons (o:=⟨some 3,.alloc 46,_,_,_,_⟩) rfl (fun K9 hK9 => ?_) AllReadyH.nil)
   ·have z9:=zas (hb1.kept gg4wb1 (fun _ e=>by cases e))
    rw[show ([UInt8.ofInt k]:List UInt8).length=1 from rfl,← uh HTB] at z9
    go_simp
    clear z9
    refine hK9.out _ _ hh4 (fun _ => ?_)
    clear hK9 K9
    refine tq 10 14 (.binOp .add 9 (.tmp 8) (.tmp 13) 9) (.string T2) hh4 ?_
    refine tq 13 17 (.binOp .add 9 (.tmp 14) (.tmp 16) 9) (.string TQ) hh4 ?_
    (try simp only[pq])
    refine wpAnyH_ready (rs:=[14,15]) (by kernel_rfl) (by simp) ?_
    refine AllReadyH.cons (o:=⟨some 18,.call { callee := .value (.func 51),args := #[(.tmp 17)],argTypes := #[9] },_,_,_,_⟩) rfl (fun K9 hK9 => ?_) (AllReadyH.cons (o:=⟨some 3,.alloc 46,_,_,_,_⟩) rfl (fun K9 hK9 => ?_) AllReadyH.nil)
    ·go_simp
     go_at_call 51
     refine (csum wc3).mono ?_
     rintro e wc5 ⟨rfl,gc5⟩
     go_wp2_with fail
     have gg6wb1:=tn (gg4wb1) gc5
     have hh6:=tn hh4 gc5
     refine hK9.out _ _ hh6 (fun _ => ?_)
     clear hK9 K9
     (try simp only[pq])
     refine rdq 15 (some 3) (.alloc 46) (fun K9 hK9 => ?_)
     obtain ⟨wa7,hw7,hB7,ga7⟩:=zag wc5 46 ZL
     have z9:=hzv wc5
     go_simp
     rw[← hw7]
     clear z9
     have gg8wb1:=tn (gg6wb1) ga7
     have hh8:=tn hh6 ga7
     refine hK9.out _ _ hh8 (fun _ => ?_)
     clear hK9 K9 hw7
     (try simp only[pq])
     refine rdq 16 none (.store 46 (.tmp 3) (.tmp 18)) (fun K9 hK9 => ?_)
     have hX9:=hB7.kept (zaa wa7 none) (by simp)
     rw[if_pos (by rfl)]
     refine wp_store_row _ _ _ rfl wc5.heap.size S.toArray rfl rfl _ _ hX9 (uh HI) (uh HZS) (uh HSO) ?_
     obtain ⟨wf,hwf⟩:∃ V,V=wa7.setRow wc5.heap.size S.toArray:=⟨_,rfl⟩
     have hf:W0.grownBy wf none:=by rw[hwf];exact zar hh8 _ (Or.inl hh6.size)
     have hBf:Blk wf wc5.heap.size 46 S:=by rw[hwf];exact hX9.row S
     rw[← hwf]
     refine hK9.out _ _ hf (fun _ => ?_)
     clear hK9 K9 hwf
     (try simp only[Act.put])
     refine wpAnyH_done (by kernel_rfl) ?_ _
     refine NoPanic.normal ?_
     have z9:=htail _ _ hBf
     have z8:=hsl wc5.heap.size
     clear hBf
     go_wp2
     go_ret
     exact ⟨rfl,tn g0 hf⟩
    ·obtain ⟨wa5,hw5,hB5,ga5⟩:=zag wc3 46 ZL
     have z9:=hzv wc3
     go_simp
     rw[← hw5]
     clear z9
     have gg6wb1:=tn (gg4wb1) ga5
     have hh6:=tn hh4 ga5
     refine hK9.out _ _ hh6 (fun _ => ?_)
     clear hK9 K9 hw5
     (try simp only[pq])
     refine rdq 14 (some 18) (.call { callee := .value (.func 51),args := #[(.tmp 17)],argTypes := #[9] }) (fun K9 hK9 => ?_)
     go_simp
     go_at_call 51
     refine (csum wa5).mono ?_
     rintro e wc7 ⟨rfl,gc7⟩
     go_wp2_with fail
     have gg8wb1:=tn (gg6wb1) gc7
     have gg8wa5:=tn ((zaa wa5 none)) gc7
     have hh8:=tn hh6 gc7
     refine hK9.out _ _ hh8 (fun _ => ?_)
     clear hK9 K9
     (try simp only[pq])
     refine rdq 16 none (.store 46 (.tmp 3) (.tmp 18)) (fun K9 hK9 => ?_)
     have hX9:=hB5.kept gg8wa5 (by simp)
     rw[if_pos (by rfl)]
     refine wp_store_row _ _ _ rfl wc3.heap.size S.toArray rfl rfl _ _ hX9 (uh HI) (uh HZS) (uh HSO) ?_
     obtain ⟨wf,hwf⟩:∃ V,V=wc7.setRow wc3.heap.size S.toArray:=⟨_,rfl⟩
     have hf:W0.grownBy wf none:=by rw[hwf];exact zar hh8 _ (Or.inl hh4.size)
     have hBf:Blk wf wc3.heap.size 46 S:=by rw[hwf];exact hX9.row S
     rw[← hwf]
     refine hK9.out _ _ hf (fun _ => ?_)
     clear hK9 K9 hwf
     (try simp only[Act.put])
     refine wpAnyH_done (by kernel_rfl) ?_ _
     refine NoPanic.normal ?_
     have z9:=htail _ _ hBf
     have z8:=hsl wc3.heap.size
     clear hBf
     go_wp2
     go_ret
     exact ⟨rfl,tn g0 hf⟩
   ·obtain ⟨wa5,hw5,hB5,ga5⟩:=zag wc3 46 ZL
    have z9:=hzv wc3
    go_simp
    rw[← hw5]
    clear z9
    have gg6wb1:=tn (gg4wb1) ga5
    have hh6:=tn hh4 ga5
    refine hK9.out _ _ hh6 (fun _ => ?_)
    clear hK9 K9 hw5
    (try simp only[pq])
    refine rdq 4 (some 8) (.convert 24 9 (.tmp 7)) (fun K9 hK9 => ?_)
    have z9:=zas (hb1.kept gg6wb1 (fun _ e=>by cases e))
    rw[show ([UInt8.ofInt k]:List UInt8).length=1 from rfl,← uh HTB] at z9
    go_simp
    clear z9
    refine hK9.out _ _ hh6 (fun _ => ?_)
    clear hK9 K9
    refine tq 10 14 (.binOp .add 9 (.tmp 8) (.tmp 13) 9) (.string T2) hh6 ?_
    refine tq 13 17 (.binOp .add 9 (.tmp 14) (.tmp 16) 9) (.string TQ) hh6 ?_
    (try simp only[pq])
    refine rdq 14 (some 18) (.call { callee := .value (.func 51),args := #[(.tmp 17)],argTypes := #[9] }) (fun K9 hK9 => ?_)
    go_simp
    go_at_call 51
    refine (csum wa5).mono ?_
    rintro e wc7 ⟨rfl,gc7⟩
    go_wp2_with fail
    have gg8wb1:=tn (gg6wb1) gc7
    have gg8wa5:=tn ((zaa wa5 none)) gc7
    have hh8:=tn hh6 gc7
    refine hK9.out _ _ hh8 (fun _ => ?_)
    clear hK9 K9
    (try simp only[pq])
    refine rdq 16 none (.store 46 (.tmp 3) (.tmp 18)) (fun K9 hK9 => ?_)
    have hX9:=hB5.kept gg8wa5 (by simp)
    rw[if_pos (by rfl)]
    refine wp_store_row _ _ _ rfl wc3.heap.size S.toArray rfl rfl _ _ hX9 (uh HI) (uh HZS) (uh HSO) ?_
    obtain ⟨wf,hwf⟩:∃ V,V=wc7.setRow wc3.heap.size S.toArray:=⟨_,rfl⟩
    have hf:W0.grownBy wf none:=by rw[hwf];exact zar hh8 _ (Or.inl hh4.size)
    have hBf:Blk wf wc3.heap.size 46 S:=by rw[hwf];exact hX9.row S
    rw[← hwf]
    refine hK9.out _ _ hf (fun _ => ?_)
    clear hK9 K9 hwf
    (try simp only[Act.put])
    refine wpAnyH_done (by kernel_rfl) ?_ _
    refine NoPanic.normal ?_
    have z9:=htail _ _ hBf
    have z8:=hsl wc3.heap.size
    clear hBf
    go_wp2
    go_ret
    exact ⟨rfl,tn g0 hf⟩
  ·obtain ⟨wa3,hw3,hB3,ga3⟩:=zag wb1 46 ZL
   have z9:=hzv wb1
   go_simp
   rw[← hw3]
   clear z9
   have gg4wb1:=tn ((zaa wb1 none)) ga3
   have hh4:=tn hh2 ga3
   refine hK9.out _ _ hh4 (fun _ => ?_)
   clear hK9 K9 hw3
   (try simp only[pq])
   refine wpAnyH_ready (rs:=[4,9]) (by kernel_rfl) (by simp) ?_
   refine AllReadyH.cons (o:=⟨some 8,.convert 24 9 (.tmp 7),_,_,_,_⟩) rfl (fun K9 hK9 => ?_) (AllReadyH.cons (o:=⟨some 13,.call { callee := .value (.func 27),args := #[.const (.string { data := #[] }),(.tmp 12),.const (.int .i64 4)],argTypes := #[9,64,3] },_,_,_,_⟩) rfl (fun K9 hK9 => ?_) AllReadyH.nil)
   ·have z9:=zas (hb1.kept gg4wb1 (fun _ e=>by cases e))
    rw[show ([UInt8.ofInt k]:List UInt8).length=1 from rfl,← uh HTB] at z9
    go_simp
    clear z9
    refine hK9.out _ _ hh4 (fun _ => ?_)
    clear hK9 K9
    (try simp only[pq])
    refine rdq 9 (some 13) (.call { callee := .value (.func 27),args := #[.const (.string { data := #[] }),(.tmp 12),.const (.int .i64 4)],argTypes := #[9,64,3] }) (fun K9 hK9 => ?_)
    go_simp
    go_at_call 27
    refine (cput wa3).mono ?_
    rintro e wc5 ⟨rfl,gc5⟩
    go_wp2_with fail
    have gg6wb1:=tn (gg4wb1) gc5
    have gg6wa3:=tn ((zaa wa3 none)) gc5
    have hh6:=tn hh4 gc5
    refine hK9.out _ _ hh6 (fun _ => ?_)
    clear hK9 K9
    refine tq 10 14 (.binOp .add 9 (.tmp 8) (.tmp 13) 9) (.string T2) hh6 ?_
    refine tq 13 17 (.binOp .add 9 (.tmp 14) (.tmp 16) 9) (.string TQ) hh6 ?_
    (try simp only[pq])
    refine rdq 14 (some 18) (.call { callee := .value (.func 51),args := #[(.tmp 17)],argTypes := #[9] }) (fun K9 hK9 => ?_)
    go_simp
    go_at_call 51
    refine (csum wc5).mono ?_
    rintro e wc7 ⟨rfl,gc7⟩
    go_wp2_with fail
    have gg8wb1:=tn (gg6wb1) gc7
    have gg8wa3:=tn (gg6wa3) gc7
    have hh8:=tn hh6 gc7
    refine hK9.out _ _ hh8 (fun _ => ?_)
    clear hK9 K9
    (try simp only[pq])
    refine rdq 16 none (.store 46 (.tmp 3) (.tmp 18)) (fun K9 hK9 => ?_)
    have hX9:=hB3.kept gg8wa3 (by simp)
    rw[if_pos (by rfl)]
    refine wp_store_row _ _ _ rfl wb1.heap.size S.toArray rfl rfl _ _ hX9 (uh HI) (uh HZS) (uh HSO) ?_
    obtain ⟨wf,hwf⟩:∃ V,V=wc7.setRow wb1.heap.size S.toArray:=⟨_,rfl⟩
    have hf:W0.grownBy wf none:=by rw[hwf];exact zar hh8 _ (Or.inl hh2.size)
    have hBf:Blk wf wb1.heap.size 46 S:=by rw[hwf];exact hX9.row S
    rw[← hwf]
    refine hK9.out _ _ hf (fun _ => ?_)
    clear hK9 K9 hwf
    (try simp only[Act.put])
    refine wpAnyH_done (by kernel_rfl) ?_ _
    refine NoPanic.normal ?_
    have z9:=htail _ _ hBf
    have z8:=hsl wb1.heap.size
    clear hBf
    go_wp2
    go_ret
    exact ⟨rfl,tn g0 hf⟩
   ·go_simp
    go_at_call 27
    refine (cput wa3).mono ?_
    rintro e wc5 ⟨rfl,gc5⟩
    go_wp2_with fail
    have gg6wb1:=tn (gg4wb1) gc5
    have gg6wa3:=tn ((zaa wa3 none)) gc5
    have hh6:=tn hh4 gc5
    refine hK9.out _ _ hh6 (fun _ => ?_)
    clear hK9 K9
    (try simp only[pq])
    refine rdq 4 (some 8) (.convert 24 9 (.tmp 7)) (fun K9 hK9 => ?_)
    have z9:=zas (hb1.kept gg6wb1 (fun _ e=>by cases e))
    rw[show ([UInt8.ofInt k]:List UInt8).length=1 from rfl,← uh HTB] at z9
    go_simp
    clear z9
    refine hK9.out _ _ hh6 (fun _ => ?_)
    clear hK9 K9
    refine tq 10 14 (.binOp .add 9 (.tmp 8) (.tmp 13) 9) (.string T2) hh6 ?_
    refine tq 13 17 (.binOp .add 9 (.tmp 14) (.tmp 16) 9) (.string TQ) hh6 ?_
    (try simp only[pq])
    refine rdq 14 (some 18) (.call { callee := .value (.func 51),args := #[(.tmp 17)],argTypes := #[9] }) (fun K9 hK9 => ?_)
    go_simp
    go_at_call 51
    refine (csum wc5).mono ?_
    rintro e wc7 ⟨rfl,gc7⟩
    go_wp2_with fail
    have gg8wb1:=tn (gg6wb1) gc7
    have gg8wa3:=tn (gg6wa3) gc7
    have hh8:=tn hh6 gc7
    refine hK9.out _ _ hh8 (fun _ => ?_)
    clear hK9 K9
    (try simp only[pq])
    refine rdq 16 none (.store 46 (.tmp 3) (.tmp 18)) (fun K9 hK9 => ?_)
    have hX9:=hB3.kept gg8wa3 (by simp)
    rw[if_pos (by rfl)]
    refine wp_store_row _ _ _ rfl wb1.heap.size S.toArray rfl rfl _ _ hX9 (uh HI) (uh HZS) (uh HSO) ?_
    obtain ⟨wf,hwf⟩:∃ V,V=wc7.setRow wb1.heap.size S.toArray:=⟨_,rfl⟩
    have hf:W0.grownBy wf none:=by rw[hwf];exact zar hh8 _ (Or.inl hh2.size)
    have hBf:Blk wf wb1.heap.size 46 S:=by rw[hwf];exact hX9.row S
    rw[← hwf]
    refine hK9.out _ _ hf (fun _ => ?_)
    clear hK9 K9 hwf
    (try simp only[Act.put])
    refine wpAnyH_done (by kernel_rfl) ?_ _
    refine NoPanic.normal ?_
    have z9:=htail _ _ hBf
    have z8:=hsl wb1.heap.size
    clear hBf
    go_wp2
    go_ret
    exact ⟨rfl,tn g0 hf⟩
 ·go_simp
  go_at_call 27
  refine (cput WD).mono ?_
  rintro e wc1 ⟨rfl,gc1⟩
  go_wp2_with fail
  have hh2:=tn h0 gc1
  refine hK9.out _ _ hh2 (fun _ => ?_)
  clear hK9 K9
  (try simp only[pq])
  refine wpAnyH_ready (rs:=[3,15]) (by kernel_rfl) (by simp) ?_
  refine AllReadyH.cons (o:=⟨some 7,.buildSlice 24 1 #[(0,(.tmp 6))],_,_,_,_⟩) rfl (fun K9 hK9 => ?_) (AllReadyH.cons (o:=⟨some 3,.alloc 46,_,_,_,_⟩) rfl (fun K9 hK9 => ?_) AllReadyH.nil)
  ·obtain ⟨wb3,hw3,hb3,gb3⟩:=zkv wc1 (UInt8.ofInt k)
   rw[← uh HZ] at hw3
   go_simp
   rw[← hw3]
   have hh4:=tn hh2 gb3
   refine hK9.out _ _ hh4 (fun _ => ?_)
   clear hK9 K9 hw3
   (try simp only[pq])
   refine wpAnyH_ready (rs:=[4,15]) (by kernel_rfl) (by simp) ?_
   refine AllReadyH.cons (o:=⟨some 8,.convert 24 9 (.tmp 7),_,_,_,_⟩) rfl (fun K9 hK9 => ?_) (AllReadyH.cons (o:=⟨some 3,.alloc 46,_,_,_,_⟩) rfl (fun K9 hK9 => ?_) AllReadyH.nil)
   ·have z9:=zas (hb3.kept (zaa wb3 none) (fun _ e=>by cases e))
    rw[show ([UInt8.ofInt k]:List UInt8).length=1 from rfl,← uh HTB] at z9
    go_simp
    clear z9
    refine hK9.out _ _ hh4 (fun _ => ?_)
    clear hK9 K9
    refine tq 10 14 (.binOp .add 9 (.tmp 8) (.tmp 13) 9) (.string T2) hh4 ?_
    refine tq 13 17 (.binOp .add 9 (.tmp 14) (.tmp 16) 9) (.string TQ) hh4 ?_
    (try simp only[pq])
    refine wpAnyH_ready (rs:=[14,15]) (by kernel_rfl) (by simp) ?_
    refine AllReadyH.cons (o:=⟨some 18,.call { callee := .value (.func 51),args := #[(.tmp 17)],argTypes := #[9] },_,_,_,_⟩) rfl (fun K9 hK9 => ?_) (AllReadyH.cons (o:=⟨some 3,.alloc 46,_,_,_,_⟩) rfl (fun K9 hK9 => ?_) AllReadyH.nil)
    ·go_simp
     go_at_call 51
     refine (csum wb3).mono ?_
     rintro e wc5 ⟨rfl,gc5⟩
     go_wp2_with fail
     have gg6wb3:=tn ((zaa wb3 none)) gc5
     have hh6:=tn hh4 gc5
     refine hK9.out _ _ hh6 (fun _ => ?_)
     clear hK9 K9
     (try simp only[pq])
     refine rdq 15 (some 3) (.alloc 46) (fun K9 hK9 => ?_)
     obtain ⟨wa7,hw7,hB7,ga7⟩:=zag wc5 46 ZL
     have z9:=hzv wc5
     go_simp
     rw[← hw7]
     clear z9
     have gg8wb3:=tn (gg6wb3) ga7
     have hh8:=tn hh6 ga7
     refine hK9.out _ _ hh8 (fun _ => ?_)
     clear hK9 K9 hw7
     (try simp only[pq])
     refine rdq 16 none (.store 46 (.tmp 3) (.tmp 18)) (fun K9 hK9 => ?_)
     have hX9:=hB7.kept (zaa wa7 none) (by simp)
     rw[if_pos (by rfl)]
     refine wp_store_row _ _ _ rfl wc5.heap.size S.toArray rfl rfl _ _ hX9 (uh HI) (uh HZS) (uh HSO) ?_
     obtain ⟨wf,hwf⟩:∃ V,V=wa7.setRow wc5.heap.size S.toArray:=⟨_,rfl⟩
     have hf:W0.grownBy wf none:=by rw[hwf];exact zar hh8 _ (Or.inl hh6.size)
     have hBf:Blk wf wc5.heap.size 46 S:=by rw[hwf];exact hX9.row S
     rw[← hwf]
     refine hK9.out _ _ hf (fun _ => ?_)
     clear hK9 K9 hwf
     (try simp only[Act.put])
     refine wpAnyH_done (by kernel_rfl) ?_ _
     refine NoPanic.normal ?_
     have z9:=htail _ _ hBf
     have z8:=hsl wc5.heap.size
     clear hBf
     go_wp2
     go_ret
     exact ⟨rfl,tn g0 hf⟩
    ·obtain ⟨wa5,hw5,hB5,ga5⟩:=zag wb3 46 ZL
     have z9:=hzv wb3
     go_simp
     rw[← hw5]
     clear z9
     have gg6wb3:=tn ((zaa wb3 none)) ga5
     have hh6:=tn hh4 ga5
     refine hK9.out _ _ hh6 (fun _ => ?_)
     clear hK9 K9 hw5
     (try simp only[pq])
     refine rdq 14 (some 18) (.call { callee := .value (.func 51),args := #[(.tmp 17)],argTypes := #[9] }) (fun K9 hK9 => ?_)
     go_simp
     go_at_call 51
     refine (csum wa5).mono ?_
     rintro e wc7 ⟨rfl,gc7⟩
     go_wp2_with fail
     have gg8wb3:=tn (gg6wb3) gc7
     have gg8wa5:=tn ((zaa wa5 none)) gc7
     have hh8:=tn hh6 gc7
     refine hK9.out _ _ hh8 (fun _ => ?_)
     clear hK9 K9
     (try simp only[pq])
     refine rdq 16 none (.store 46 (.tmp 3) (.tmp 18)) (fun K9 hK9 => ?_)
     have hX9:=hB5.kept gg8wa5 (by simp)
     rw[if_pos (by rfl)]
     refine wp_store_row _ _ _ rfl wb3.heap.size S.toArray rfl rfl _ _ hX9 (uh HI) (uh HZS) (uh HSO) ?_
     obtain ⟨wf,hwf⟩:∃ V,V=wc7.setRow wb3.heap.size S.toArray:=⟨_,rfl⟩
     have hf:W0.grownBy wf none:=by rw[hwf];exact zar hh8 _ (Or.inl hh4.size)
     have hBf:Blk wf wb3.heap.size 46 S:=by rw[hwf];exact hX9.row S
     rw[← hwf]
     refine hK9.out _ _ hf (fun _ => ?_)
     clear hK9 K9 hwf
     (try simp only[Act.put])
     refine wpAnyH_done (by kernel_rfl) ?_ _
     refine NoPanic.normal ?_
     have z9:=htail _ _ hBf
     have z8:=hsl wb3.heap.size
     clear hBf
     go_wp2
     go_ret
     exact ⟨rfl,tn g0 hf⟩
   ·obtain ⟨wa5,hw5,hB5,ga5⟩:=zag wb3 46 ZL
    have z9:=hzv wb3
    go_simp
    rw[← hw5]
    clear z9
    have gg6wb3:=tn ((zaa wb3 none)) ga5
    have hh6:=tn hh4 ga5
    refine hK9.out _ _ hh6 (fun _ => ?_)
    clear hK9 K9 hw5
    (try simp only[pq])
    refine rdq 4 (some 8) (.convert 24 9 (.tmp 7)) (fun K9 hK9 => ?_)
    have z9:=zas (hb3.kept gg6wb3 (fun _ e=>by cases e))
    rw[show ([UInt8.ofInt k]:List UInt8).length=1 from rfl,← uh HTB] at z9
    go_simp
    clear z9
    refine hK9.out _ _ hh6 (fun _ => ?_)
    clear hK9 K9
    refine tq 10 14 (.binOp .add 9 (.tmp 8) (.tmp 13) 9) (.string T2) hh6 ?_
    refine tq 13 17 (.binOp .add 9 (.tmp 14) (.tmp 16) 9) (.string TQ) hh6 ?_
    (try simp only[pq])
    refine rdq 14 (some 18) (.call { callee := .value (.func 51),args := #[(.tmp 17)],argTypes := #[9] }) (fun K9 hK9 => ?_)
    go_simp
    go_at_call 51
    refine (csum wa5).mono ?_
    rintro e wc7 ⟨rfl,gc7⟩
    go_wp2_with fail
    have gg8wb3:=tn (gg6wb3) gc7
    have gg8wa5:=tn ((zaa wa5 none)) gc7
    have hh8:=tn hh6 gc7
    refine hK9.out _ _ hh8 (fun _ => ?_)
    clear hK9 K9
    (try simp only[pq])
    refine rdq 16 none (.store 46 (.tmp 3) (.tmp 18)) (fun K9 hK9 => ?_)
    have hX9:=hB5.kept gg8wa5 (by simp)
    rw[if_pos (by rfl)]
    refine wp_store_row _ _ _ rfl wb3.heap.size S.toArray rfl rfl _ _ hX9 (uh HI) (uh HZS) (uh HSO) ?_
    obtain ⟨wf,hwf⟩:∃ V,V=wc7.setRow wb3.heap.size S.toArray:=⟨_,rfl⟩
    have hf:W0.grownBy wf none:=by rw[hwf];exact zar hh8 _ (Or.inl hh4.size)
    have hBf:Blk wf wb3.heap.size 46 S:=by rw[hwf];exact hX9.row S
    rw[← hwf]
    refine hK9.out _ _ hf (fun _ => ?_)
    clear hK9 K9 hwf
    (try simp only[Act.put])
    refine wpAnyH_done (by kernel_rfl) ?_ _
    refine NoPanic.normal ?_
    have z9:=htail _ _ hBf
    have z8:=hsl wb3.heap.size
    clear hBf
    go_wp2
    go_ret
    exact ⟨rfl,tn g0 hf⟩
  ·obtain ⟨wa3,hw3,hB3,ga3⟩:=zag wc1 46 ZL
   have z9:=hzv wc1
   go_simp
   rw[← hw3]
   clear z9
   have hh4:=tn hh2 ga3
   refine hK9.out _ _ hh4 (fun _ => ?_)
   clear hK9 K9 hw3
   (try simp only[pq])
   refine rdq 3 (some 7) (.buildSlice 24 1 #[(0,(.tmp 6))]) (fun K9 hK9 => ?_)
   obtain ⟨wb5,hw5,hb5,gb5⟩:=zkv wa3 (UInt8.ofInt k)
   rw[← uh HZ] at hw5
   go_simp
   rw[← hw5]
   have gg6wa3:=tn ((zaa wa3 none)) gb5
   have hh6:=tn hh4 gb5
   refine hK9.out _ _ hh6 (fun _ => ?_)
   clear hK9 K9 hw5
   (try simp only[pq])
   refine rdq 4 (some 8) (.convert 24 9 (.tmp 7)) (fun K9 hK9 => ?_)
   have z9:=zas (hb5.kept (zaa wb5 none) (fun _ e=>by cases e))
   rw[show ([UInt8.ofInt k]:List UInt8).length=1 from rfl,← uh HTB] at z9
   go_simp
   clear z9
   refine hK9.out _ _ hh6 (fun _ => ?_)
   clear hK9 K9
   refine tq 10 14 (.binOp .add 9 (.tmp 8) (.tmp 13) 9) (.string T2) hh6 ?_
   refine tq 13 17 (.binOp .add 9 (.tmp 14) (.tmp 16) 9) (.string TQ) hh6 ?_
   (try simp only[pq])
   refine rdq 14 (some 18) (.call { callee := .value (.func 51),args := #[(.tmp 17)],argTypes := #[9] }) (fun K9 hK9 => ?_)
   go_simp
   go_at_call 51
   refine (csum wb5).mono ?_
   rintro e wc7 ⟨rfl,gc7⟩
   go_wp2_with fail
   have gg8wa3:=tn (gg6wa3) gc7
   have gg8wb5:=tn ((zaa wb5 none)) gc7
   have hh8:=tn hh6 gc7
   refine hK9.out _ _ hh8 (fun _ => ?_)
   clear hK9 K9
   (try simp only[pq])
   refine rdq 16 none (.store 46 (.tmp 3) (.tmp 18)) (fun K9 hK9 => ?_)
   have hX9:=hB3.kept gg8wa3 (by simp)
   rw[if_pos (by rfl)]
   refine wp_store_row _ _ _ rfl wc1.heap.size S.toArray rfl rfl _ _ hX9 (uh HI) (uh HZS) (uh HSO) ?_
   obtain ⟨wf,hwf⟩:∃ V,V=wc7.setRow wc1.heap.size S.toArray:=⟨_,rfl⟩
   have hf:W0.grownBy wf none:=by rw[hwf];exact zar hh8 _ (Or.inl hh2.size)
   have hBf:Blk wf wc1.heap.size 46 S:=by rw[hwf];exact hX9.row S
   rw[← hwf]
   refine hK9.out _ _ hf (fun _ => ?_)
   clear hK9 K9 hwf
   (try simp only[Act.put])
   refine wpAnyH_done (by kernel_rfl) ?_ _
   refine NoPanic.normal ?_
   have z9:=htail _ _ hBf
   have z8:=hsl wc1.heap.size
   clear hBf
   go_wp2
   go_ret
   exact ⟨rfl,tn g0 hf⟩
 ·obtain ⟨wa1,hw1,hB1,ga1⟩:=zag WD 46 ZL
  have z9:=hzv WD
  go_simp
  rw[← hw1]
  clear z9
  have hh2:=tn h0 ga1
  refine hK9.out _ _ hh2 (fun _ => ?_)
  clear hK9 K9 hw1
  (try simp only[pq])
  refine wpAnyH_ready (rs:=[3,9]) (by kernel_rfl) (by simp) ?_
  refine AllReadyH.cons (o:=⟨some 7,.buildSlice 24 1 #[(0,(.tmp 6))],_,_,_,_⟩) rfl (fun K9 hK9 => ?_) (AllReadyH.cons (o:=⟨some 13,.call { callee := .value (.func 27),args := #[.const (.string { data := #[] }),(.tmp 12),.const (.int .i64 4)],argTypes := #[9,64,3] },_,_,_,_⟩) rfl (fun K9 hK9 => ?_) AllReadyH.nil)
  ·obtain ⟨wb3,hw3,hb3,gb3⟩:=zkv wa1 (UInt8.ofInt k)
   rw[← uh HZ] at hw3
   go_simp
   rw[← hw3]
   have gg4wa1:=tn ((zaa wa1 none)) gb3
   have hh4:=tn hh2 gb3
   refine hK9.out _ _ hh4 (fun _ => ?_)
   clear hK9 K9 hw3
   (try simp only[pq])
   refine wpAnyH_ready (rs:=[4,9]) (by kernel_rfl) (by simp) ?_
   refine AllReadyH.cons (o:=⟨some 8,.convert 24 9 (.tmp 7),_,_,_,_⟩) rfl (fun K9 hK9 => ?_) (AllReadyH.cons (o:=⟨some 13,.call { callee := .value (.func 27),args := #[.const (.string { data := #[] }),(.tmp 12),.const (.int .i64 4)],argTypes := #[9,64,3] },_,_,_,_⟩) rfl (fun K9 hK9 => ?_) AllReadyH.nil)
   ·have z9:=zas (hb3.kept (zaa wb3 none) (fun _ e=>by cases e))
    rw[show ([UInt8.ofInt k]:List UInt8).length=1 from rfl,← uh HTB] at z9
    go_simp
    clear z9
    refine hK9.out _ _ hh4 (fun _ => ?_)
    clear hK9 K9
    (try simp only[pq])
    refine rdq 9 (some 13) (.call { callee := .value (.func 27),args := #[.const (.string { data := #[] }),(.tmp 12),.const (.int .i64 4)],argTypes := #[9,64,3] }) (fun K9 hK9 => ?_)
    go_simp
    go_at_call 27
    refine (cput wb3).mono ?_
    rintro e wc5 ⟨rfl,gc5⟩
    go_wp2_with fail
    have gg6wa1:=tn (gg4wa1) gc5
    have gg6wb3:=tn ((zaa wb3 none)) gc5
    have hh6:=tn hh4 gc5
    refine hK9.out _ _ hh6 (fun _ => ?_)
    clear hK9 K9
    refine tq 10 14 (.binOp .add 9 (.tmp 8) (.tmp 13) 9) (.string T2) hh6 ?_
    refine tq 13 17 (.binOp .add 9 (.tmp 14) (.tmp 16) 9) (.string TQ) hh6 ?_
    (try simp only[pq])
    refine rdq 14 (some 18) (.call { callee := .value (.func 51),args := #[(.tmp 17)],argTypes := #[9] }) (fun K9 hK9 => ?_)
    go_simp
    go_at_call 51
    refine (csum wc5).mono ?_
    rintro e wc7 ⟨rfl,gc7⟩
    go_wp2_with fail
    have gg8wa1:=tn (gg6wa1) gc7
    have gg8wb3:=tn (gg6wb3) gc7
    have hh8:=tn hh6 gc7
    refine hK9.out _ _ hh8 (fun _ => ?_)
    clear hK9 K9
    (try simp only[pq])
    refine rdq 16 none (.store 46 (.tmp 3) (.tmp 18)) (fun K9 hK9 => ?_)
    have hX9:=hB1.kept gg8wa1 (by simp)
    rw[if_pos (by rfl)]
    refine wp_store_row _ _ _ rfl WD.heap.size S.toArray rfl rfl _ _ hX9 (uh HI) (uh HZS) (uh HSO) ?_
    obtain ⟨wf,hwf⟩:∃ V,V=wc7.setRow WD.heap.size S.toArray:=⟨_,rfl⟩
    have hf:W0.grownBy wf none:=by rw[hwf];exact zar hh8 _ (Or.inl h0.size)
    have hBf:Blk wf WD.heap.size 46 S:=by rw[hwf];exact hX9.row S
    rw[← hwf]
    refine hK9.out _ _ hf (fun _ => ?_)
    clear hK9 K9 hwf
    (try simp only[Act.put])
    refine wpAnyH_done (by kernel_rfl) ?_ _
    refine NoPanic.normal ?_
    have z9:=htail _ _ hBf
    have z8:=hsl WD.heap.size
    clear hBf
    go_wp2
    go_ret
    exact ⟨rfl,tn g0 hf⟩
   ·go_simp
    go_at_call 27
    refine (cput wb3).mono ?_
    rintro e wc5 ⟨rfl,gc5⟩
    go_wp2_with fail
    have gg6wa1:=tn (gg4wa1) gc5
    have gg6wb3:=tn ((zaa wb3 none)) gc5
    have hh6:=tn hh4 gc5
    refine hK9.out _ _ hh6 (fun _ => ?_)
    clear hK9 K9
    (try simp only[pq])
    refine rdq 4 (some 8) (.convert 24 9 (.tmp 7)) (fun K9 hK9 => ?_)
    have z9:=zas (hb3.kept gg6wb3 (fun _ e=>by cases e))
    rw[show ([UInt8.ofInt k]:List UInt8).length=1 from rfl,← uh HTB] at z9
    go_simp
    clear z9
    refine hK9.out _ _ hh6 (fun _ => ?_)
    clear hK9 K9
    refine tq 10 14 (.binOp .add 9 (.tmp 8) (.tmp 13) 9) (.string T2) hh6 ?_
    refine tq 13 17 (.binOp .add 9 (.tmp 14) (.tmp 16) 9) (.string TQ) hh6 ?_
    (try simp only[pq])
    refine rdq 14 (some 18) (.call { callee := .value (.func 51),args := #[(.tmp 17)],argTypes := #[9] }) (fun K9 hK9 => ?_)
    go_simp
    go_at_call 51
    refine (csum wc5).mono ?_
    rintro e wc7 ⟨rfl,gc7⟩
    go_wp2_with fail
    have gg8wa1:=tn (gg6wa1) gc7
    have gg8wb3:=tn (gg6wb3) gc7
    have hh8:=tn hh6 gc7
    refine hK9.out _ _ hh8 (fun _ => ?_)
    clear hK9 K9
    (try simp only[pq])
    refine rdq 16 none (.store 46 (.tmp 3) (.tmp 18)) (fun K9 hK9 => ?_)
    have hX9:=hB1.kept gg8wa1 (by simp)
    rw[if_pos (by rfl)]
    refine wp_store_row _ _ _ rfl WD.heap.size S.toArray rfl rfl _ _ hX9 (uh HI) (uh HZS) (uh HSO) ?_
    obtain ⟨wf,hwf⟩:∃ V,V=wc7.setRow WD.heap.size S.toArray:=⟨_,rfl⟩
    have hf:W0.grownBy wf none:=by rw[hwf];exact zar hh8 _ (Or.inl h0.size)
    have hBf:Blk wf WD.heap.size 46 S:=by rw[hwf];exact hX9.row S
    rw[← hwf]
    refine hK9.out _ _ hf (fun _ => ?_)
    clear hK9 K9 hwf
    (try simp only[Act.put])
    refine wpAnyH_done (by kernel_rfl) ?_ _
    refine NoPanic.normal ?_
    have z9:=htail _ _ hBf
    have z8:=hsl WD.heap.size
    clear hBf
    go_wp2
    go_ret
    exact ⟨rfl,tn g0 hf⟩
  ·go_simp
   go_at_call 27
   refine (cput wa1).mono ?_
   rintro e wc3 ⟨rfl,gc3⟩
   go_wp2_with fail
   have gg4wa1:=tn ((zaa wa1 none)) gc3
   have hh4:=tn hh2 gc3
   refine hK9.out _ _ hh4 (fun _ => ?_)
   clear hK9 K9
   (try simp only[pq])
   refine rdq 3 (some 7) (.buildSlice 24 1 #[(0,(.tmp 6))]) (fun K9 hK9 => ?_)
   obtain ⟨wb5,hw5,hb5,gb5⟩:=zkv wc3 (UInt8.ofInt k)
   rw[← uh HZ] at hw5
   go_simp
   rw[← hw5]
   have gg6wa1:=tn (gg4wa1) gb5
   have hh6:=tn hh4 gb5
   refine hK9.out _ _ hh6 (fun _ => ?_)
   clear hK9 K9 hw5
   (try simp only[pq])
   refine rdq 4 (some 8) (.convert 24 9 (.tmp 7)) (fun K9 hK9 => ?_)
   have z9:=zas (hb5.kept (zaa wb5 none) (fun _ e=>by cases e))
   rw[show ([UInt8.ofInt k]:List UInt8).length=1 from rfl,← uh HTB] at z9
   go_simp
   clear z9
   refine hK9.out _ _ hh6 (fun _ => ?_)
   clear hK9 K9
   refine tq 10 14 (.binOp .add 9 (.tmp 8) (.tmp 13) 9) (.string T2) hh6 ?_
   refine tq 13 17 (.binOp .add 9 (.tmp 14) (.tmp 16) 9) (.string TQ) hh6 ?_
   (try simp only[pq])
   refine rdq 14 (some 18) (.call { callee := .value (.func 51),args := #[(.tmp 17)],argTypes := #[9] }) (fun K9 hK9 => ?_)
   go_simp
   go_at_call 51
   refine (csum wb5).mono ?_
   rintro e wc7 ⟨rfl,gc7⟩
   go_wp2_with fail
   have gg8wa1:=tn (gg6wa1) gc7
   have gg8wb5:=tn ((zaa wb5 none)) gc7
   have hh8:=tn hh6 gc7
   refine hK9.out _ _ hh8 (fun _ => ?_)
   clear hK9 K9
   (try simp only[pq])
   refine rdq 16 none (.store 46 (.tmp 3) (.tmp 18)) (fun K9 hK9 => ?_)
   have hX9:=hB1.kept gg8wa1 (by simp)
   rw[if_pos (by rfl)]
   refine wp_store_row _ _ _ rfl WD.heap.size S.toArray rfl rfl _ _ hX9 (uh HI) (uh HZS) (uh HSO) ?_
   obtain ⟨wf,hwf⟩:∃ V,V=wc7.setRow WD.heap.size S.toArray:=⟨_,rfl⟩
   have hf:W0.grownBy wf none:=by rw[hwf];exact zar hh8 _ (Or.inl h0.size)
   have hBf:Blk wf WD.heap.size 46 S:=by rw[hwf];exact hX9.row S
   rw[← hwf]
   refine hK9.out _ _ hf (fun _ => ?_)
   clear hK9 K9 hwf
   (try simp only[Act.put])
   refine wpAnyH_done (by kernel_rfl) ?_ _
   refine NoPanic.normal ?_
   have z9:=htail _ _ hBf
   have z8:=hsl WD.heap.size
   clear hBf
   go_wp2
   go_ret
   exact ⟨rfl,tn g0 hf⟩
end Go.Proofs.YtegbbkgmiklhcaaGreatDoor
