/- Lemmas. -/
import Derived.Test.YtegbbkgmiklhcaaGreatDoorOTree
import Derived.Test.YtegbbkgmiklhcaaGreatDoorMNeq
import Derived.Test.YtegbbkgmiklhcaaGreatDoorNKind
namespace Go.Proofs.YtegbbkgmiklhcaaGreatDoor
open Go.RowKit
set_option maxRecDepth 100000
theorem zpl (w:World) (xs ys:List UInt8) (hx:xs.length=32) (hy:ys.length=32):(binOp .eql 47 (.agg (xs.map bv).toArray) (.agg (ys.map bv).toArray)).run Tryz.prog w = .ok (.bool (xs == ys)) w :=
 run_eql_bytes w 47 5 32 Tryz.underlying47 Tryz.underlying5 zau xs ys hx hy
theorem zje:Tryz.prog.eqGuardType Tryz.prog.depth 47=false:=by kernel_rfl
theorem zpm (w:World):(Go.sizeOf 47).run Tryz.prog w = .ok 32 w:=by kernel_rfl
theorem zik (W:World) (ao:Option Addr) (n c k:Nat) (hk:k≤c):(Instr.slice 59 (.slice ao n c) none (some (.int .i64 (k:Int))) none).run Tryz.prog W = .ok (.slice ao k c) W:=by
 have ht' : Tryz.prog.underlying 59=some (.slice (Tryz.prog.elem 59)):=by simp[Program.elem,Tryz.underlying59]
 have he:Tryz.prog.elem 59=47:=by simp[Program.elem,Tryz.underlying59]
 rw[run_slice_h W 59 _ _ _ ht' .i64 _ (by omega) (by omega),he,zpm]
 cases ao <;> simp[Result.andThen,sliced,Addr.add]
theorem zgy (ps:List (List UInt8)) (x:List UInt8) (j:Nat) (hj:j<ps.length):(ps.take (j+1)).contains x=((ps.take j).contains x || (x == ps[j])):=by
 rw[List.take_succ_eq_append_getElem hj,Bool.eq_iff_iff]
 simp only[List.contains_iff_mem,List.mem_append,List.mem_singleton,Bool.or_eq_true,beq_iff_eq]
set_option maxHeartbeats 2000000 in
theorem zkn (w:World) (ao:Option Addr) (c:Nat) (ps:List (List UInt8)) (hP:Ids w ao c ps) (x:List UInt8) (hx:x.length=32) (hn:ps.length≤1000) :
  Calls Tryz.prog 145 #[.slice ao ps.length c,.agg (x.map bv).toArray] w fun e w'=>∃ r:Int,e = .returned (.int .i64 r)∧decide (0≤r)=ps.contains x∧w.grownBy w' none:=by
 obtain ⟨X,hX⟩:∃ X,X=x.map bv:=⟨_,rfl⟩
 obtain ⟨W0,hW0,hB0,g0⟩:=zah w 47 X
 have hiX:(Tryz.prog.info? 47).map (·.size)=some X.length:=by rw[hX,List.length_map,hx];exact zax
 obtain ⟨n,hln⟩:∃ n,n=ps.length:=⟨_,rfl⟩
 have hn' : n≤1000:=by omega
 rw[← hln,← hX]
 obtain ⟨HX,HW0,HB0,HI,HL,HP⟩:=zh6 hX hW0 hB0 hiX hln hP
 have HXL:=hide hx
 clear hX hW0 hB0 hiX hln hP hx hn
 go_enter Tryz.func145,Tryz.ntmps145
 go_wp2_with (rw[← uh HW0])
 go_loopw [8] (fun i wr=>∃ j:Nat,i = .int .i64 j∧j≤n∧Hid ((ps.take j).contains x=false)∧W0.grownBy wr none) (fun i _=>n - (intOf i).toNat)
 case atStart=>exact ⟨0,rfl,Nat.zero_le _,rfl,by rw[uh HW0];exact zab _ _⟩
 case round =>
  obtain ⟨j,rfl,hj,HC,hg⟩:=hrel
  by_cases hlt:j<n
  ·have hlt' : j<ps.length:=by have:=uh HL;omega
   obtain ⟨b,o,hao,hrow⟩:=(uh HP).at j hlt'
   have hr:=zad (zad (hrow j hlt') g0 (by simp)) hg (by simp)
   have hid:=(uh HP).ids _ (List.getElem_mem hlt')
   have hsn:=zgy ps x j hlt'
   obtain ⟨E,hEE⟩:∃ E,E=ps[j]:=⟨_,rfl⟩
   rw[← hEE] at hr hid hsn
   have hrX:=zad (zal (uh HB0)) hg (by simp)
   have hq:∀ V:World,(binOp .eql 47 (.agg X.toArray) (.agg (E.map bv).toArray)).run Tryz.prog V = .ok (.bool (x == E)) V:=fun V=>by rw[uh HX];exact zpl V x E (uh HXL) hid
   obtain ⟨EC,hEC⟩:∃ L,L=E.map bv:=⟨_,rfl⟩
   have hiE:(Tryz.prog.info? 47).map (·.size)=some EC.length:=by rw[hEC,List.length_map,hid];exact zax
   rw[← hEC] at hr hq
   have h0:wr.grownBy wr.drew none:=zas (zab _ _)
   subst hao
   obtain ⟨HSN,HIE⟩:=zh2 hsn hiE
   have hG:=tn g0 hg
   have hG2:w.grownBy wr.drew none:=zas hG
   clear hrow hEE hEC hid hlt' hsn hiE
   obtain ⟨B,hB⟩:∃ B,B=(x == E):=⟨_,rfl⟩
   rw[← hB] at hq
   have HBX:=hide hB
   clear hB
   go_upto_region 4 with fail
   cases B
   ·skip
    refine wp_region_noPanic ?_
    refine wp_region_held_drew (S:=fun V=>wr.grownBy V none) (by kernel_rfl) h0 (fun _ => ?_)
    refine tz 0 11 (.load 47 (.tmp 3)) (.agg X.toArray) h0 ?_ (y:=(yieldsIf_load_mid (by rfl) _ _ rfl _ _ rfl X _ (fun V hV=>zad hrX hV (by simp)) Tryz.underlying47 rfl (uh HI)))
    refine tq 1 12 (.move (.tmp 0)) (.slice (some ⟨b,o,none⟩) n c) h0 ?_
    refine tq 2 13 (.move (.tmp 5)) (.int .i64 (j:Int)) h0 ?_
    refine tq 3 14 (.indexAddr 59 (.tmp 12) (.tmp 13)) (.pointer (some ⟨b,o+j*32,none⟩)) h0 ?_
    (try simp only[pq])
    refine tz 4 15 (.load 47 (.tmp 14)) (.agg EC.toArray) h0 ?_ (y:=(yieldsIf_load_mid (by rfl) _ _ rfl _ _ rfl EC _ (fun V hV=>zad hr hV (by simp)) Tryz.underlying47 rfl (uh HIE)))
    refine tz 5 16 (.binOp .eql 47 (.tmp 11) (.tmp 15) 47) (.bool false) h0 ?_ (y:=(zdx (by rfl) _ _ _ _ rfl _ _ _ rfl rfl zje hq))
    (try simp only[pq])
    refine wpAnyH_done (by kernel_rfl) ?_ _
    refine NoPanic.normal ?_
    go_wp2
    go_roundw
    case rel =>
     refine ⟨j+1,by go_num,by omega,?_,tn hg h0⟩
     exact hide (by rw[uh HSN,uh HC,← uh HBX];rfl)
    case measure=>simp[intOf];omega
   ·have hfin:ps.contains x=true:=by
     have h1:(ps.take (j+1)).contains x=true:=by rw[uh HSN,← uh HBX];simp
     simp only[List.contains_iff_mem] at h1 ⊢
     exact List.mem_of_mem_take h1
    have HF:=hide hfin
    clear hfin
    refine wp_region_noPanic ?_
    refine wp_region_held_drew (S:=fun V=>wr.grownBy V none) (by kernel_rfl) h0 (fun _ => ?_)
    refine tz 0 11 (.load 47 (.tmp 3)) (.agg X.toArray) h0 ?_ (y:=(yieldsIf_load_mid (by rfl) _ _ rfl _ _ rfl X _ (fun V hV=>zad hrX hV (by simp)) Tryz.underlying47 rfl (uh HI)))
    refine tq 1 12 (.move (.tmp 0)) (.slice (some ⟨b,o,none⟩) n c) h0 ?_
    refine tq 2 13 (.move (.tmp 5)) (.int .i64 (j:Int)) h0 ?_
    refine tq 3 14 (.indexAddr 59 (.tmp 12) (.tmp 13)) (.pointer (some ⟨b,o+j*32,none⟩)) h0 ?_
    (try simp only[pq])
    refine tz 4 15 (.load 47 (.tmp 14)) (.agg EC.toArray) h0 ?_ (y:=(yieldsIf_load_mid (by rfl) _ _ rfl _ _ rfl EC _ (fun V hV=>zad hr hV (by simp)) Tryz.underlying47 rfl (uh HIE)))
    refine tz 5 16 (.binOp .eql 47 (.tmp 11) (.tmp 15) 47) (.bool true) h0 ?_ (y:=(zdx (by rfl) _ _ _ _ rfl _ _ _ rfl rfl zje hq))
    (try simp only[pq])
    refine wpAnyH_done (by kernel_rfl) ?_ _
    refine NoPanic.normal ?_
    go_wp2
    go_ret
    exact ⟨(j:Int),rfl,by rw[uh HF];simp,hG2⟩
  ·have hjn:j=ps.length:=by have:=uh HL;omega
   have hfin:ps.contains x=false:=by have:=uh HC;rwa [hjn,List.take_of_length_le (Nat.le_refl _)] at this
   have HF:=hide hfin
   have hG:=tn g0 hg
   clear hfin hjn
   go_wp2
   go_ret
   exact ⟨-1,rfl,by rw[uh HF];simp,hG⟩
theorem zgz (w:World) (ao:Option Addr) (c:Nat) (ps:List (List UInt8)) (hP:Ids w ao c ps) (x:List UInt8) (hx:x.length=32) (hn:ps.length≤1000) :
  Calls Tryz.prog 139 #[.slice ao ps.length c,.agg (x.map bv).toArray] w fun e w'=>e = .returned (.bool (ps.contains x))∧w.grownBy w' none:=by
 obtain ⟨X,hX⟩:∃ X,X=x.map bv:=⟨_,rfl⟩
 obtain ⟨W0,hW0,hB0,g0⟩:=zah w 47 X
 have hiX:(Tryz.prog.info? 47).map (·.size)=some X.length:=by rw[hX,List.length_map,hx];exact zax
 have hr:=zal hB0
 have ci:=zkn W0 ao c ps (hP.none g0) x hx hn
 rw[← hX] at ci ⊢
 obtain ⟨n,hln⟩:∃ n,n=ps.length:=⟨_,rfl⟩
 rw[← hln] at ci ⊢
 obtain ⟨B,hB⟩:∃ B,B=ps.contains x:=⟨_,rfl⟩
 rw[← hB] at ci ⊢
 obtain ⟨HW0,HI⟩:=zh2 hW0 hiX
 clear hX hW0 hB0 hiX hln hP hx hn hB
 go_enter Tryz.func139,Tryz.ntmps139
 go_wp2_with (rw[← uh HW0];refine wpList_load_mid rfl 47 _ rfl w.heap.size 0 rfl X _ hr Tryz.underlying47 rfl (uh HI) ?_;clear hr)
 refine ci.mono ?_
 rintro e w2 ⟨r,rfl,hd,g2⟩
 have HD:=hide hd
 clear hd ci
 by_cases hr0:0≤r
 ·have hB:B=true:=by rw[← uh HD];simpa using hr0
  subst hB
  clear HD
  go_wp2
  go_ret
  exact ⟨rfl,tn g0 g2⟩
 ·have hB:B=false:=by rw[← uh HD];simpa using hr0
  subst hB
  have hr2:decide (0≤r)=false:=by simp[hr0]
  have hr3:decide (r ≥ 0)=false:=by simp[hr0]
  clear HD
  go_wp2
  go_ret
  exact ⟨rfl,tn g0 g2⟩
end Go.Proofs.YtegbbkgmiklhcaaGreatDoor
