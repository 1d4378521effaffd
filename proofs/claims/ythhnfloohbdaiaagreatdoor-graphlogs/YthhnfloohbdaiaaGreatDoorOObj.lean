/- Lemmas. -/
import Derived.Test.YthhnfloohbdaiaaGreatDoorOTree
import Derived.Test.YthhnfloohbdaiaaGreatDoorNKind
import Derived.Test.YthhnfloohbdaiaaGreatDoorORdP
import Derived.Laws.AppendOwnNone
namespace Go.Proofs.YthhnfloohbdaiaaGreatDoor
open Go.RowKit
set_option maxRecDepth 100000
theorem zxp (w:World) (xs ys:List UInt8) (hx:xs.length=32) (hy:ys.length=32):(binOp .eql 33 (.agg (xs.map bv).toArray) (.agg (ys.map bv).toArray)).run Tryz.prog w = .ok (.bool (xs == ys)) w :=
 run_eql_bytes w 33 5 32 Tryz.underlying33 Tryz.underlying5 zbf xs ys hx hy
theorem zej:Tryz.prog.eqGuardType Tryz.prog.depth 33=false:=by kernel_rfl
theorem zmt (w:World):(Go.sizeOf 33).run Tryz.prog w = .ok 32 w:=by kernel_rfl
theorem zmu (W:World) (ao:Option Addr) (n c k:Nat) (hk:k≤c):(Instr.slice 29 (.slice ao n c) none (some (.int .i64 (k:Int))) none).run Tryz.prog W = .ok (.slice ao k c) W:=by
 have ht' : Tryz.prog.underlying 29=some (.slice (Tryz.prog.elem 29)):=by simp[Program.elem,Tryz.underlying29]
 have he:Tryz.prog.elem 29=33:=by simp[Program.elem,Tryz.underlying29]
 rw[run_slice_h W 29 _ _ _ ht' .i64 _ (by omega) (by omega),he,zmt]
 cases ao <;> simp[Result.andThen,sliced,Addr.add]
theorem zkh (ps:List (List UInt8)) (x:List UInt8) (j:Nat) (hj:j<ps.length):(ps.take (j+1)).contains x=((ps.take j).contains x || (x == ps[j])):=by
 rw[List.take_succ_eq_append_getElem hj,Bool.eq_iff_iff]
 simp only[List.contains_iff_mem,List.mem_append,List.mem_singleton,Bool.or_eq_true,beq_iff_eq]
set_option maxHeartbeats 2000000 in
theorem zpt (w:World) (ao:Option Addr) (c:Nat) (ps:List (List UInt8)) (hP:Ids w ao c ps) (x:List UInt8) (hx:x.length=32) (hn:ps.length≤1000) :
  Calls Tryz.prog 104 #[.slice ao ps.length c,.agg (x.map bv).toArray] w fun e w'=>∃ r:Int,e = .returned (.int .i64 r)∧decide (0≤r)=ps.contains x∧w.grownBy w' none:=by
 obtain ⟨X,hX⟩:∃ X,X=x.map bv:=⟨_,rfl⟩
 obtain ⟨W0,hW0,hB0,g0⟩:=zag w 33 X
 have hiX:(Tryz.prog.info? 33).map (·.size)=some X.length:=by rw[hX,List.length_map,hx];exact zat
 obtain ⟨n,hln⟩:∃ n,n=ps.length:=⟨_,rfl⟩
 have hn' : n≤1000:=by omega
 rw[← hln,← hX]
 obtain ⟨HX,HW0,HB0,HI,HL,HP⟩:=zh6 hX hW0 hB0 hiX hln hP
 have HXL:=hide hx
 clear hX hW0 hB0 hiX hln hP hx hn
 go_enter Tryz.func104,Tryz.ntmps104
 go_wp2_with (rw[← uh HW0])
 go_loopw [8] (fun i wr=>∃ j:Nat,i = .int .i64 j∧j≤n∧Hid ((ps.take j).contains x=false)∧W0.grownBy wr none) (fun i _=>n - (intOf i).toNat)
 case atStart=>exact ⟨0,rfl,Nat.zero_le _,rfl,by rw[uh HW0];exact zab _ _⟩
 case round =>
  obtain ⟨j,rfl,hj,HC,hg⟩:=hrel
  by_cases hlt:j<n
  ·have hlt' : j<ps.length:=by have:=uh HL;omega
   obtain ⟨b,o,hao,hrow⟩:=(uh HP).at j hlt'
   have hr:=zaf (zaf (hrow j hlt') g0 (by simp)) hg (by simp)
   have hid:=(uh HP).ids _ (List.getElem_mem hlt')
   have hsn:=zkh ps x j hlt'
   obtain ⟨E,hEE⟩:∃ E,E=ps[j]:=⟨_,rfl⟩
   rw[← hEE] at hr hid hsn
   have hrX:=zaf (zal (uh HB0)) hg (by simp)
   have hq:∀ V:World,(binOp .eql 33 (.agg X.toArray) (.agg (E.map bv).toArray)).run Tryz.prog V = .ok (.bool (x == E)) V:=fun V=>by rw[uh HX];exact zxp V x E (uh HXL) hid
   obtain ⟨EC,hEC⟩:∃ L,L=E.map bv:=⟨_,rfl⟩
   have hiE:(Tryz.prog.info? 33).map (·.size)=some EC.length:=by rw[hEC,List.length_map,hid];exact zat
   rw[← hEC] at hr hq
   have h0:wr.grownBy wr.drew none:=zak (zab _ _)
   subst hao
   obtain ⟨HSN,HIE⟩:=zh2 hsn hiE
   have hG:=tn g0 hg
   have hG2:w.grownBy wr.drew none:=zak hG
   clear hrow hEE hEC hid hlt' hsn hiE
   obtain ⟨B,hB⟩:∃ B,B=(x == E):=⟨_,rfl⟩
   rw[← hB] at hq
   have HBX:=hide hB
   clear hB
   go_upto_region 4 with fail
   cases B
   ·skip
    refine wp_region_noPanic ?_
    refine wp_region_held_drew (S:=fun V=>wr.grownBy V none) (by kernel_rfl) h0 (fun _ => ?_)
    refine tz 0 11 (.load 33 (.tmp 3)) (.agg X.toArray) h0 ?_ (y:=(yieldsIf_load_mid (by rfl) _ _ rfl _ _ rfl X _ (fun V hV=>zaf hrX hV (by simp)) Tryz.underlying33 rfl (uh HI)))
    refine tq 1 12 (.move (.tmp 0)) (.slice (some ⟨b,o,none⟩) n c) h0 ?_
    refine tq 2 13 (.move (.tmp 5)) (.int .i64 (j:Int)) h0 ?_
    refine tq 3 14 (.indexAddr 29 (.tmp 12) (.tmp 13)) (.pointer (some ⟨b,o+j*32,none⟩)) h0 ?_
    (try simp only[pq])
    refine tz 4 15 (.load 33 (.tmp 14)) (.agg EC.toArray) h0 ?_ (y:=(yieldsIf_load_mid (by rfl) _ _ rfl _ _ rfl EC _ (fun V hV=>zaf hr hV (by simp)) Tryz.underlying33 rfl (uh HIE)))
    refine tz 5 16 (.binOp .eql 33 (.tmp 11) (.tmp 15) 33) (.bool false) h0 ?_ (y:=(zeh (by rfl) _ _ _ _ rfl _ _ _ rfl rfl zej hq))
    (try simp only[pq])
    refine wpAnyH_done (by kernel_rfl) ?_ _
    refine NoPanic.normal ?_
    go_wp2
    go_roundw
    case rel =>
     refine ⟨j+1,by go_num,by omega,?_,tn hg h0⟩
     exact hide (by rw[uh HSN,uh HC,← uh HBX];rfl)
    case measure=>simp[intOf];omega
   ·have hfin:ps.contains x=true:=by
     have h1:(ps.take (j+1)).contains x=true:=by rw[uh HSN,← uh HBX];simp
     simp only[List.contains_iff_mem] at h1 ⊢
     exact List.mem_of_mem_take h1
    have HF:=hide hfin
    clear hfin
    refine wp_region_noPanic ?_
    refine wp_region_held_drew (S:=fun V=>wr.grownBy V none) (by kernel_rfl) h0 (fun _ => ?_)
    refine tz 0 11 (.load 33 (.tmp 3)) (.agg X.toArray) h0 ?_ (y:=(yieldsIf_load_mid (by rfl) _ _ rfl _ _ rfl X _ (fun V hV=>zaf hrX hV (by simp)) Tryz.underlying33 rfl (uh HI)))
    refine tq 1 12 (.move (.tmp 0)) (.slice (some ⟨b,o,none⟩) n c) h0 ?_
    refine tq 2 13 (.move (.tmp 5)) (.int .i64 (j:Int)) h0 ?_
    refine tq 3 14 (.indexAddr 29 (.tmp 12) (.tmp 13)) (.pointer (some ⟨b,o+j*32,none⟩)) h0 ?_
    (try simp only[pq])
    refine tz 4 15 (.load 33 (.tmp 14)) (.agg EC.toArray) h0 ?_ (y:=(yieldsIf_load_mid (by rfl) _ _ rfl _ _ rfl EC _ (fun V hV=>zaf hr hV (by simp)) Tryz.underlying33 rfl (uh HIE)))
    refine tz 5 16 (.binOp .eql 33 (.tmp 11) (.tmp 15) 33) (.bool true) h0 ?_ (y:=(zeh (by rfl) _ _ _ _ rfl _ _ _ rfl rfl zej hq))
    (try simp only[pq])
    refine wpAnyH_done (by kernel_rfl) ?_ _
    refine NoPanic.normal ?_
    go_wp2
    go_ret
    exact ⟨(j:Int),rfl,by rw[uh HF];simp,hG2⟩
  ·have hjn:j=ps.length:=by have:=uh HL;omega
   have hfin:ps.contains x=false:=by have:=uh HC;rwa [hjn,List.take_of_length_le (Nat.le_refl _)] at this
   have HF:=hide hfin
   have hG:=tn g0 hg
   clear hfin hjn
   go_wp2
   go_ret
   exact ⟨-1,rfl,by rw[uh HF];simp,hG⟩
theorem zki (w:World) (ao:Option Addr) (c:Nat) (ps:List (List UInt8)) (hP:Ids w ao c ps) (x:List UInt8) (hx:x.length=32) (hn:ps.length≤1000) :
  Calls Tryz.prog 73 #[.slice ao ps.length c,.agg (x.map bv).toArray] w fun e w'=>e = .returned (.bool (ps.contains x))∧w.grownBy w' none:=by
 obtain ⟨X,hX⟩:∃ X,X=x.map bv:=⟨_,rfl⟩
 obtain ⟨W0,hW0,hB0,g0⟩:=zag w 33 X
 have hiX:(Tryz.prog.info? 33).map (·.size)=some X.length:=by rw[hX,List.length_map,hx];exact zat
 have hr:=zal hB0
 have ci:=zpt W0 ao c ps (hP.none g0) x hx hn
 rw[← hX] at ci ⊢
 obtain ⟨n,hln⟩:∃ n,n=ps.length:=⟨_,rfl⟩
 rw[← hln] at ci ⊢
 obtain ⟨B,hB⟩:∃ B,B=ps.contains x:=⟨_,rfl⟩
 rw[← hB] at ci ⊢
 obtain ⟨HW0,HI⟩:=zh2 hW0 hiX
 clear hX hW0 hB0 hiX hln hP hx hn hB
 go_enter Tryz.func73,Tryz.ntmps73
 go_wp2_with (rw[← uh HW0];refine wpList_load_mid rfl 33 _ rfl w.heap.size 0 rfl X _ hr Tryz.underlying33 rfl (uh HI) ?_;clear hr)
 refine ci.mono ?_
 rintro e w2 ⟨r,rfl,hd,g2⟩
 have HD:=hide hd
 clear hd ci
 by_cases hr0:0≤r
 ·have hB:B=true:=by rw[← uh HD];simpa using hr0
  subst hB
  clear HD
  go_wp2
  go_ret
  exact ⟨rfl,tn g0 g2⟩
 ·have hB:B=false:=by rw[← uh HD];simpa using hr0
  subst hB
  have hr2:decide (0≤r)=false:=by simp[hr0]
  have hr3:decide (r ≥ 0)=false:=by simp[hr0]
  clear HD
  go_wp2
  go_ret
  exact ⟨rfl,tn g0 g2⟩
theorem zr6 (ps:List (List UInt8)) (j:Nat) (hj:j<ps.length):zg8 ps j = !((ps.take j).contains ps[j]):=by
 unfold zg8
 rw[show ps.getD j []=ps[j] by simp[hj]]
theorem Made.laid {w w2:World} {K:Int} {r:Int × List UInt8} {v2:Value} {x:Int} {b:Nat} {cs:List Value} {t:TypeId} (hB:Blk w2 b t cs) (ht:t≠5) (hb:w.heap.size≤b) (hx:x=r.1) (hN:NewB w w2 v2 r.2) (g:w.grownBy w2 none) :
  Made w (w2.setRow b #[.int .i64 (if r.1=0 then K else 0),v2]) K r (.returned (.tuple #[.agg #[.int .i64 (if r.1=0 then K else 0),v2],.int .i64 x])):=by
 subst hx
 refine ⟨v2,rfl,?_,zam g _ (Or.inl hb)⟩
 obtain ⟨ao2,c2,e1,e2,e3⟩:=hN
 refine ⟨ao2,c2,e1,e2.kept (zam (zab _ _) _ (Or.inr rfl)) ?_,fun ad e=>⟨(e3 ad e).1,(e3 ad e).2.kept (zam (zab _ _) _ (Or.inr rfl)) ?_⟩⟩
 ·intro x e ad e2 e4
  cases e
  exact hB.typ ht (e4 ▸ (e3 ad e2).2)
 ·intro e4
  have e5:=Option.some.inj e4
  exact hB.typ ht (e5 ▸ (e3 ad e).2)
set_option maxHeartbeats 4000000 in
theorem zik (w:World) (c:ChgL) (po:Option Addr) (pc:Nat) (hP:Ids w po pc c.pars) (ht:c.tree.length=32) (ha:c.author.length≤1000000) (hx:c.text.length≤1000000) (hn4:c.pars.length≤1000) :
  Calls Tryz.prog 44 #[.agg (chC c po pc).toArray] w fun e w'=>Made w w' 3 (zcf c) e:=by
 have hat:=(zev c po pc ht).1
 have hCl:=zd0 c po pc ht
 obtain ⟨C,hC⟩:∃ C,C=chC c po pc:=⟨_,rfl⟩
 rw[← hC] at hat hCl ⊢
 obtain ⟨W0,hW0,hB0,g0⟩:=zag w 70 C
 have hW1:∃ W1,W1=W0.alloc (.cells #[.int .i64 0,.slice none 0 0] 42)∧Blk W1 (w.heap.size+1) 42 [.int .i64 0,.slice none 0 0]∧W0.grownBy W1 none:=by
  refine ⟨_,rfl,?_,zah (zab _ _) _⟩
  have hsz:W0.heap.size=w.heap.size+1:=by rw[hW0];simp
  rw[← hsz]
  exact Blk.new W0 _ _
 obtain ⟨W1,hW1,hB1,g1⟩:=hW1
 have hBC:=hB0.kept g1 (by simp)
 have G1:=tn g0 g1
 have hcp:W1.cell? ⟨w.heap.size,32,none⟩=some (.slice po c.pars.length pc):=by rw[hBC.cell 32,hat]
 have hW:W1=(w.alloc (.cells C.toArray 70)).alloc (.cells #[.int .i64 0,.slice none 0 0] 42):=by rw[hW1,hW0]
 have HW:=hide hW
 clear hW1 hW0 g1 g0 hB0 hat hW
 by_cases hn:4<c.pars.length
 ·have hr:zcf c=(3,[]):=by simp[zcf,hn]
  obtain ⟨n,hln⟩:∃ n,n=c.pars.length:=⟨_,rfl⟩
  have hn2:(4:Int)<(n:Int):=by omega
  rw[← hln] at hcp
  have HR:=hide hr
  have hf0:=hB1.fz 0
  have hf1:=hB1.fz 1
  have hd0:=hB1.cell 0
  have hd1:=hB1.cell 1
  simp only[List.getElem?_cons_zero,List.getElem?_cons_succ] at hd0 hd1
  clear hln hn hP ha hx ht hC hn4 hr hBC hCl
  go_enter Tryz.func44,Tryz.ntmps44
  go_wp2_with (rw[← uh HW])
  refine bodyPost_ret (zai rfl _ _ _ _ _ _ _ rfl ((hB1.set 0 (.int .i64 0)).set 1 (.slice none 0 0)) Tryz.underlying42 rfl zav) rfl ?_
  exact Made.bad 3 (uh HR) (by decide) (zad (zad G1 _ _ (Or.inl (Nat.le_succ _))) _ _ (Or.inl (Nat.le_succ _)))
 ·obtain ⟨Z,hZ,hzv⟩:=zdo
  obtain ⟨ps,hps⟩:∃ ps,ps=c.pars:=⟨_,rfl⟩
  have hnn:¬ 4<c.pars.length:=hn
  rw[← hps] at hcp hP hn4 hn
  obtain ⟨n,hln⟩:∃ n,n=ps.length:=⟨_,rfl⟩
  have hn2:¬ (4:Int)<(n:Int):=by omega
  have hn3:n≤4:=by omega
  rw[← hln] at hcp
  have HE:=hide (hP.none G1)
  obtain ⟨HL,HZ,HN,HPS,HB1,HBC⟩:=zh6 hln hZ hnn hps hB1 hBC
  obtain ⟨HG1,HC,HCL,HT,HA,HX⟩:=zh6 G1 hC hCl ht ha hx
  have HP:=hide hP
  clear hP hln hn hZ hnn hps hB1 hBC G1 hC hCl ht ha hx hn4
  go_enter Tryz.func44,Tryz.ntmps44
  go_wp2_with (rw[← uh HW])
  go_loopw [14] (fun i wr=>∃ j:Nat,i = .int .i64 j∧j≤n∧Hid (zdv ps j=true)∧W1.grownBy wr none) (fun i _=>n - (intOf i).toNat)
  case atStart=>exact ⟨0,rfl,Nat.zero_le _,rfl,by rw[uh HW];exact zab _ _⟩
  case round =>
   obtain ⟨j,rfl,hj,HG,hg⟩:=hrel
   by_cases hlt:j<n
   ·have hlt' : j<ps.length:=by have:=uh HL;omega
    obtain ⟨b,o,hao,hrow⟩:=(uh HE).at j hlt'
    have hr:=zaf (hrow j hlt') hg (by simp)
    have hid:=(uh HE).ids _ (List.getElem_mem hlt')
    have hgd:=zr6 ps j hlt'
    obtain ⟨E,hEE⟩:∃ E,E=ps[j]:=⟨_,rfl⟩
    rw[← hEE] at hgd hr hid
    obtain ⟨EC,hEC⟩:∃ L,L=E.map bv:=⟨_,rfl⟩
    have hEl:EC.length=32:=by rw[hEC,List.length_map,hid]
    have hEo:EC.toArray.all (·.oneCell')=true:=by rw[hEC];exact all_oneCell_toArray (za6 _)
    obtain ⟨W,hW,hB,gW⟩:=zbl wr 33 Z EC
    rw[← hEC] at hr
    have hG:=tn hg gW
    have hcW:=hG.cell hcp (by simp)
    have hsl:∀ V:World,(Instr.slice 29 (.slice po n pc) none (some (.int .i64 (j:Int))) none).run Tryz.prog V = .ok (.slice po j pc) V:=fun V=>zmu V po n pc j (by have:=(uh HE).fits;have:=uh HL;omega)
    have hrX:=zal hB
    have cc:∀ V,W.grownBy V none→Calls Tryz.prog 73 #[.slice po j pc,.agg EC.toArray] V fun e w'=>e = .returned (.bool ((ps.take j).contains E))∧V.grownBy w' none:=fun V gV=>by
     have h1:=zki V po pc (ps.take j) ((((uh HE).none hG).none gV).take j (by omega)) E hid (by rw[List.length_take];omega)
     rw[← hEC,List.length_take,Nat.min_eq_left (by omega)] at h1
     exact h1
    obtain ⟨HW9,HEO,HHG⟩:=zh3 hW hEo hG
    have hiE:(Tryz.prog.info? 33).map (·.size)=some EC.length:=by rw[hEl];exact zat
    have HIE:=hide hiE
    have hZE:Z.size=EC.toArray.size:=by rw[uh HZ];simp[hEl]
    have HZE:=hide hZE
    have h0:W.grownBy W.drew none:=zak (zab _ _)
    obtain ⟨B,hBB⟩:∃ B,B=(ps.take j).contains E:=⟨_,rfl⟩
    rw[← hBB] at cc hgd
    have HGD:=hide hgd
    clear hW hEo hG hB hEC hEl hid hiE hZE hgd gW hg hrow hEE hlt' hBB
    subst hao
    go_upto_region 6 with (first
     | (refine wpList_load_mid rfl 33 _ rfl b (o+j*32) rfl EC _ hr Tryz.underlying33 rfl (uh HIE) ?_;clear hr)
     | (refine wpList_store_row rfl 33 _ _ rfl wr.heap.size EC.toArray rfl rfl _ _ (heap_alloc_new _ _) (by simpa using uh HIE) (uh HZE) (uh HEO) ?_;rw[← uh HW9]))
    cases B
    ·have hgt:zdv ps (j+1)=true:=by rw[zhy,uh HG,uh HGD];rfl
     have HGT:=hide hgt
     clear hgt HGD HG
     refine wp_region_noPanic ?_
     refine wp_region_held_drew (S:=fun V=>W.grownBy V none) (by kernel_rfl) h0 (fun _ => ?_)
     refine tq 0 19 (.fieldAddr 70 (.tmp 1) 1) (.pointer (some ⟨w.heap.size,32,none⟩)) h0 ?_
     refine tz 1 20 (.load 29 (.tmp 19)) (.slice (some ⟨b,o,none⟩) n pc) h0 ?_ (y:=(Or.inl ⟨by rfl,fun V hV=>by (have q9:=hV.cell hcW (by simp);go_simp)⟩))
     refine tq 2 21 (.move (.tmp 4)) (.int .i64 (j:Int)) h0 ?_
     refine tz 3 22 (.slice 29 (.tmp 20) none (some (.tmp 21)) none) (.slice (some ⟨b,o,none⟩) j pc) h0 ?_ (y:=(Or.inl ⟨by rfl,fun V hV=>by (have q9:=hsl V;go_simp)⟩))
     (try simp only[pq])
     refine tz 4 23 (.load 33 (.tmp 5)) (.agg EC.toArray) h0 ?_ (y:=(yieldsIf_load_mid (by rfl) _ _ rfl _ _ rfl EC _ (fun V hV=>zaf hrX hV (by simp)) Tryz.underlying33 rfl (uh HIE)))
     (try simp only[pq])
     refine rd 5 (some 24) (.call { callee := .value (.func 73),args := #[(.tmp 22),(.tmp 23)],argTypes := #[29,33] }) (fun K9 hK9 => ?_)
     go_simp
     go_at_call 73
     refine (cc _ h0).mono ?_
     rintro e w2 ⟨rfl,g2a⟩
     have g2:=tn h0 g2a
     clear g2a
     go_wp2_with fail
     refine hK9.out _ _ g2 (fun _ => ?_)
     clear hK9 K9
     (try simp only[pq])
     refine wpAnyH_done (by kernel_rfl) ?_ _
     refine NoPanic.normal ?_
     go_wp2
     go_roundw
     case rel=>exact ⟨j+1,by go_num,by omega,HGT,tn (uh HHG) g2⟩
     case measure=>simp[intOf];omega
    ·have hgf:zg8 ps j=false:=by rw[uh HGD];rfl
     have hres:zcf c=(2,[]):=by
      have h1:zdv ps ps.length=false:=zgr (by have:=uh HL;omega) hgf
      rw[uh HPS] at h1
      simp[zcf,uh HN,h1]
     have HRS:=hide hres
     clear hgf hres HGD HG
     refine wp_region_noPanic ?_
     refine wp_region_held_drew (S:=fun V=>W.grownBy V none) (by kernel_rfl) h0 (fun _ => ?_)
     refine tq 0 19 (.fieldAddr 70 (.tmp 1) 1) (.pointer (some ⟨w.heap.size,32,none⟩)) h0 ?_
     refine tz 1 20 (.load 29 (.tmp 19)) (.slice (some ⟨b,o,none⟩) n pc) h0 ?_ (y:=(Or.inl ⟨by rfl,fun V hV=>by (have q9:=hV.cell hcW (by simp);go_simp)⟩))
     refine tq 2 21 (.move (.tmp 4)) (.int .i64 (j:Int)) h0 ?_
     refine tz 3 22 (.slice 29 (.tmp 20) none (some (.tmp 21)) none) (.slice (some ⟨b,o,none⟩) j pc) h0 ?_ (y:=(Or.inl ⟨by rfl,fun V hV=>by (have q9:=hsl V;go_simp)⟩))
     (try simp only[pq])
     refine tz 4 23 (.load 33 (.tmp 5)) (.agg EC.toArray) h0 ?_ (y:=(yieldsIf_load_mid (by rfl) _ _ rfl _ _ rfl EC _ (fun V hV=>zaf hrX hV (by simp)) Tryz.underlying33 rfl (uh HIE)))
     (try simp only[pq])
     refine rd 5 (some 24) (.call { callee := .value (.func 73),args := #[(.tmp 22),(.tmp 23)],argTypes := #[29,33] }) (fun K9 hK9 => ?_)
     go_simp
     go_at_call 73
     refine (cc _ h0).mono ?_
     rintro e w2 ⟨rfl,g2a⟩
     have g2:=tn h0 g2a
     clear g2a
     go_wp2_with fail
     refine hK9.out _ _ g2 (fun _ => ?_)
     clear hK9 K9
     (try simp only[pq])
     refine wpAnyH_done (by kernel_rfl) ?_ _
     refine NoPanic.normal ?_
     have gF:=tn (uh HHG) g2
     have hBr:=(uh HB1).kept gF (by simp)
     have hf0:=hBr.fz 0
     have hf1:=hBr.fz 1
     have hd0:=hBr.cell 0
     have hd1:=hBr.cell 1
     simp only[List.getElem?_cons_zero,List.getElem?_cons_succ] at hd0 hd1
     go_wp2
     refine bodyPost_ret (zai rfl _ _ _ _ _ _ _ rfl ((hBr.set 0 (.int .i64 0)).set 1 (.slice none 0 0)) Tryz.underlying42 rfl zav) rfl ?_
     exact Made.bad 3 (uh HRS) (by decide) (zad (zad (tn (uh HG1) gF) _ _ (Or.inl (Nat.le_succ _))) _ _ (Or.inl (Nat.le_succ _)))
   ·have hjn:j=ps.length:=by have:=uh HL;omega
    have hres:zcf c=fitB (chgB c):=by
     have h1:zdv ps ps.length=true:=by rw[← hjn];exact uh HG
     rw[uh HPS] at h1
     simp[zcf,uh HN,h1]
    have hrC:=zaf (zal (uh HBC)) hg (by simp)
    have G:=tn (uh HG1) hg
    have hP2:Ids wr po pc c.pars:=by rw[← uh HPS];exact (uh HP).none G
    have cl:=zo2 wr c po pc hP2 (uh HT) (by have:=uh HN;omega) (uh HA) (uh HX)
    rw[← uh HC] at cl
    have hiC:(Tryz.prog.info? 70).map (·.size)=some C.length:=by rw[uh HCL];exact zbv
    obtain ⟨HIC,HRS⟩:=zh2 hiC hres
    clear hjn hres HG hP2 hiC
    go_wp2_with (refine wpList_load_mid rfl 70 _ rfl w.heap.size 0 rfl C _ hrC Tryz.underlying70 rfl (uh HIC) ?_;clear hrC)
    refine cl.mono ?_
    rintro e w1 ⟨v1,rfl,hN1,g1⟩
    have hBr:=((uh HB1).kept hg (by simp)).kept g1 (by simp)
    have cm:=zke w w1 3 v1 (chgB c) (NewB.later hN1 G.size) (tn G g1)
    obtain ⟨r,hr⟩:∃ r,r=fitB (chgB c):=⟨_,rfl⟩
    rw[← hr] at cm
    have HRR:=hide hr
    clear cl hN1 g1 hr
    go_wp2_with fail
    refine cm.mono ?_
    rintro e w2 ⟨v2,x,rfl,hx,hN2,h1c,g2,gm⟩
    have hB2:=hBr.kept gm (by simp)
    have hrr:zcf c=r:=by rw[uh HRS,uh HRR]
    have hfin:=Made.laid (K:=3) hB2 (by decide) (Nat.le_succ _) hx hN2 g2
    obtain ⟨K,hK⟩:∃ K:Int,K=(if r.1=0 then 3 else 0):=⟨_,rfl⟩
    rw[← hK] at hfin ⊢
    obtain ⟨HF,HRX⟩:=zh2 hfin hrr
    clear cm hK hx hBr hfin hrr
    go_wp2_with (refine wpList_store_row rfl 42 _ _ rfl (w.heap.size+1) #[.int .i64 K,v2] rfl rfl _ _ hB2 zav rfl (zcq h1c) ?_)
    refine bodyPost_ret (zai rfl _ _ _ _ _ _ _ rfl (hB2.row [.int .i64 K,v2]) Tryz.underlying42 rfl zav) rfl ?_
    rw[uh HRX]
    exact uh HF
set_option maxHeartbeats 4000000 in
theorem zil (w:World) (m:MrkL) (ht:m.target.length=32) (ha:m.name.length≤100000) (hx:m.text.length≤1000000) :
  Calls Tryz.prog 67 #[.agg (mkC m).toArray] w fun e w'=>Made w w' 4 (zcv m) e:=by
 obtain ⟨q1,q2⟩:=zyp m ht
 obtain ⟨C,hC⟩:∃ C,C=mkC m:=⟨_,rfl⟩
 rw[← hC] at q1 q2 ⊢
 obtain ⟨W0,hW0,hB0,g0⟩:=zag w 126 C
 have hW1:∃ W1,W1=W0.alloc (.cells #[.int .i64 0,.slice none 0 0] 42)∧Blk W1 (w.heap.size+1) 42 [.int .i64 0,.slice none 0 0]∧W0.grownBy W1 none:=by
  refine ⟨_,rfl,?_,zah (zab _ _) _⟩
  have hsz:W0.heap.size=w.heap.size+1:=by rw[hW0];simp
  rw[← hsz]
  exact Blk.new W0 _ _
 obtain ⟨W1,hW1,hB1,g1⟩:=hW1
 have hBC:=hB0.kept g1 (by simp)
 have G1:=tn g0 g1
 have c1:W1.cell? ⟨w.heap.size,32,none⟩=some (.string (str m.name)):=by rw[hBC.cell 32,q1]
 have c2:W1.cell? ⟨w.heap.size,33,none⟩=some (.string (str m.text)):=by rw[hBC.cell 33,q2]
 have hW:W1=(w.alloc (.cells C.toArray 126)).alloc (.cells #[.int .i64 0,.slice none 0 0] 42):=by rw[hW1,hW0]
 have hrT:W1.rangeAt w.heap.size 0 (m.target.map bv):=by
  have:=zal hBC
  rw[hC] at this
  exact zk5 this
 have ck:=zus W1 m.name ha
 have hiT:(Tryz.prog.info? 33).map (·.size)=some (m.target.map bv).length:=by rw[List.length_map,ht];exact zat
 have hbt:=zo0 m.target (str m.name) (str m.text) ht
 have cl:∀ V,Calls Tryz.prog 75 #[.int .i64 4,.agg (m.target.map bv++([.slice none 0 0,.int .u64 0,.string (str m.name),.string (str m.text)]:List Value)).toArray] V fun e w'=>∃ v,e = .returned v∧NewB V w' v (mrkB m)∧V.grownBy w' none:=fun V=>zo3 V m ht (by omega) hx
 obtain ⟨T,hT⟩:∃ T,T=m.target.map bv:=⟨_,rfl⟩
 obtain ⟨N,hN⟩:∃ N,N=str m.name:=⟨_,rfl⟩
 obtain ⟨X,hX⟩:∃ N,N=str m.text:=⟨_,rfl⟩
 rw[← hN] at c1 ck hbt cl
 rw[← hX] at c2 hbt cl
 rw[← hT] at hrT hiT hbt cl
 obtain ⟨CC,hCC⟩:∃ CC,CC=(T++([.slice none 0 0,.int .u64 0,.string N,.string X]:List Value)).toArray:=⟨_,rfl⟩
 rw[← hCC] at hbt cl
 obtain ⟨k,hk⟩:∃ k,k=zec m.name:=⟨_,rfl⟩
 rw[← hk] at ck
 obtain ⟨HW,HI,HBT,HG1,HCL⟩:=zh5 hW hiT hbt G1 cl
 clear hW1 hW0 g1 g0 hB0 q1 q2 hW hC hT hN hX hCC hBC hiT hbt G1 ht ha hx cl
 by_cases h2:k=2
 ·have hres:zcv m=fitB (mrkB m):=by simp[zcv,← hk,h2]
  subst h2
  obtain ⟨HRS,HB1⟩:=zh2 hres hB1
  clear hres hk hB1
  go_enter Tryz.func67,Tryz.ntmps67
  go_wp2_with (rw[← uh HW])
  refine ck.mono ?_
  rintro e w2 ⟨rfl,g2⟩
  have d1:=g2.cell c1 (by simp)
  have d2:=g2.cell c2 (by simp)
  have hr2:=zaf hrT g2 (by simp)
  have cl:=uh HCL w2
  clear ck c1 c2 hrT HCL
  go_wp2_with (first
   | (refine wpList_load_mid rfl 33 _ rfl w.heap.size 0 rfl T _ hr2 Tryz.underlying33 rfl (uh HI) ?_;clear hr2)
   | (refine za4 rfl 70 _ rfl CC ?hbs ?_))
  case hbs=>simpa using uh HBT
  refine cl.mono ?_
  rintro e w3 ⟨v3,rfl,hN3,g3⟩
  have G:=tn (uh HG1) g2
  have hBr:=((uh HB1).kept g2 (by simp)).kept g3 (by simp)
  have cm:=zke w w3 4 v3 (mrkB m) (NewB.later hN3 G.size) (tn G g3)
  obtain ⟨r,hr⟩:∃ r,r=fitB (mrkB m):=⟨_,rfl⟩
  rw[← hr] at cm
  have HRR:=hide hr
  clear cl hN3 g3 hr d1 d2
  go_wp2_with fail
  refine cm.mono ?_
  rintro e w4 ⟨v4,x,rfl,hx,hN4,h1c,g4,gm⟩
  have hB2:=hBr.kept gm (by simp)
  have hrr:zcv m=r:=by rw[uh HRS,uh HRR]
  have hfin:=Made.laid (K:=4) hB2 (by decide) (Nat.le_succ _) hx hN4 g4
  obtain ⟨K,hK⟩:∃ K:Int,K=(if r.1=0 then 4 else 0):=⟨_,rfl⟩
  rw[← hK] at hfin ⊢
  obtain ⟨HF,HRX⟩:=zh2 hfin hrr
  clear cm hK hx hBr hfin hrr
  go_wp2_with (refine wpList_store_row rfl 42 _ _ rfl (w.heap.size+1) #[.int .i64 K,v4] rfl rfl _ _ hB2 zav rfl (zcq h1c) ?_)
  refine bodyPost_ret (zai rfl _ _ _ _ _ _ _ rfl (hB2.row [.int .i64 K,v4]) Tryz.underlying42 rfl zav) rfl ?_
  rw[uh HRX]
  exact uh HF
 ·have hres:zcv m=(2,[]):=by simp[zcv,← hk,h2]
  have hk2:(k == 2)=false:=by simpa using h2
  have HRS:=hide hres
  clear hres hk
  go_enter Tryz.func67,Tryz.ntmps67
  go_wp2_with (rw[← uh HW])
  refine ck.mono ?_
  rintro e w2 ⟨rfl,g2⟩
  have hBr:=hB1.kept g2 (by simp)
  have hf0:=hBr.fz 0
  have hf1:=hBr.fz 1
  have hd0:=hBr.cell 0
  have hd1:=hBr.cell 1
  simp only[List.getElem?_cons_zero,List.getElem?_cons_succ] at hd0 hd1
  clear ck c1 c2 hrT
  go_wp2
  refine bodyPost_ret (zai rfl _ _ _ _ _ _ _ rfl ((hBr.set 0 (.int .i64 0)).set 1 (.slice none 0 0)) Tryz.underlying42 rfl zav) rfl ?_
  exact Made.bad 4 (uh HRS) (by decide) (zad (zad (tn (uh HG1) g2) _ _ (Or.inl (Nat.le_succ _))) _ _ (Or.inl (Nat.le_succ _)))
def zpu (u w' : World) (K:Int) (r:Int × List UInt8) (R:World→Prop) (e:Ending):Prop :=
 ∃ v,e = .returned (.tuple #[.agg #[.int .i64 (if r.1=0 then K else 0),v],.int .i64 r.1])∧(∃ a' c',v = .slice a' r.2.length c'∧Bts w' a' c' r.2)∧R w'∧u.grownBy w' none
def zr7 (u:World) (vb:Nat) (es:List EntL) (w:World):Prop:=∃ v,Blk w vb 121 [v]∧w.ownsRow u.heap.size 123 34 v es.length (es.flatMap enC)
theorem zr7.none {u:World} {vb:Nat} {es:List EntL} {a b:World} (h:zr7 u vb es a) (g:a.grownBy b none):zr7 u vb es b:=by
 obtain ⟨v,h1,h2⟩:=h
 exact ⟨v,h1.kept g (by simp),zck h2 g (fun x e=>by cases e)⟩
theorem zmv (d:List UInt8):∀ e∈zbz d,e.name.length≤d.length:=by
 intro e he
 exact Nat.le_trans (zo1 _ _ e he) (zbr _ _ _)
theorem zim (d:List UInt8):∀ e∈zbz d,e.id.length=32:=fun e he=>zuk _ _ e he
set_option maxHeartbeats 2000000 in
theorem zu6 (u w:World) (rb vb:Nat) (d:List UInt8) (hl:d.length≤1000000) (old:Value) (gu:u.grownBy w none) (hv:u.heap.size≤vb) (hr:u.heap.size≤rb) (hne:rb≠vb) (hR:Rd w rb d 0) (hB:Blk w vb 121 [old]) (bk:Nat) (bc:List Value) (hbk:Blk w bk 42 bc) (hkr:bk≠rb) (hkv:bk≠vb) :
  Calls Tryz.prog 147 #[.pointer (some ⟨rb,0,none⟩),.pointer (some ⟨vb,0,none⟩)] w fun e w'=>zpu u w' 2 (za9 (zbz d)) (fun V=>zr7 u vb (zbz d) V∧Blk V bk 42 bc) e:=by
 have hvl:=hB.lt
 have hbl:=hbk.lt
 have hrl:=hR.lt
 obtain ⟨W1,hW1,hB1,g1⟩:∃ W1,W1=w.alloc (.cells #[.int .i64 0,.slice none 0 0] 42)∧Blk W1 w.heap.size 42 [.int .i64 0,.slice none 0 0]∧w.grownBy W1 none:=zag w _ _
 have cr:=zk9 W1 rb d hl (hR.kept g1 (Or.inl rfl))
 have hnm:=zmv d
 have hid:=zim d
 obtain ⟨es,hes⟩:∃ es,es=zbz d:=⟨_,rfl⟩
 rw[← hes] at cr hnm hid ⊢
 obtain ⟨HW1,HNM,HID⟩:=zh3 hW1 hnm hid
 have HBV:=hide (hB.kept g1 (by simp))
 have HB1:=hide hB1
 have HK:=hide (hbk.kept g1 (by simp))
 have HG1:=hide (tn gu g1)
 have hus:u.heap.size≤w.heap.size:=gu.size
 clear hW1 hnm hid hB g1 hR hes hB1 gu hbk
 go_enter Tryz.func147,Tryz.ntmps147
 go_wp2_with (rw[← uh HW1])
 refine cr.mono ?_
 rintro e w2 ⟨v2,rfl,ho2,g2⟩
 have hs1:w.heap.size<W1.heap.size:=(uh HB1).lt
 obtain ⟨ao,c,hv2⟩:=zbd ho2
 subst hv2
 have hBv:=(uh HBV).kept g2 (by simp;omega)
 have hBo:=(uh HB1).kept g2 (by simp;omega)
 have hK2:=(uh HK).kept g2 (by simpa using hkr)
 have G2:u.grownBy w2 none:=zae (uh HG1) g2 (fun x e=>by cases e;exact Or.inl hr)
 have ho2':=za7 ho2 (uh HG1).size
 have hc2:=hBv.cell 0
 simp only[List.getElem?_cons_zero] at hc2
 have hf2:=hBv.fz 0
 obtain ⟨w3,hw3⟩:∃ V,V=w2.setCell ⟨vb,0,none⟩ (.slice ao es.length c):=⟨_,rfl⟩
 have hB3:Blk w3 vb 121 [.slice ao es.length c]:=by rw[hw3];exact hBv.set 0 _
 have hA3:Blk w3 w.heap.size 42 [.int .i64 0,.slice none 0 0]:=by rw[hw3];exact hBo.other _ _ (by simp;omega)
 have hO3:w3.ownsRow u.heap.size 123 34 (.slice ao es.length c) es.length (es.flatMap enC):=by rw[hw3];exact zan ho2' hBv (by decide) 0 _
 have G3:u.grownBy w3 none:=by rw[hw3];exact zad G2 _ _ (Or.inl hv)
 have hc3:=hB3.cell 0
 simp only[List.getElem?_cons_zero] at hc3
 have hE3:Ens w3 ao c es:=by
  obtain ⟨ao2,c2,e1,e2⟩:=Ens.own hO3 (uh HID)
  injection e1 with e3 e4 e5
  subst e3 e5
  exact e2
 have co:=zjl w3 ao c es hE3 (fun e he=>Nat.le_trans (uh HNM e he) (by omega))
 obtain ⟨r,hrr⟩:∃ r,r=za9 es:=⟨_,rfl⟩
 rw[← hrr] at co
 obtain ⟨HR,HW3,HB3,HA3,HO3⟩:=zh5 hrr hw3 hB3 hA3 hO3
 have HK3:=hide (show Blk w3 bk 42 bc by rw[hw3];exact hK2.other _ _ (by simpa using hkv.symm))
 have HG3:=hide G3
 clear cr ho2 ho2' hBv hBo G2 hw3 hB3 hA3 hO3 G3 hE3 g2 hrr HG1 HB1 HBV hK2
 go_wp2_with (rw[← uh HW3])
 refine co.mono ?_
 rintro e w4 ⟨v4,rfl,hN4,g4⟩
 have hA4:=(uh HA3).kept g4 (by simp)
 have hK4:=(uh HK3).kept g4 (by simp)
 have hB4:=(uh HB3).kept g4 (by simp)
 have hO4:=zck (uh HO3) g4 (fun x e=>by cases e)
 have G4:=tn (uh HG3) g4
 have h1c:v4.oneCell'=true:=by obtain ⟨_,_,rfl,_⟩:=hN4;rfl
 obtain ⟨x,hx⟩:∃ x:Int,x=r.1:=⟨_,rfl⟩
 rw[← hx]
 obtain ⟨K,hK⟩:∃ K:Int,K=(if x=0 then 2 else 0):=⟨_,rfl⟩
 rw[← hK]
 obtain ⟨HKK,HX⟩:=zh2 hK hx
 clear co hK hx hc2 hf2 hc3
 go_wp2_with (refine wpList_store_row rfl 42 _ _ rfl w.heap.size #[.int .i64 K,v4] rfl rfl _ _ hA4 zav rfl (zcq h1c) ?_)
 refine bodyPost_ret (zai rfl _ _ _ _ _ _ _ rfl (hA4.row [.int .i64 K,v4]) Tryz.underlying42 rfl zav) rfl ?_
 have gF:=zam (zab w4 (some w.heap.size)) #[.int .i64 K,v4] (Or.inr rfl)
 rw[← uh HR]
 refine ⟨v4,?_,?_,⟨⟨_,hB4.row_other _ _ (by omega),zb3 hO4 hA4 (by decide) _⟩,hK4.row_other _ _ (by omega)⟩,zam G4 _ (Or.inl hus)⟩
 ·rw[← uh HX,← uh HKK]
  rfl
 ·obtain ⟨a',c',e1,e2,e3⟩:=hN4
  refine ⟨a',c',e1,e2.kept gF ?_⟩
  intro x e ad e5 e4
  cases e
  exact hA4.typ (by decide) (e4 ▸ (e3 ad e5).2)
def zr8 (u:World) (vb:Nat) (c:ChgL) (w:World):Prop:=∃ po pc,Blk w vb 70 (chC c po pc)∧w.ownsRow u.heap.size 33 32 (.slice po c.pars.length pc) c.pars.length (c.pars.flatMap (·.map bv))
theorem zr8.none {u:World} {vb:Nat} {c:ChgL} {a b:World} (h:zr8 u vb c a) (g:a.grownBy b none):zr8 u vb c b:=by
 obtain ⟨po,pc,h1,h2⟩:=h
 exact ⟨po,pc,h1.kept g (by simp),zbg h2 g (fun x e=>by cases e)⟩
theorem zdh (d:List UInt8):(zbh d).tree.length=32∧(∀ x∈(zbh d).pars,x.length=32)∧(zbh d).pars.length≤4∧(zbh d).author.length≤d.length∧(zbh d).text.length≤d.length:=by
 unfold zbh
 simp only
 refine ⟨zbu _ _,zul _ _,?_,?_,?_⟩
 ·rw[zkb];exact Nat.min_le_right _ _
 ·refine Nat.le_trans (zcr _ _) (Nat.le_trans (zbr _ _ _) (Nat.le_trans (zex _ _) (Nat.le_trans (zbr _ _ _) (zcu _ _ _))))
 ·refine Nat.le_trans (zcr _ _) (Nat.le_trans (zbk _ _) (Nat.le_trans (zbr _ _ _) (Nat.le_trans (zex _ _) (Nat.le_trans (zbr _ _ _) (zcu _ _ _)))))
set_option maxHeartbeats 2000000 in
theorem zu7 (u w:World) (rb vb:Nat) (d:List UInt8) (hl:d.length≤1000000) (old:List Value) (ho36:old.length=36) (gu:u.grownBy w none) (hv:u.heap.size≤vb) (hr:u.heap.size≤rb) (hne:rb≠vb) (hR:Rd w rb d 0) (hB:Blk w vb 70 old) (bk:Nat) (bc:List Value) (hbk:Blk w bk 42 bc) (hkr:bk≠rb) (hkv:bk≠vb) (b2:Nat) (t2:TypeId) (cs2:List Value) (hb2:Blk w b2 t2 cs2) (h2r:b2≠rb) (h2v:b2≠vb) :
  Calls Tryz.prog 61 #[.pointer (some ⟨rb,0,none⟩),.pointer (some ⟨vb,0,none⟩)] w fun e w'=>zpu u w' 3 (zcf (zbh d)) (fun V=>(zr8 u vb (zbh d) V∧Blk V b2 t2 cs2)∧Blk V bk 42 bc) e:=by
 have hvl:=hB.lt
 have hbl:=hbk.lt
 have hbl2:=hb2.lt
 have hrl:=hR.lt
 obtain ⟨W1,hW1,hB1,g1⟩:∃ W1,W1=w.alloc (.cells #[.int .i64 0,.slice none 0 0] 42)∧Blk W1 w.heap.size 42 [.int .i64 0,.slice none 0 0]∧w.grownBy W1 none:=zag w _ _
 have cr:=zmg W1 rb d hl (hR.kept g1 (Or.inl rfl))
 obtain ⟨k1,k2,k3,k4,k5⟩:=zdh d
 obtain ⟨cm,hcm⟩:∃ c,c=zbh d:=⟨_,rfl⟩
 rw[← hcm] at cr k1 k2 k3 k4 k5 ⊢
 obtain ⟨HK1,HK2,HK3⟩:=zh3 k1 k2 k3
 have HK4:=hide (Nat.le_trans k4 hl)
 have HK5:=hide (Nat.le_trans k5 hl)
 have HW1:=hide hW1
 have HBV:=hide (hB.kept g1 (by simp))
 have HB1:=hide hB1
 have HK:=hide (hbk.kept g1 (by simp))
 have HJ:=hide (hb2.kept g1 (by simp))
 have HG1:=hide (tn gu g1)
 have hus:u.heap.size≤w.heap.size:=gu.size
 clear hW1 hB g1 hR hcm hB1 gu k1 k2 k3 k4 k5 hl hbk hb2
 go_enter Tryz.func61,Tryz.ntmps61
 go_wp2_with (rw[← uh HW1])
 refine cr.mono ?_
 rintro e w2 ⟨v2,rfl,ho2,g2⟩
 have hs1:w.heap.size<W1.heap.size:=(uh HB1).lt
 obtain ⟨ao,c,hv2⟩:=zbd ho2
 subst hv2
 have hBv:=(uh HBV).kept g2 (by simp;omega)
 have hBo:=(uh HB1).kept g2 (by simp;omega)
 have hK2:=(uh HK).kept g2 (by simpa using hkr)
 have hJ2:=(uh HJ).kept g2 (by simpa using h2r)
 have G2:u.grownBy w2 none:=zae (uh HG1) g2 (fun x e=>by cases e;exact Or.inl hr)
 have ho2':=za7 ho2 (uh HG1).size
 obtain ⟨C,hC⟩:∃ C,C=chC cm ao c:=⟨_,rfl⟩
 rw[← zxb,← hC]
 have hCl:C.length=36:=by rw[hC];exact zd0 _ _ _ (uh HK1)
 have hCo:C.toArray.all (·.oneCell')=true:=by rw[hC];exact all_oneCell_toArray (zeg _ _ _)
 obtain ⟨w3,hw3⟩:∃ V,V=w2.setRow vb C.toArray:=⟨_,rfl⟩
 have hB3:Blk w3 vb 70 C:=by rw[hw3];exact hBv.row _
 have hA3:Blk w3 w.heap.size 42 [.int .i64 0,.slice none 0 0]:=by rw[hw3];exact hBo.row_other _ _ (by omega)
 have hO3:w3.ownsRow u.heap.size 33 32 (.slice ao cm.pars.length c) cm.pars.length (cm.pars.flatMap (·.map bv)):=by rw[hw3];exact zb3 ho2' hBv (by decide) _
 have G3:u.grownBy w3 none:=by rw[hw3];exact zam G2 _ (Or.inl hv)
 have hr3:=zal hB3
 have hi3:(Tryz.prog.info? 70).map (·.size)=some C.length:=by rw[hCl];exact zbv
 have hi4:(Tryz.prog.info? 70).map (·.size)=some C.toArray.size:=by simpa using hi3
 have hos:old.toArray.size=C.toArray.size:=by simp[ho36,hCl]
 have hE3:Ids w3 ao c cm.pars:=by
  obtain ⟨ao2,c2,e1,e2⟩:=Ids.own hO3 (uh HK2)
  injection e1 with e3 e4 e5
  subst e3 e5
  exact e2
 have co:=zik w3 cm ao c hE3 (uh HK1) (uh HK4) (uh HK5) (by have:=uh HK3;omega)
 rw[← hC] at co
 obtain ⟨HI3,HI4,HOS,HCO,HC,HBV2⟩:=zh6 hi3 hi4 hos hCo hC hBv
 obtain ⟨r,hrr⟩:∃ r,r=zcf cm:=⟨_,rfl⟩
 rw[← hrr] at co
 obtain ⟨HR,HW3,HB3,HA3,HO3⟩:=zh5 hrr hw3 hB3 hA3 hO3
 have HK3:=hide (show Blk w3 bk 42 bc by rw[hw3];exact hK2.row_other _ _ hkv.symm)
 have HJ3:=hide (show Blk w3 b2 t2 cs2 by rw[hw3];exact hJ2.row_other _ _ h2v.symm)
 have HG3:=hide G3
 clear cr ho2 ho2' hBv hBo G2 hw3 hB3 hA3 hO3 G3 hE3 g2 hrr HG1 HB1 HBV hi3 hi4 hos hCo hC hCl hK2 hJ2
 go_wp2_with (first
  | (refine wpList_store_row rfl 70 _ _ rfl vb C.toArray rfl rfl _ _ (uh HBV2) (uh HI4) (uh HOS) (uh HCO) ?_;rw[← uh HW3])
  | (refine wpList_load_mid rfl 70 _ rfl vb 0 rfl C _ hr3 Tryz.underlying70 rfl (uh HI3) ?_;clear hr3))
 refine co.mono ?_
 rintro e w4 ⟨v4,rfl,hN4,g4⟩
 have hA4:=(uh HA3).kept g4 (by simp)
 have hK4:=(uh HK3).kept g4 (by simp)
 have hJ4:=(uh HJ3).kept g4 (by simp)
 have hB4:=(uh HB3).kept g4 (by simp)
 have hO4:=zbg (uh HO3) g4 (fun x e=>by cases e)
 have G4:=tn (uh HG3) g4
 have h1c:v4.oneCell'=true:=by obtain ⟨_,_,rfl,_⟩:=hN4;rfl
 obtain ⟨x,hx⟩:∃ x:Int,x=r.1:=⟨_,rfl⟩
 rw[← hx]
 obtain ⟨K,hK⟩:∃ K:Int,K=(if x=0 then 3 else 0):=⟨_,rfl⟩
 rw[← hK]
 obtain ⟨HKK,HX⟩:=zh2 hK hx
 clear co hK hx
 rw[uh HC] at hB4
 go_wp2_with (refine wpList_store_row rfl 42 _ _ rfl w.heap.size #[.int .i64 K,v4] rfl rfl _ _ hA4 zav rfl (zcq h1c) ?_)
 refine bodyPost_ret (zai rfl _ _ _ _ _ _ _ rfl (hA4.row [.int .i64 K,v4]) Tryz.underlying42 rfl zav) rfl ?_
 have gF:=zam (zab w4 (some w.heap.size)) #[.int .i64 K,v4] (Or.inr rfl)
 rw[← uh HR]
 refine ⟨v4,?_,?_,⟨⟨⟨_,_,hB4.row_other _ _ (by omega),zb3 hO4 hA4 (by decide) _⟩,hJ4.row_other _ _ (by omega)⟩,hK4.row_other _ _ (by omega)⟩,zam G4 _ (Or.inl hus)⟩
 ·rw[← uh HX,← uh HKK]
  rfl
 ·obtain ⟨a',c',e1,e2,e3⟩:=hN4
  refine ⟨a',c',e1,e2.kept gF ?_⟩
  intro x e ad e5 e4
  cases e
  exact hA4.typ (by decide) (e4 ▸ (e3 ad e5).2)
def zpv (vb:Nat) (m:MrkL) (w:World):Prop:=Blk w vb 126 (mkC m)
theorem zpv.none {vb:Nat} {m:MrkL} {a b:World} (h:zpv vb m a) (g:a.grownBy b none):zpv vb m b:=Blk.kept h g (by simp)
theorem zho (d:List UInt8):(zb2 d).target.length=32∧(zb2 d).name.length≤d.length∧(zb2 d).text.length≤d.length:=by
 unfold zb2
 simp only
 refine ⟨zbu _ _,?_,?_⟩
 ·exact Nat.le_trans (zcr _ _) (zcu _ _ _)
 ·exact Nat.le_trans (zcr _ _) (Nat.le_trans (zbk _ _) (zcu _ _ _))
set_option maxHeartbeats 2000000 in
theorem zu8 (u w:World) (rb vb:Nat) (d:List UInt8) (hl:d.length≤100000) (old:List Value) (ho36:old.length=34) (gu:u.grownBy w none) (hv:u.heap.size≤vb) (hr:u.heap.size≤rb) (hne:rb≠vb) (hR:Rd w rb d 0) (hB:Blk w vb 126 old) (bk:Nat) (bc:List Value) (hbk:Blk w bk 42 bc) (hkr:bk≠rb) (hkv:bk≠vb) (b2:Nat) (t2:TypeId) (cs2:List Value) (hb2:Blk w b2 t2 cs2) (h2r:b2≠rb) (h2v:b2≠vb) :
  Calls Tryz.prog 149 #[.pointer (some ⟨rb,0,none⟩),.pointer (some ⟨vb,0,none⟩)] w fun e w'=>zpu u w' 4 (zcv (zb2 d)) (fun V=>(zpv vb (zb2 d) V∧Blk V b2 t2 cs2)∧Blk V bk 42 bc) e:=by
 have hvl:=hB.lt
 have hbl:=hbk.lt
 have hbl2:=hb2.lt
 have hrl:=hR.lt
 obtain ⟨W1,hW1,hB1,g1⟩:∃ W1,W1=w.alloc (.cells #[.int .i64 0,.slice none 0 0] 42)∧Blk W1 w.heap.size 42 [.int .i64 0,.slice none 0 0]∧w.grownBy W1 none:=zag w _ _
 have cr:=zmf W1 rb d (by omega) (hR.kept g1 (Or.inl rfl))
 obtain ⟨k1,k4,k5⟩:=zho d
 obtain ⟨m,hcm⟩:∃ c,c=zb2 d:=⟨_,rfl⟩
 rw[← hcm] at cr k1 k4 k5 ⊢
 have HK1:=hide k1
 have HK4:=hide (Nat.le_trans k4 hl)
 have HK5:=hide (Nat.le_trans k5 hl)
 have HW1:=hide hW1
 have HBV:=hide (hB.kept g1 (by simp))
 have HB1:=hide hB1
 have HK:=hide (hbk.kept g1 (by simp))
 have HJ:=hide (hb2.kept g1 (by simp))
 have HG1:=hide (tn gu g1)
 have hus:u.heap.size≤w.heap.size:=gu.size
 clear hW1 hB g1 hR hcm hB1 gu k1 k4 k5 hl hbk hb2
 go_enter Tryz.func149,Tryz.ntmps149
 go_wp2_with (rw[← uh HW1])
 refine cr.mono ?_
 rintro e w2 ⟨rfl,g2⟩
 have hs1:w.heap.size<W1.heap.size:=(uh HB1).lt
 have hBv:=(uh HBV).kept g2 (by simp;omega)
 have hBo:=(uh HB1).kept g2 (by simp;omega)
 have hK2:=(uh HK).kept g2 (by simpa using hkr)
 have hJ2:=(uh HJ).kept g2 (by simpa using h2r)
 have G2:u.grownBy w2 none:=zae (uh HG1) g2 (fun x e=>by cases e;exact Or.inl hr)
 obtain ⟨Z,hZ⟩:∃ Z:List Value,Z=chR (List.replicate 32 0) (.slice none 0 0) 0 [] []:=⟨_,rfl⟩
 have hzv:∀ w,(zeroValue 70).run Tryz.prog w = .ok (.agg Z.toArray) w:=fun w=>by rw[hZ];exact zh9 w
 have hZl:Z.length=36:=by rw[hZ];rfl
 obtain ⟨C,hC⟩:∃ C,C=chR m.target (.slice none 0 0) 0 m.name m.text:=⟨_,rfl⟩
 rw[← hC]
 have hCl:C.length=36:=by rw[hC];exact zgv _ _ _ _ _ (uh HK1)
 have hCo:C.toArray.all (·.oneCell')=true:=by rw[hC];exact all_oneCell_toArray (zgw _ _ _ _ _ rfl)
 obtain ⟨W3,hW3,hBC,g3⟩:=zbl w2 70 Z.toArray C
 obtain ⟨q1,q2,q3,q4⟩:=zcs m.target (.slice none 0 0) 0 m.name m.text (uh HK1)
 rw[← hC] at q3 q4
 have hcn:W3.cell? ⟨w2.heap.size,34,none⟩=some (.string (str m.name)):=by rw[hBC.cell 34,q3]
 have hct:W3.cell? ⟨w2.heap.size,35,none⟩=some (.string (str m.text)):=by rw[hBC.cell 35,q4]
 have hrT:W3.rangeAt w2.heap.size 0 (m.target.map bv):=by
  have h1:=zal hBC
  rw[hC] at h1
  exact zj5 (c:=⟨m.target,[],0,m.name,m.text⟩) (po:=none) (pc:=0) h1
 have hiC:(Tryz.prog.info? 70).map (·.size)=some C.toArray.size:=by rw[show C.toArray.size=36 by simpa using hCl];exact zbv
 have hZC:Z.toArray.size=C.toArray.size:=by simp[hZl,hCl]
 have hBv3:=hBv.kept g3 (by simp)
 have hBo3:=hBo.kept g3 (by simp)
 have G3a:=tn G2 g3
 have hbt:Tryz.prog.built 126 [(0,.agg (m.target.map bv).toArray),(1,.string (str m.name)),(2,.string (str m.text))]=some (mkC m).toArray:=zrc m.target (str m.name) (str m.text) (uh HK1)
 have hiT:(Tryz.prog.info? 33).map (·.size)=some (m.target.map bv).length:=by rw[List.length_map,uh HK1];exact zat
 obtain ⟨TG,hTG⟩:∃ T,T=m.target.map bv:=⟨_,rfl⟩
 rw[← hTG] at hrT hbt hiT
 obtain ⟨MC,hMC⟩:∃ T,T=mkC m:=⟨_,rfl⟩
 rw[← hMC] at hbt
 have hMl:MC.length=34:=by rw[hMC];exact zh0 _ (uh HK1)
 have hMo:MC.toArray.all (·.oneCell')=true:=by rw[hMC];exact all_oneCell_toArray (zh1 _)
 obtain ⟨N,hN⟩:∃ N,N=str m.name:=⟨_,rfl⟩
 obtain ⟨X,hX⟩:∃ N,N=str m.text:=⟨_,rfl⟩
 rw[← hN] at hcn hbt
 rw[← hX] at hct hbt
 obtain ⟨w3,hw3⟩:∃ V,V=W3.setRow vb MC.toArray:=⟨_,rfl⟩
 have hB3:Blk w3 vb 126 MC:=by rw[hw3];exact hBv3.row _
 have hA3:Blk w3 w.heap.size 42 [.int .i64 0,.slice none 0 0]:=by rw[hw3];exact hBo3.row_other _ _ (by omega)
 have G3:u.grownBy w3 none:=by rw[hw3];exact zam G3a _ (Or.inl hv)
 have hr3:=zal hB3
 have hi3:(Tryz.prog.info? 126).map (·.size)=some MC.length:=by rw[hMl];exact ze9
 have hi4:(Tryz.prog.info? 126).map (·.size)=some MC.toArray.size:=by simpa using hi3
 have hos:old.toArray.size=MC.toArray.size:=by simp[ho36,hMl]
 have co:=zil w3 m (uh HK1) (uh HK4) (by have:=uh HK5;omega)
 rw[← hMC] at co
 obtain ⟨HI3,HI4,HOS,HMO,HMC,HBV2⟩:=zh6 hi3 hi4 hos hMo hMC hBv3
 obtain ⟨HWC,HIC,HZC,HCO,HIT,HBT⟩:=zh6 hW3 hiC hZC hCo hiT hbt
 obtain ⟨r,hrr⟩:∃ r,r=zcv m:=⟨_,rfl⟩
 rw[← hrr] at co
 obtain ⟨HR,HW3,HB3,HA3⟩:=zh4 hrr hw3 hB3 hA3
 have HK3:=hide (show Blk w3 bk 42 bc by rw[hw3];exact (hK2.kept g3 (by simp)).row_other _ _ hkv.symm)
 have HJ3:=hide (show Blk w3 b2 t2 cs2 by rw[hw3];exact (hJ2.kept g3 (by simp)).row_other _ _ h2v.symm)
 have HG3:=hide G3
 clear cr hBv hBo G2 hw3 hB3 hA3 G3 g2 hrr HG1 HB1 HBV hi3 hi4 hos hMo hMC hMl hW3 hiC hZC hCo hiT hbt hBv3 hBo3 G3a g3 hBC hC hCl hZ hZl q1 q2 q3 q4 hTG hN hX hK2 hJ2
 go_wp2_with (first
  | (refine wpList_load_mid rfl 33 _ rfl w2.heap.size 0 rfl TG _ hrT Tryz.underlying33 rfl (uh HIT) ?_;clear hrT)
  | (refine wpList_load_mid rfl 126 _ rfl vb 0 rfl MC _ hr3 Tryz.underlying126 rfl (uh HI3) ?_;clear hr3)
  | (refine wpList_store_row rfl 70 _ _ rfl w2.heap.size C.toArray rfl rfl _ _ (heap_alloc_new _ _) (uh HIC) (uh HZC) (uh HCO) ?_;rw[← uh HWC])
  | (refine wpList_store_row rfl 126 _ _ rfl vb MC.toArray rfl rfl _ _ (uh HBV2) (uh HI4) (uh HOS) (uh HMO) ?_;rw[← uh HW3])
  | (refine za4 rfl 126 _ rfl MC.toArray ?hbs ?_))
 case hbs=>simpa using uh HBT
 refine co.mono ?_
 rintro e w4 ⟨v4,rfl,hN4,g4⟩
 have hA4:=(uh HA3).kept g4 (by simp)
 have hK4:=(uh HK3).kept g4 (by simp)
 have hJ4:=(uh HJ3).kept g4 (by simp)
 have hB4:=(uh HB3).kept g4 (by simp)
 have G4:=tn (uh HG3) g4
 have h1c:v4.oneCell'=true:=by obtain ⟨_,_,rfl,_⟩:=hN4;rfl
 obtain ⟨x,hx⟩:∃ x:Int,x=r.1:=⟨_,rfl⟩
 rw[← hx]
 obtain ⟨K,hK⟩:∃ K:Int,K=(if x=0 then 4 else 0):=⟨_,rfl⟩
 rw[← hK]
 obtain ⟨HKK,HX⟩:=zh2 hK hx
 clear co hK hx
 rw[uh HMC] at hB4
 go_wp2_with (refine wpList_store_row rfl 42 _ _ rfl w.heap.size #[.int .i64 K,v4] rfl rfl _ _ hA4 zav rfl (zcq h1c) ?_)
 refine bodyPost_ret (zai rfl _ _ _ _ _ _ _ rfl (hA4.row [.int .i64 K,v4]) Tryz.underlying42 rfl zav) rfl ?_
 have gF:=zam (zab w4 (some w.heap.size)) #[.int .i64 K,v4] (Or.inr rfl)
 rw[← uh HR]
 refine ⟨v4,?_,?_,⟨⟨hB4.row_other _ _ (by omega),hJ4.row_other _ _ (by omega)⟩,hK4.row_other _ _ (by omega)⟩,zam G4 _ (Or.inl hus)⟩
 ·rw[← uh HX,← uh HKK]
  rfl
 ·obtain ⟨a',c',e1,e2,e3⟩:=hN4
  refine ⟨a',c',e1,e2.kept gF ?_⟩
  intro x e ad e5 e4
  cases e
  exact hA4.typ (by decide) (e4 ▸ (e3 ad e5).2)
theorem zin (w:World) (k K:Int) (hk:(k == K)=false) (ao:Option Addr) (n c:Nat) (fv:Value) :
  Calls Tryz.prog 60 #[.agg #[.int .i64 k,.slice ao n c],.int .i64 K,fv] w fun e w'=>e = .returned (.int .i64 2)∧w.grownBy w' none:=by
 have hk2:¬ k=K:=by simpa using hk
 go_enter Tryz.func60,Tryz.ntmps60
 go_wp2
 go_ret
 exact ⟨rfl,zah (zab _ _) _⟩
set_option maxHeartbeats 2000000 in
theorem zu9 (u w:World) (gu:u.grownBy w none) (ao:Option Addr) (c:Nat) (d:List UInt8) (hb:Bts u ao c d) (hd:d.length≤1000000) (vb:Nat) (K:Int) (r:Int × List UInt8) (R:World→Prop) (hR:∀ a b,R a→a.grownBy b none→R b)
  (hf:∀ V rb bc,u.grownBy V none→w.grownBy V none→w.heap.size<rb→Rd V rb d 0→Blk V w.heap.size 42 bc→Calls Tryz.prog 147 #[.pointer (some ⟨rb,0,none⟩),.pointer (some ⟨vb,0,none⟩)] V fun e w'=>zpu u w' K r (fun V'=>R V'∧Blk V' w.heap.size 42 bc) e) :
  Calls Tryz.prog 60 #[.agg #[.int .i64 K,.slice ao d.length c],.int .i64 K,.func (.func 147) #[] #[.pointer (some ⟨vb,0,none⟩)]] w fun e w'=>e = .returned (.int .i64 (if r=(0,d) then 0 else 11))∧R w'∧u.grownBy w' none:=by
 obtain ⟨Y,hY⟩:∃ y:Int,y=(if r=(0,d) then 0 else 11):=⟨_,rfl⟩
 rw[← hY]
 have HY:=hide hY
 clear hY
 obtain ⟨n,hn⟩:∃ n,n=d.length:=⟨_,rfl⟩
 obtain ⟨W0,hW0,hB0,g0⟩:∃ W1,W1=w.alloc (.cells #[.int .i64 K,.slice ao n c] 42)∧Blk W1 w.heap.size 42 [.int .i64 K,.slice ao n c]∧w.grownBy W1 none:=zag w _ _
 have cn:=zl5 W0 ao c d (hb.kept (tn gu g0) (fun _ e=>by cases e)) (by omega)
 have c0:=hB0.cell 0
 have c1:=hB0.cell 1
 simp only[List.getElem?_cons_zero,List.getElem?_cons_succ] at c0 c1
 rw[← hn] at cn ⊢
 obtain ⟨HN,HW0,HF,HR,HB,HB0⟩:=zh6 hn hW0 hf hR hb hB0
 obtain ⟨HGU,HG0⟩:=zh2 gu g0
 clear hn hW0 hf hR hb hB0 gu g0
 go_enter Tryz.func60,Tryz.ntmps60
 go_wp2_with (rw[← uh HW0])
 refine cn.mono ?_
 rintro e w1 ⟨rb,rfl,hrb,hRd,g1⟩
 have hws:w.heap.size<W0.heap.size:=(uh HB0).lt
 have cf:=uh HF w1 rb _ (tn (tn (uh HGU) (uh HG0)) g1) (tn (uh HG0) g1) (by omega) hRd ((uh HB0).kept g1 (by simp))
 clear cn hRd g1 c0 c1
 go_wp2_with fail
 refine cf.mono ?_
 rintro e w2 ⟨v2,rfl,⟨a2,c2,rfl,hb2⟩,⟨hR2,hK2⟩,g2⟩
 obtain ⟨n2,hn2⟩:∃ n,n=r.2.length:=⟨_,rfl⟩
 obtain ⟨x,hx⟩:∃ x:Int,x=r.1:=⟨_,rfl⟩
 rw[← hn2,← hx]
 obtain ⟨KK,hKK⟩:∃ k:Int,k=(if x=0 then K else 0):=⟨_,rfl⟩
 rw[← hKK]
 obtain ⟨W3,hW3,hB3,g3⟩:∃ W1,W1=w2.alloc (.cells #[.int .i64 KK,.slice a2 n2 c2] 42)∧Blk W1 w2.heap.size 42 [.int .i64 KK,.slice a2 n2 c2]∧w2.grownBy W1 none:=zag w2 _ _
 have hK3:=hK2.kept g3 (by simp)
 have d0:=hK3.cell 0
 have d1:=hK3.cell 1
 have f0:=hB3.cell 0
 have f1:=hB3.cell 1
 simp only[List.getElem?_cons_zero,List.getElem?_cons_succ] at d0 d1 f0 f1
 have HW3:=hide hW3
 have hb3:=hb2.kept g3 (fun _ e=>by cases e)
 have G3:=tn g2 g3
 have hR3:=uh HR w2 W3 hR2 g3
 by_cases hx0:x=0
 ·have hKe:KK=K:=by rw[hKK,if_pos hx0]
  have hbd:Bts W3 ao c d:=(uh HB).kept G3 (fun _ e=>by cases e)
  have cs:=zj8 W3 KK K a2 ao c2 c r.2 d hb3 hbd
  rw[← hn2,← uh HN] at cs
  obtain ⟨B,hB⟩:∃ B,B=decide (KK=K∧r.2=d):=⟨_,rfl⟩
  rw[← hB] at cs
  have hfin:Y=(if B=true then 0 else 11):=by
   rw[hB,uh HY]
   by_cases hq:r.2=d
   ·rw[if_pos (show r=(0,d) by rw[← hq,← hx0,hx]),if_pos (by simp[hKe,hq])]
   ·rw[if_neg (show ¬ r=(0,d) from fun e=>hq (by rw[e])),if_neg (by simp[hq])]
  obtain ⟨HFN,HR3⟩:=zh2 hfin hR3
  clear hKe hbd hB hfin hb2 hb3 hR2 hK2 hK3 hB3 hW3 hn2 hx hKK hR3 cf g2 g3
  subst hx0
  cases B
  ·go_wp2_with (first
    | (go_at_call 87;refine cs.mono ?_;rintro e w4 ⟨rfl,g4⟩;clear cs)
    | (rw[← uh HW3]))
   go_ret
   rw[uh HFN]
   exact ⟨rfl,uh HR _ _ (uh HR3) g4,tn G3 g4⟩
  ·go_wp2_with (first
    | (go_at_call 87;refine cs.mono ?_;rintro e w4 ⟨rfl,g4⟩;clear cs)
    | (rw[← uh HW3]))
   go_ret
   rw[uh HFN]
   exact ⟨rfl,uh HR _ _ (uh HR3) g4,tn G3 g4⟩
 ·have hx1:(x == 0)=false:=by simpa using hx0
  have hfin:Y=11:=by rw[uh HY];exact if_neg (fun e=>hx0 (by rw[hx,e]))
  obtain ⟨HFN,HR3⟩:=zh2 hfin hR3
  clear hfin hb2 hb3 hR2 hK2 hK3 hB3 hW3 hn2 hx hKK hR3 cf g2 g3
  go_wp2_with (rw[← uh HW3])
  go_ret
  rw[uh HFN]
  first
   | exact ⟨rfl,uh HR3,G3⟩
   | (rw[← uh HW3];exact ⟨rfl,uh HR3,G3⟩)
set_option maxHeartbeats 2000000 in
theorem zva (u w:World) (gu:u.grownBy w none) (ao:Option Addr) (c:Nat) (d:List UInt8) (hb:Bts u ao c d) (hd:d.length≤1000000) (vb:Nat) (K:Int) (r:Int × List UInt8) (R:World→Prop) (hR:∀ a b,R a→a.grownBy b none→R b)
  (hf:∀ V rb bc,u.grownBy V none→w.grownBy V none→w.heap.size<rb→Rd V rb d 0→Blk V w.heap.size 42 bc→Calls Tryz.prog 61 #[.pointer (some ⟨rb,0,none⟩),.pointer (some ⟨vb,0,none⟩)] V fun e w'=>zpu u w' K r (fun V'=>R V'∧Blk V' w.heap.size 42 bc) e) :
  Calls Tryz.prog 60 #[.agg #[.int .i64 K,.slice ao d.length c],.int .i64 K,.func (.func 61) #[] #[.pointer (some ⟨vb,0,none⟩)]] w fun e w'=>e = .returned (.int .i64 (if r=(0,d) then 0 else 11))∧R w'∧u.grownBy w' none:=by
 obtain ⟨Y,hY⟩:∃ y:Int,y=(if r=(0,d) then 0 else 11):=⟨_,rfl⟩
 rw[← hY]
 have HY:=hide hY
 clear hY
 obtain ⟨n,hn⟩:∃ n,n=d.length:=⟨_,rfl⟩
 obtain ⟨W0,hW0,hB0,g0⟩:∃ W1,W1=w.alloc (.cells #[.int .i64 K,.slice ao n c] 42)∧Blk W1 w.heap.size 42 [.int .i64 K,.slice ao n c]∧w.grownBy W1 none:=zag w _ _
 have cn:=zl5 W0 ao c d (hb.kept (tn gu g0) (fun _ e=>by cases e)) (by omega)
 have c0:=hB0.cell 0
 have c1:=hB0.cell 1
 simp only[List.getElem?_cons_zero,List.getElem?_cons_succ] at c0 c1
 rw[← hn] at cn ⊢
 obtain ⟨HN,HW0,HF,HR,HB,HB0⟩:=zh6 hn hW0 hf hR hb hB0
 obtain ⟨HGU,HG0⟩:=zh2 gu g0
 clear hn hW0 hf hR hb hB0 gu g0
 go_enter Tryz.func60,Tryz.ntmps60
 go_wp2_with (rw[← uh HW0])
 refine cn.mono ?_
 rintro e w1 ⟨rb,rfl,hrb,hRd,g1⟩
 have hws:w.heap.size<W0.heap.size:=(uh HB0).lt
 have cf:=uh HF w1 rb _ (tn (tn (uh HGU) (uh HG0)) g1) (tn (uh HG0) g1) (by omega) hRd ((uh HB0).kept g1 (by simp))
 clear cn hRd g1 c0 c1
 go_wp2_with fail
 refine cf.mono ?_
 rintro e w2 ⟨v2,rfl,⟨a2,c2,rfl,hb2⟩,⟨hR2,hK2⟩,g2⟩
 obtain ⟨n2,hn2⟩:∃ n,n=r.2.length:=⟨_,rfl⟩
 obtain ⟨x,hx⟩:∃ x:Int,x=r.1:=⟨_,rfl⟩
 rw[← hn2,← hx]
 obtain ⟨KK,hKK⟩:∃ k:Int,k=(if x=0 then K else 0):=⟨_,rfl⟩
 rw[← hKK]
 obtain ⟨W3,hW3,hB3,g3⟩:∃ W1,W1=w2.alloc (.cells #[.int .i64 KK,.slice a2 n2 c2] 42)∧Blk W1 w2.heap.size 42 [.int .i64 KK,.slice a2 n2 c2]∧w2.grownBy W1 none:=zag w2 _ _
 have hK3:=hK2.kept g3 (by simp)
 have d0:=hK3.cell 0
 have d1:=hK3.cell 1
 have f0:=hB3.cell 0
 have f1:=hB3.cell 1
 simp only[List.getElem?_cons_zero,List.getElem?_cons_succ] at d0 d1 f0 f1
 have HW3:=hide hW3
 have hb3:=hb2.kept g3 (fun _ e=>by cases e)
 have G3:=tn g2 g3
 have hR3:=uh HR w2 W3 hR2 g3
 by_cases hx0:x=0
 ·have hKe:KK=K:=by rw[hKK,if_pos hx0]
  have hbd:Bts W3 ao c d:=(uh HB).kept G3 (fun _ e=>by cases e)
  have cs:=zj8 W3 KK K a2 ao c2 c r.2 d hb3 hbd
  rw[← hn2,← uh HN] at cs
  obtain ⟨B,hB⟩:∃ B,B=decide (KK=K∧r.2=d):=⟨_,rfl⟩
  rw[← hB] at cs
  have hfin:Y=(if B=true then 0 else 11):=by
   rw[hB,uh HY]
   by_cases hq:r.2=d
   ·rw[if_pos (show r=(0,d) by rw[← hq,← hx0,hx]),if_pos (by simp[hKe,hq])]
   ·rw[if_neg (show ¬ r=(0,d) from fun e=>hq (by rw[e])),if_neg (by simp[hq])]
  obtain ⟨HFN,HR3⟩:=zh2 hfin hR3
  clear hKe hbd hB hfin hb2 hb3 hR2 hK2 hK3 hB3 hW3 hn2 hx hKK hR3 cf g2 g3
  subst hx0
  cases B
  ·go_wp2_with (first
    | (go_at_call 87;refine cs.mono ?_;rintro e w4 ⟨rfl,g4⟩;clear cs)
    | (rw[← uh HW3]))
   go_ret
   rw[uh HFN]
   exact ⟨rfl,uh HR _ _ (uh HR3) g4,tn G3 g4⟩
  ·go_wp2_with (first
    | (go_at_call 87;refine cs.mono ?_;rintro e w4 ⟨rfl,g4⟩;clear cs)
    | (rw[← uh HW3]))
   go_ret
   rw[uh HFN]
   exact ⟨rfl,uh HR _ _ (uh HR3) g4,tn G3 g4⟩
 ·have hx1:(x == 0)=false:=by simpa using hx0
  have hfin:Y=11:=by rw[uh HY];exact if_neg (fun e=>hx0 (by rw[hx,e]))
  obtain ⟨HFN,HR3⟩:=zh2 hfin hR3
  clear hfin hb2 hb3 hR2 hK2 hK3 hB3 hW3 hn2 hx hKK hR3 cf g2 g3
  go_wp2_with (rw[← uh HW3])
  go_ret
  rw[uh HFN]
  first
   | exact ⟨rfl,uh HR3,G3⟩
   | (rw[← uh HW3];exact ⟨rfl,uh HR3,G3⟩)
set_option maxHeartbeats 2000000 in
theorem zvb (u w:World) (gu:u.grownBy w none) (ao:Option Addr) (c:Nat) (d:List UInt8) (hb:Bts u ao c d) (hd:d.length≤1000000) (vb:Nat) (K:Int) (r:Int × List UInt8) (R:World→Prop) (hR:∀ a b,R a→a.grownBy b none→R b)
  (hf:∀ V rb bc,u.grownBy V none→w.grownBy V none→w.heap.size<rb→Rd V rb d 0→Blk V w.heap.size 42 bc→Calls Tryz.prog 149 #[.pointer (some ⟨rb,0,none⟩),.pointer (some ⟨vb,0,none⟩)] V fun e w'=>zpu u w' K r (fun V'=>R V'∧Blk V' w.heap.size 42 bc) e) :
  Calls Tryz.prog 60 #[.agg #[.int .i64 K,.slice ao d.length c],.int .i64 K,.func (.func 149) #[] #[.pointer (some ⟨vb,0,none⟩)]] w fun e w'=>e = .returned (.int .i64 (if r=(0,d) then 0 else 11))∧R w'∧u.grownBy w' none:=by
 obtain ⟨Y,hY⟩:∃ y:Int,y=(if r=(0,d) then 0 else 11):=⟨_,rfl⟩
 rw[← hY]
 have HY:=hide hY
 clear hY
 obtain ⟨n,hn⟩:∃ n,n=d.length:=⟨_,rfl⟩
 obtain ⟨W0,hW0,hB0,g0⟩:∃ W1,W1=w.alloc (.cells #[.int .i64 K,.slice ao n c] 42)∧Blk W1 w.heap.size 42 [.int .i64 K,.slice ao n c]∧w.grownBy W1 none:=zag w _ _
 have cn:=zl5 W0 ao c d (hb.kept (tn gu g0) (fun _ e=>by cases e)) (by omega)
 have c0:=hB0.cell 0
 have c1:=hB0.cell 1
 simp only[List.getElem?_cons_zero,List.getElem?_cons_succ] at c0 c1
 rw[← hn] at cn ⊢
 obtain ⟨HN,HW0,HF,HR,HB,HB0⟩:=zh6 hn hW0 hf hR hb hB0
 obtain ⟨HGU,HG0⟩:=zh2 gu g0
 clear hn hW0 hf hR hb hB0 gu g0
 go_enter Tryz.func60,Tryz.ntmps60
 go_wp2_with (rw[← uh HW0])
 refine cn.mono ?_
 rintro e w1 ⟨rb,rfl,hrb,hRd,g1⟩
 have hws:w.heap.size<W0.heap.size:=(uh HB0).lt
 have cf:=uh HF w1 rb _ (tn (tn (uh HGU) (uh HG0)) g1) (tn (uh HG0) g1) (by omega) hRd ((uh HB0).kept g1 (by simp))
 clear cn hRd g1 c0 c1
 go_wp2_with fail
 refine cf.mono ?_
 rintro e w2 ⟨v2,rfl,⟨a2,c2,rfl,hb2⟩,⟨hR2,hK2⟩,g2⟩
 obtain ⟨n2,hn2⟩:∃ n,n=r.2.length:=⟨_,rfl⟩
 obtain ⟨x,hx⟩:∃ x:Int,x=r.1:=⟨_,rfl⟩
 rw[← hn2,← hx]
 obtain ⟨KK,hKK⟩:∃ k:Int,k=(if x=0 then K else 0):=⟨_,rfl⟩
 rw[← hKK]
 obtain ⟨W3,hW3,hB3,g3⟩:∃ W1,W1=w2.alloc (.cells #[.int .i64 KK,.slice a2 n2 c2] 42)∧Blk W1 w2.heap.size 42 [.int .i64 KK,.slice a2 n2 c2]∧w2.grownBy W1 none:=zag w2 _ _
 have hK3:=hK2.kept g3 (by simp)
 have d0:=hK3.cell 0
 have d1:=hK3.cell 1
 have f0:=hB3.cell 0
 have f1:=hB3.cell 1
 simp only[List.getElem?_cons_zero,List.getElem?_cons_succ] at d0 d1 f0 f1
 have HW3:=hide hW3
 have hb3:=hb2.kept g3 (fun _ e=>by cases e)
 have G3:=tn g2 g3
 have hR3:=uh HR w2 W3 hR2 g3
 by_cases hx0:x=0
 ·have hKe:KK=K:=by rw[hKK,if_pos hx0]
  have hbd:Bts W3 ao c d:=(uh HB).kept G3 (fun _ e=>by cases e)
  have cs:=zj8 W3 KK K a2 ao c2 c r.2 d hb3 hbd
  rw[← hn2,← uh HN] at cs
  obtain ⟨B,hB⟩:∃ B,B=decide (KK=K∧r.2=d):=⟨_,rfl⟩
  rw[← hB] at cs
  have hfin:Y=(if B=true then 0 else 11):=by
   rw[hB,uh HY]
   by_cases hq:r.2=d
   ·rw[if_pos (show r=(0,d) by rw[← hq,← hx0,hx]),if_pos (by simp[hKe,hq])]
   ·rw[if_neg (show ¬ r=(0,d) from fun e=>hq (by rw[e])),if_neg (by simp[hq])]
  obtain ⟨HFN,HR3⟩:=zh2 hfin hR3
  clear hKe hbd hB hfin hb2 hb3 hR2 hK2 hK3 hB3 hW3 hn2 hx hKK hR3 cf g2 g3
  subst hx0
  cases B
  ·go_wp2_with (first
    | (go_at_call 87;refine cs.mono ?_;rintro e w4 ⟨rfl,g4⟩;clear cs)
    | (rw[← uh HW3]))
   go_ret
   rw[uh HFN]
   exact ⟨rfl,uh HR _ _ (uh HR3) g4,tn G3 g4⟩
  ·go_wp2_with (first
    | (go_at_call 87;refine cs.mono ?_;rintro e w4 ⟨rfl,g4⟩;clear cs)
    | (rw[← uh HW3]))
   go_ret
   rw[uh HFN]
   exact ⟨rfl,uh HR _ _ (uh HR3) g4,tn G3 g4⟩
 ·have hx1:(x == 0)=false:=by simpa using hx0
  have hfin:Y=11:=by rw[uh HY];exact if_neg (fun e=>hx0 (by rw[hx,e]))
  obtain ⟨HFN,HR3⟩:=zh2 hfin hR3
  clear hfin hb2 hb3 hR2 hK2 hK3 hB3 hW3 hn2 hx hKK hR3 cf g2 g3
  go_wp2_with (rw[← uh HW3])
  go_ret
  rw[uh HFN]
  first
   | exact ⟨rfl,uh HR3,G3⟩
   | (rw[← uh HW3];exact ⟨rfl,uh HR3,G3⟩)
def telT (k:Int) (d:List UInt8):Int × List EntL:=if k=2 then (if za9 (zbz d)=(0,d) then (0,zbz d) else (11,[])) else (2,[])
def zer:ChgL:=⟨List.replicate 32 0,[],0,[],[]⟩
def zhf:MrkL:=⟨List.replicate 32 0,[],[]⟩
def telC (k:Int) (d:List UInt8):Int × ChgL:=if k=3 then (if zcf (zbh d)=(0,d) then (0,zbh d) else (11,zer)) else (2,zer)
def telM (k:Int) (d:List UInt8):Int × MrkL:=if k=4 then (if zcv (zb2 d)=(0,d) then (0,zb2 d) else (11,zhf)) else (2,zhf)
set_option maxHeartbeats 2000000 in
theorem zpw (w:World) (k:Int) (ao:Option Addr) (c:Nat) (d:List UInt8) (hb:Bts w ao c d) (hd:d.length≤100000) :
  Calls Tryz.prog 120 #[.agg #[.int .i64 k,.slice ao d.length c]] w fun e w'=>∃ v y,e = .returned (.tuple #[v,.int .i64 y])∧y=(telT k d).1∧w'.ownsRow w.heap.size 123 34 v (telT k d).2.length ((telT k d).2.flatMap enC)∧w.grownBy w' none:=by
 obtain ⟨n,hn⟩:∃ n,n=d.length:=⟨_,rfl⟩
 obtain ⟨W0,hW0,hB0,g0⟩:∃ W1,W1=w.alloc (.cells #[.int .i64 k,.slice ao n c] 42)∧Blk W1 w.heap.size 42 [.int .i64 k,.slice ao n c]∧w.grownBy W1 none:=zag w _ _
 obtain ⟨W1,hW1,hB1,g1⟩:∃ W1,W1=W0.alloc (.cells #[.slice none 0 0] 121)∧Blk W1 W0.heap.size 121 [.slice none 0 0]∧W0.grownBy W1 none:=zag W0 _ _
 have hs0:W0.heap.size=w.heap.size+1:=by rw[hW0];simp
 rw[hs0] at hB1
 have hBo:=hB0.kept g1 (by simp)
 have c0:=hBo.cell 0
 have c1:=hBo.cell 1
 simp only[List.getElem?_cons_zero,List.getElem?_cons_succ] at c0 c1
 have G1:=tn g0 g1
 have hs1:W1.heap.size=w.heap.size+2:=by rw[hW1,hW0];simp
 have hW:W1=(w.alloc (.cells #[.int .i64 k,.slice ao n c] 42)).alloc (.cells #[.slice none 0 0] 121):=by rw[hW1,hW0]
 have HW:=hide hW
 by_cases hk:k=2
 ·subst hk
  have cf:=zu9 w W1 G1 ao c d hb (by omega) (w.heap.size+1) 2 (za9 (zbz d)) (zr7 w (w.heap.size+1) (zbz d)) (fun a b h g=>h.none g)
   (fun V rb bc gu gw hrb hRd hbk=>zu6 w V rb (w.heap.size+1) d (by omega) _ gu (Nat.le_succ _) (by omega) (by omega) hRd (hB1.kept gw (by simp)) W1.heap.size bc hbk (by omega) (by omega))
  rw[← hn] at cf
  rw[← hn]
  have hT:telT 2 d=(if za9 (zbz d)=(0,d) then (0,zbz d) else (11,[])):=by simp[telT]
  obtain ⟨t,ht⟩:∃ t,t=telT 2 d:=⟨_,rfl⟩
  rw[← ht] at hT ⊢
  obtain ⟨y,hy⟩:∃ y:Int,y=(if za9 (zbz d)=(0,d) then 0 else 11):=⟨_,rfl⟩
  rw[← hy] at cf
  have hyc:(y=0∧t=(0,zbz d))∨(y=11∧t=(11,[])):=by
   by_cases hq:za9 (zbz d)=(0,d)
   ·left;rw[hT,hy,if_pos hq,if_pos hq];exact ⟨rfl,rfl⟩
   ·right;rw[hT,hy,if_neg hq,if_neg hq];exact ⟨rfl,rfl⟩
  clear hW1 hW0 hW hB0 hB1 hBo g0 g1 hT hy hn ht hs0 hs1 hb hd
  rcases hyc with ⟨rfl,ht⟩ | ⟨rfl,ht⟩
  ·have HT:=hide ht
   clear ht
   go_enter Tryz.func120,Tryz.ntmps120
   go_wp2_with (rw[← uh HW])
   refine cf.mono ?_
   rintro e w2 ⟨rfl,⟨v,hB2,ho2⟩,g2⟩
   have c2:=hB2.cell 0
   simp only[List.getElem?_cons_zero] at c2
   have HO:=hide ho2
   clear cf ho2 hB2 c0 c1
   go_wp2
   refine bodyPost_ret (v := .tuple #[v,.int .i64 0]) (by simp[results,Tryz.results120,go_sem]) rfl ?_
   exact ⟨v,0,rfl,by rw[uh HT],by rw[uh HT];exact uh HO,g2⟩
  ·have HT:=hide ht
   clear ht
   go_enter Tryz.func120,Tryz.ntmps120
   go_wp2_with (rw[← uh HW])
   refine cf.mono ?_
   rintro e w2 ⟨rfl,hkp,g2⟩
   clear cf hkp c0 c1
   go_wp2
   refine bodyPost_ret (v := .tuple #[.slice none 0 0,.int .i64 11]) (by simp[results,Tryz.results120,go_sem]) rfl ?_
   exact ⟨_,11,rfl,by rw[uh HT],by rw[uh HT];exact World.ownsRow_nil _ _ _ _,g2⟩
 ·have cf:=zin W1 k 2 (by simpa using hk) ao n c (.func (.func 147) #[] #[.pointer (some ⟨w.heap.size+1,0,none⟩)])
  rw[← hn]
  have ht:telT k d=(2,[]):=by simp[telT,hk]
  have HT:=hide ht
  clear hW1 hW0 hW hB0 hB1 hBo g0 g1 hn ht hs0 hs1 hb hd
  go_enter Tryz.func120,Tryz.ntmps120
  go_wp2_with (rw[← uh HW])
  refine cf.mono ?_
  rintro e w2 ⟨rfl,g2⟩
  clear cf c0 c1
  go_wp2
  refine bodyPost_ret (v := .tuple #[.slice none 0 0,.int .i64 2]) (by simp[results,Tryz.results120,go_sem]) rfl ?_
  exact ⟨_,2,rfl,by rw[uh HT],by rw[uh HT];exact World.ownsRow_nil _ _ _ _,tn G1 g2⟩
set_option maxHeartbeats 2000000 in
theorem zdc (w:World) (k:Int) (ao:Option Addr) (c:Nat) (d:List UInt8) (hb:Bts w ao c d) (hd:d.length≤100000) :
  Calls Tryz.prog 31 #[.agg #[.int .i64 k,.slice ao d.length c]] w fun e w'=>∃ po pc y,e = .returned (.tuple #[.agg (chC (telC k d).2 po pc).toArray,.int .i64 y])∧y=(telC k d).1∧w'.ownsRow w.heap.size 33 32 (.slice po (telC k d).2.pars.length pc) (telC k d).2.pars.length ((telC k d).2.pars.flatMap (·.map bv))∧w.grownBy w' none:=by
 obtain ⟨n,hn⟩:∃ n,n=d.length:=⟨_,rfl⟩
 obtain ⟨Z,hZ⟩:∃ Z:List Value,Z=chC zer none 0:=⟨_,rfl⟩
 have hzv:∀ w,(zeroValue 70).run Tryz.prog w = .ok (.agg Z.toArray) w:=fun w=>by rw[hZ];kernel_rfl
 have hzb:Tryz.prog.built 70 []=some Z.toArray:=by rw[hZ];kernel_rfl
 have hZl:Z.length=36:=by rw[hZ];rfl
 have hZo:Z.toArray.all (·.oneCell')=true:=by rw[hZ];exact all_oneCell_toArray (zeg _ _ _)
 obtain ⟨W0,hW0,hB0,g0⟩:∃ W1,W1=w.alloc (.cells #[.int .i64 k,.slice ao n c] 42)∧Blk W1 w.heap.size 42 [.int .i64 k,.slice ao n c]∧w.grownBy W1 none:=zag w _ _
 obtain ⟨Wr,hWr,hBr,gr⟩:∃ W1,W1=W0.alloc (.cells Z.toArray 70)∧Blk W1 W0.heap.size 70 Z∧W0.grownBy W1 none:=zag W0 _ _
 obtain ⟨W1,hW1,hB1,g1⟩:∃ W1,W1=Wr.alloc (.cells Z.toArray 70)∧Blk W1 Wr.heap.size 70 Z∧Wr.grownBy W1 none:=zag Wr _ _
 have hs0:W0.heap.size=w.heap.size+1:=by rw[hW0];simp
 have hsr:Wr.heap.size=w.heap.size+2:=by rw[hWr,hW0];simp
 rw[hs0] at hBr
 rw[hsr] at hB1
 have hBo:=(hB0.kept gr (by simp)).kept g1 (by simp)
 have hBr1:=hBr.kept g1 (by simp)
 have c0:=hBo.cell 0
 have c1:=hBo.cell 1
 simp only[List.getElem?_cons_zero,List.getElem?_cons_succ] at c0 c1
 have G1:=tn (tn g0 gr) g1
 have hs1:W1.heap.size=w.heap.size+3:=by rw[hW1,hWr,hW0];simp
 have hW:W1=((w.alloc (.cells #[.int .i64 k,.slice ao n c] 42)).alloc (.cells Z.toArray 70)).alloc (.cells Z.toArray 70):=by rw[hW1,hWr,hW0]
 have HW:=hide hW
 have hiZ:(Tryz.prog.info? 70).map (·.size)=some Z.toArray.size:=by rw[show Z.toArray.size=36 by simpa using hZl];exact zbv
 obtain ⟨HIZ,HZB,HZO,HBR,HZ,HZL⟩:=zh6 hiZ hzb hZo hBr1 hZ hZl
 have HG1:=hide G1
 clear hiZ hzb hZo
 by_cases hk:k=3
 ·subst hk
  have cf:=zva w W1 G1 ao c d hb (by omega) (w.heap.size+2) 3 (zcf (zbh d)) (fun V=>zr8 w (w.heap.size+2) (zbh d) V∧Blk V (w.heap.size+1) 70 Z) (fun a b h g=>⟨h.1.none g,h.2.kept g (by simp)⟩)
   (fun V rb bc gu gw hrb hRd hbk=>(zu7 w V rb (w.heap.size+2) d (by omega) _ hZl gu (by omega) (by omega) (by omega) hRd (hB1.kept gw (by simp)) W1.heap.size bc hbk (by omega) (by omega) (w.heap.size+1) _ Z (hBr1.kept gw (by simp)) (by omega) (by omega)))
  rw[← hn] at cf
  rw[← hn]
  have hT:telC 3 d=(if zcf (zbh d)=(0,d) then (0,zbh d) else (11,zer)):=by simp[telC]
  obtain ⟨t,ht⟩:∃ t,t=telC 3 d:=⟨_,rfl⟩
  rw[← ht] at hT ⊢
  obtain ⟨y,hy⟩:∃ y:Int,y=(if zcf (zbh d)=(0,d) then 0 else 11):=⟨_,rfl⟩
  rw[← hy] at cf
  have hyc:(y=0∧t=(0,zbh d))∨(y=11∧t=(11,zer)):=by
   by_cases hq:zcf (zbh d)=(0,d)
   ·left;rw[hT,hy,if_pos hq,if_pos hq];exact ⟨rfl,rfl⟩
   ·right;rw[hT,hy,if_neg hq,if_neg hq];exact ⟨rfl,rfl⟩
  have hok:=zdh d
  clear hW1 hW0 hW hB0 hB1 hBo g0 g1 hT hy hn ht hs0 hs1 hb hd hWr hBr hBr1 gr hsr hZ hZl G1
  rcases hyc with ⟨rfl,ht⟩ | ⟨rfl,ht⟩
  ·have HT:=hide ht
   clear ht
   go_enter Tryz.func31,Tryz.ntmps31
   go_wp2_with (rw[← uh HW])
   refine cf.mono ?_
   rintro e w2 ⟨rfl,⟨⟨po,pc,hB2,ho2⟩,hB3⟩,g2⟩
   obtain ⟨C,hC⟩:∃ C,C=chC (zbh d) po pc:=⟨_,rfl⟩
   rw[← hC] at hB2
   have hCl:C.length=36:=by rw[hC];exact zd0 _ _ _ hok.1
   have hCo:C.toArray.all (·.oneCell')=true:=by rw[hC];exact all_oneCell_toArray (zeg _ _ _)
   have hr2:=zal hB2
   have hiC:(Tryz.prog.info? 70).map (·.size)=some C.length:=by rw[hCl];exact zbv
   have hiC2:(Tryz.prog.info? 70).map (·.size)=some C.toArray.size:=by simpa using hiC
   have hZC:Z.toArray.size=C.toArray.size:=by have:=uh HZL;simp[this,hCl]
   obtain ⟨HIC,HIC2,HZC,HCO,HC,HB2⟩:=zh6 hiC hiC2 hZC hCo hC hB2
   clear cf c0 c1 hiC hiC2 hZC hCo hC hCl hB2 hok
   go_wp2_with (first
    | (refine wpList_load_mid rfl 70 _ rfl (w.heap.size+2) 0 rfl C _ hr2 Tryz.underlying70 rfl (uh HIC) ?_;clear hr2)
    | (refine wpList_store_row rfl 70 _ _ rfl (w.heap.size+1) C.toArray rfl rfl _ _ hB3 (uh HIC2) (uh HZC) (uh HCO) ?_))
   refine bodyPost_ret (zai rfl _ _ _ _ _ _ _ rfl (hB3.row C) Tryz.underlying70 rfl (uh HIC2)) rfl ?_
   have gF:=zam g2 C.toArray (Or.inl (Nat.le_succ w.heap.size))
   rw[uh HT]
   rw[uh HC] at gF ⊢
   exact ⟨po,pc,0,rfl,rfl,zb3 ho2 hB3 (by decide) _,gF⟩
  ·have HT:=hide ht
   clear ht
   go_enter Tryz.func31,Tryz.ntmps31
   go_wp2_with (rw[← uh HW])
   refine cf.mono ?_
   rintro e w2 ⟨rfl,⟨hkp,hB3⟩,g2⟩
   clear cf hkp c0 c1 hok
   go_wp2_with (first
    | (refine za4 rfl 70 _ rfl Z.toArray ?hbs ?_)
    | (refine wpList_store_row rfl 70 _ _ rfl (w.heap.size+1) Z.toArray rfl rfl _ _ hB3 (uh HIZ) rfl (uh HZO) ?_))
   case hbs=>simpa using uh HZB
   refine bodyPost_ret (zai rfl _ _ _ _ _ _ _ rfl (hB3.row Z) Tryz.underlying70 rfl (uh HIZ)) rfl ?_
   have gF:=zam g2 Z.toArray (Or.inl (Nat.le_succ w.heap.size))
   rw[uh HT]
   rw[uh HZ] at gF ⊢
   exact ⟨none,0,_,rfl,rfl,World.ownsRow_nil _ _ _ _,gF⟩
 ·have cf:=zin W1 k 3 (by simpa using hk) ao n c (.func (.func 61) #[] #[.pointer (some ⟨w.heap.size+2,0,none⟩)])
  rw[← hn]
  have ht:telC k d=(2,zer):=by simp[telC,hk]
  have HT:=hide ht
  clear hW1 hW0 hW hB0 hB1 hBo g0 g1 hn ht hs0 hs1 hb hd hWr hBr hBr1 gr hsr hZ hZl G1
  go_enter Tryz.func31,Tryz.ntmps31
  go_wp2_with (rw[← uh HW])
  refine cf.mono ?_
  rintro e w2 ⟨rfl,g2a⟩
  have g2:=tn (uh HG1) g2a
  have hB3:=(uh HBR).kept g2a (by simp)
  clear cf c0 c1
  go_wp2_with (first
   | (refine za4 rfl 70 _ rfl Z.toArray ?hbs ?_)
   | (refine wpList_store_row rfl 70 _ _ rfl (w.heap.size+1) Z.toArray rfl rfl _ _ hB3 (uh HIZ) rfl (uh HZO) ?_))
  case hbs=>simpa using uh HZB
  refine bodyPost_ret (zai rfl _ _ _ _ _ _ _ rfl (hB3.row Z) Tryz.underlying70 rfl (uh HIZ)) rfl ?_
  have gF:=zam g2 Z.toArray (Or.inl (Nat.le_succ w.heap.size))
  rw[uh HT]
  rw[uh HZ] at gF ⊢
  exact ⟨none,0,_,rfl,rfl,World.ownsRow_nil _ _ _ _,gF⟩
set_option maxHeartbeats 2000000 in
theorem zpx (w:World) (k:Int) (ao:Option Addr) (c:Nat) (d:List UInt8) (hb:Bts w ao c d) (hd:d.length≤100000) :
  Calls Tryz.prog 121 #[.agg #[.int .i64 k,.slice ao d.length c]] w fun e w'=>∃ y,e = .returned (.tuple #[.agg (mkC (telM k d).2).toArray,.int .i64 y])∧y=(telM k d).1∧w.grownBy w' none:=by
 obtain ⟨n,hn⟩:∃ n,n=d.length:=⟨_,rfl⟩
 obtain ⟨Z,hZ⟩:∃ Z:List Value,Z=mkC zhf:=⟨_,rfl⟩
 have hzv:∀ w,(zeroValue 126).run Tryz.prog w = .ok (.agg Z.toArray) w:=fun w=>by rw[hZ];kernel_rfl
 have hzb:Tryz.prog.built 126 []=some Z.toArray:=by rw[hZ];kernel_rfl
 have hZl:Z.length=34:=by rw[hZ];rfl
 have hZo:Z.toArray.all (·.oneCell')=true:=by rw[hZ];exact all_oneCell_toArray (zh1 _)
 obtain ⟨W0,hW0,hB0,g0⟩:∃ W1,W1=w.alloc (.cells #[.int .i64 k,.slice ao n c] 42)∧Blk W1 w.heap.size 42 [.int .i64 k,.slice ao n c]∧w.grownBy W1 none:=zag w _ _
 obtain ⟨Wr,hWr,hBr,gr⟩:∃ W1,W1=W0.alloc (.cells Z.toArray 126)∧Blk W1 W0.heap.size 126 Z∧W0.grownBy W1 none:=zag W0 _ _
 obtain ⟨W1,hW1,hB1,g1⟩:∃ W1,W1=Wr.alloc (.cells Z.toArray 126)∧Blk W1 Wr.heap.size 126 Z∧Wr.grownBy W1 none:=zag Wr _ _
 have hs0:W0.heap.size=w.heap.size+1:=by rw[hW0];simp
 have hsr:Wr.heap.size=w.heap.size+2:=by rw[hWr,hW0];simp
 rw[hs0] at hBr
 rw[hsr] at hB1
 have hBo:=(hB0.kept gr (by simp)).kept g1 (by simp)
 have hBr1:=hBr.kept g1 (by simp)
 have c0:=hBo.cell 0
 have c1:=hBo.cell 1
 simp only[List.getElem?_cons_zero,List.getElem?_cons_succ] at c0 c1
 have G1:=tn (tn g0 gr) g1
 have hs1:W1.heap.size=w.heap.size+3:=by rw[hW1,hWr,hW0];simp
 have hW:W1=((w.alloc (.cells #[.int .i64 k,.slice ao n c] 42)).alloc (.cells Z.toArray 126)).alloc (.cells Z.toArray 126):=by rw[hW1,hWr,hW0]
 have HW:=hide hW
 have hiZ:(Tryz.prog.info? 126).map (·.size)=some Z.toArray.size:=by rw[show Z.toArray.size=34 by simpa using hZl];exact ze9
 obtain ⟨HIZ,HZB,HZO,HBR,HZ,HZL⟩:=zh6 hiZ hzb hZo hBr1 hZ hZl
 have HG1:=hide G1
 clear hiZ hzb hZo
 by_cases hk:k=4
 ·subst hk
  have cf:=zvb w W1 G1 ao c d hb (by omega) (w.heap.size+2) 4 (zcv (zb2 d)) (fun V=>zpv (w.heap.size+2) (zb2 d) V∧Blk V (w.heap.size+1) 126 Z) (fun a b h g=>⟨h.1.none g,h.2.kept g (by simp)⟩)
   (fun V rb bc gu gw hrb hRd hbk=>(zu8 w V rb (w.heap.size+2) d (by omega) _ hZl gu (by omega) (by omega) (by omega) hRd (hB1.kept gw (by simp)) W1.heap.size bc hbk (by omega) (by omega) (w.heap.size+1) _ Z (hBr1.kept gw (by simp)) (by omega) (by omega)))
  rw[← hn] at cf
  rw[← hn]
  have hT:telM 4 d=(if zcv (zb2 d)=(0,d) then (0,zb2 d) else (11,zhf)):=by simp[telM]
  obtain ⟨t,ht⟩:∃ t,t=telM 4 d:=⟨_,rfl⟩
  rw[← ht] at hT ⊢
  obtain ⟨y,hy⟩:∃ y:Int,y=(if zcv (zb2 d)=(0,d) then 0 else 11):=⟨_,rfl⟩
  rw[← hy] at cf
  have hyc:(y=0∧t=(0,zb2 d))∨(y=11∧t=(11,zhf)):=by
   by_cases hq:zcv (zb2 d)=(0,d)
   ·left;rw[hT,hy,if_pos hq,if_pos hq];exact ⟨rfl,rfl⟩
   ·right;rw[hT,hy,if_neg hq,if_neg hq];exact ⟨rfl,rfl⟩
  have hok:=zho d
  clear hW1 hW0 hW hB0 hB1 hBo g0 g1 hT hy hn ht hs0 hs1 hb hd hWr hBr hBr1 gr hsr hZ hZl G1
  rcases hyc with ⟨rfl,ht⟩ | ⟨rfl,ht⟩
  ·have HT:=hide ht
   clear ht
   go_enter Tryz.func121,Tryz.ntmps121
   go_wp2_with (rw[← uh HW])
   refine cf.mono ?_
   rintro e w2 ⟨rfl,⟨hB2,hB3⟩,g2⟩
   obtain ⟨C,hC⟩:∃ C,C=mkC (zb2 d):=⟨_,rfl⟩
   unfold zpv at hB2
   rw[← hC] at hB2
   have hCl:C.length=34:=by rw[hC];exact zh0 _ hok.1
   have hCo:C.toArray.all (·.oneCell')=true:=by rw[hC];exact all_oneCell_toArray (zh1 _)
   have hr2:=zal hB2
   have hiC:(Tryz.prog.info? 126).map (·.size)=some C.length:=by rw[hCl];exact ze9
   have hiC2:(Tryz.prog.info? 126).map (·.size)=some C.toArray.size:=by simpa using hiC
   have hZC:Z.toArray.size=C.toArray.size:=by have:=uh HZL;simp[this,hCl]
   obtain ⟨HIC,HIC2,HZC,HCO,HC,HB2⟩:=zh6 hiC hiC2 hZC hCo hC hB2
   clear cf c0 c1 hiC hiC2 hZC hCo hC hCl hB2 hok
   go_wp2_with (first
    | (refine wpList_load_mid rfl 126 _ rfl (w.heap.size+2) 0 rfl C _ hr2 Tryz.underlying126 rfl (uh HIC) ?_;clear hr2)
    | (refine wpList_store_row rfl 126 _ _ rfl (w.heap.size+1) C.toArray rfl rfl _ _ hB3 (uh HIC2) (uh HZC) (uh HCO) ?_))
   refine bodyPost_ret (zai rfl _ _ _ _ _ _ _ rfl (hB3.row C) Tryz.underlying126 rfl (uh HIC2)) rfl ?_
   have gF:=zam g2 C.toArray (Or.inl (Nat.le_succ w.heap.size))
   rw[uh HT]
   rw[uh HC] at gF ⊢
   exact ⟨0,rfl,rfl,gF⟩
  ·have HT:=hide ht
   clear ht
   go_enter Tryz.func121,Tryz.ntmps121
   go_wp2_with (rw[← uh HW])
   refine cf.mono ?_
   rintro e w2 ⟨rfl,⟨hkp,hB3⟩,g2⟩
   clear cf hkp c0 c1 hok
   go_wp2_with (first
    | (refine za4 rfl 126 _ rfl Z.toArray ?hbs ?_)
    | (refine wpList_store_row rfl 126 _ _ rfl (w.heap.size+1) Z.toArray rfl rfl _ _ hB3 (uh HIZ) rfl (uh HZO) ?_))
   case hbs=>simpa using uh HZB
   refine bodyPost_ret (zai rfl _ _ _ _ _ _ _ rfl (hB3.row Z) Tryz.underlying126 rfl (uh HIZ)) rfl ?_
   have gF:=zam g2 Z.toArray (Or.inl (Nat.le_succ w.heap.size))
   rw[uh HT]
   rw[uh HZ] at gF ⊢
   exact ⟨_,rfl,rfl,gF⟩
 ·have cf:=zin W1 k 4 (by simpa using hk) ao n c (.func (.func 149) #[] #[.pointer (some ⟨w.heap.size+2,0,none⟩)])
  rw[← hn]
  have ht:telM k d=(2,zhf):=by simp[telM,hk]
  have HT:=hide ht
  clear hW1 hW0 hW hB0 hB1 hBo g0 g1 hn ht hs0 hs1 hb hd hWr hBr hBr1 gr hsr hZ hZl G1
  go_enter Tryz.func121,Tryz.ntmps121
  go_wp2_with (rw[← uh HW])
  refine cf.mono ?_
  rintro e w2 ⟨rfl,g2a⟩
  have g2:=tn (uh HG1) g2a
  have hB3:=(uh HBR).kept g2a (by simp)
  clear cf c0 c1
  go_wp2_with (first
   | (refine za4 rfl 126 _ rfl Z.toArray ?hbs ?_)
   | (refine wpList_store_row rfl 126 _ _ rfl (w.heap.size+1) Z.toArray rfl rfl _ _ hB3 (uh HIZ) rfl (uh HZO) ?_))
  case hbs=>simpa using uh HZB
  refine bodyPost_ret (zai rfl _ _ _ _ _ _ _ rfl (hB3.row Z) Tryz.underlying126 rfl (uh HIZ)) rfl ?_
  have gF:=zam g2 Z.toArray (Or.inl (Nat.le_succ w.heap.size))
  rw[uh HT]
  rw[uh HZ] at gF ⊢
  exact ⟨_,rfl,rfl,gF⟩
def zdr (w w' : World) (k:Int) (d:List UInt8) (e:Ending):Prop:=∃ v y,e = .returned (.tuple #[v,.int .i64 y])∧y=zau k d∧w'.ownsRow w.heap.size 33 32 v (zbm k d).length ((zbm k d).flatMap (·.map bv))∧w.grownBy w' none
theorem zdr.bad {w w' : World} {k:Int} {d:List UInt8} {y:Int} (hy:zau k d=y) (h0:y≠0) (g:w.grownBy w' none):zdr w w' k d (.returned (.tuple #[.slice none 0 0,.int .i64 y])):=by
 have hl:zbm k d=[]:=by unfold zbm;rw[hy,if_pos h0]
 exact ⟨_,y,rfl,hy.symm,by rw[hl];exact World.ownsRow_nil _ _ _ _,g⟩
theorem zyz (d:List UInt8) (h:d.length≤16384):zau 2 d=(telT 2 d).1∧((telT 2 d).1=0→zbm 2 d=(telT 2 d).2.map (·.id))∧((telT 2 d).1=0∨(telT 2 d).1=11∧(telT 2 d).2=[]):=by
 have h1:¬ 16384<d.length:=by omega
 have hc:zau 2 d=errO (zeq d):=by simp[zau,h1]
 by_cases hq:za9 (zbz d)=(0,d)
 ·have e1:zeq d=some (zbz d):=by simp[zeq,hq]
  have e2:telT 2 d=(0,zbz d):=by simp[telT,hq]
  refine ⟨by rw[hc,e1,e2];rfl,fun _ => ?_,by rw[e2];exact Or.inl rfl⟩
  unfold zbm
  rw[hc,e1,e2]
  simp[errO]
 ·have e1:zeq d=none:=by simp[zeq,hq]
  have e2:telT 2 d=(11,[]):=by simp[telT,hq]
  refine ⟨by rw[hc,e1,e2];rfl,fun h => ?_,by rw[e2];exact Or.inr ⟨rfl,rfl⟩⟩
  rw[e2] at h
  exact absurd h (by decide)
theorem zy0 (d:List UInt8) (h:d.length≤16384):zau 3 d=(telC 3 d).1∧((telC 3 d).1=0→zbm 3 d=(telC 3 d).2.tree::(telC 3 d).2.pars)∧((telC 3 d).1=0∨(telC 3 d).1=11)∧(telC 3 d).2.tree.length=32∧(∀ x∈(telC 3 d).2.pars,x.length=32)∧(telC 3 d).2.pars.length≤4:=by
 have h1:¬ 16384<d.length:=by omega
 have hc:zau 3 d=errO (zfk d):=by simp[zau,h1]
 by_cases hq:zcf (zbh d)=(0,d)
 ·have e1:zfk d=some (zbh d):=by simp[zfk,hq]
  have e2:telC 3 d=(0,zbh d):=by simp[telC,hq]
  have hok:=zdh d
  refine ⟨by rw[hc,e1,e2];rfl,fun _ => ?_,by rw[e2];exact Or.inl rfl,by rw[e2];exact hok.1,by rw[e2];exact hok.2.1,by rw[e2];exact hok.2.2.1⟩
  unfold zbm
  rw[hc,e1,e2]
  simp[errO]
 ·have e1:zfk d=none:=by simp[zfk,hq]
  have e2:telC 3 d=(11,zer):=by simp[telC,hq]
  refine ⟨by rw[hc,e1,e2];rfl,fun h => ?_,by rw[e2];exact Or.inr rfl,by rw[e2];rfl,by rw[e2];intro x hx;simp[zer] at hx,by rw[e2];exact Nat.zero_le _⟩
  rw[e2] at h
  exact absurd h (by decide)
theorem zy1 (d:List UInt8) (h:d.length≤16384):zau 4 d=(telM 4 d).1∧((telM 4 d).1=0→zbm 4 d=[(telM 4 d).2.target])∧((telM 4 d).1=0∨(telM 4 d).1=11)∧(telM 4 d).2.target.length=32:=by
 have h1:¬ 16384<d.length:=by omega
 have hc:zau 4 d=errO (zi9 d):=by simp[zau,h1]
 by_cases hq:zcv (zb2 d)=(0,d)
 ·have e1:zi9 d=some (zb2 d):=by simp[zi9,hq]
  have e2:telM 4 d=(0,zb2 d):=by simp[telM,hq]
  refine ⟨by rw[hc,e1,e2];rfl,fun _ => ?_,by rw[e2];exact Or.inl rfl,by rw[e2];exact (zho d).1⟩
  unfold zbm
  rw[hc,e1,e2]
  simp[errO]
 ·have e1:zi9 d=none:=by simp[zi9,hq]
  have e2:telM 4 d=(11,zhf):=by simp[telM,hq]
  refine ⟨by rw[hc,e1,e2];rfl,fun h => ?_,by rw[e2];exact Or.inr rfl,by rw[e2];rfl⟩
  rw[e2] at h
  exact absurd h (by decide)
theorem zpy (w:World) (k:Int) (hk:k<1∨4<k) (ao:Option Addr) (c:Nat) (d:List UInt8):Calls Tryz.prog 91 #[.agg #[.int .i64 k,.slice ao d.length c]] w fun e w'=>zdr w w' k d e:=by
 have hc:zau k d=2:=by unfold zau;rw[if_pos hk]
 have HC:=hide hc
 obtain ⟨n,hn⟩:∃ n,n=d.length:=⟨_,rfl⟩
 rw[← hn]
 clear hc hn
 by_cases h1:k<1
 ·have g0:w.grownBy (w.alloc (.cells #[.int .i64 k,.slice ao n c] 42)) none:=zah (zab _ _) _
  clear hk
  go_enter Tryz.func91,Tryz.ntmps91
  go_wp2
  refine bodyPost_ret (v := .tuple #[.slice none 0 0,.int .i64 2]) (by simp[results,Tryz.results91,go_sem]) rfl ?_
  exact zdr.bad (uh HC) (by decide) g0
 ·have h2:4<k:=by omega
  have g0:w.grownBy (w.alloc (.cells #[.int .i64 k,.slice ao n c] 42)) none:=zah (zab _ _) _
  clear hk
  go_enter Tryz.func91,Tryz.ntmps91
  go_wp2
  refine bodyPost_ret (v := .tuple #[.slice none 0 0,.int .i64 2]) (by simp[results,Tryz.results91,go_sem]) rfl ?_
  exact zdr.bad (uh HC) (by decide) g0
theorem zpz (w:World) (k:Int) (h1:¬ k<1) (h4:¬ 4<k) (ao:Option Addr) (c:Nat) (d:List UInt8) (hd:16384<d.length):Calls Tryz.prog 91 #[.agg #[.int .i64 k,.slice ao d.length c]] w fun e w'=>zdr w w' k d e:=by
 have hc:zau k d=3:=by unfold zau;rw[if_neg (by omega),if_pos hd]
 have HC:=hide hc
 obtain ⟨n,hn⟩:∃ n,n=d.length:=⟨_,rfl⟩
 have hd2:(16384:Int)<(n:Int):=by omega
 rw[← hn]
 clear hc hn hd
 have g0:w.grownBy (w.alloc (.cells #[.int .i64 k,.slice ao n c] 42)) none:=zah (zab _ _) _
 go_enter Tryz.func91,Tryz.ntmps91
 go_wp2
 refine bodyPost_ret (v := .tuple #[.slice none 0 0,.int .i64 3]) (by simp[results,Tryz.results91,go_sem]) rfl ?_
 exact zdr.bad (uh HC) (by decide) g0
theorem zmw (w:World) (ao:Option Addr) (c:Nat) (d:List UInt8) (hd:d.length≤16384):Calls Tryz.prog 91 #[.agg #[.int .i64 1,.slice ao d.length c]] w fun e w'=>zdr w w' 1 d e:=by
 have hc:zau 1 d=0:=by unfold zau;rw[if_neg (by omega),if_neg (by omega)];rfl
 have hl:zbm 1 d=[]:=by unfold zbm;rw[hc];rfl
 obtain ⟨HC,HL⟩:=zh2 hc hl
 obtain ⟨n,hn⟩:∃ n,n=d.length:=⟨_,rfl⟩
 have hd2:¬ (16384:Int)<(n:Int):=by omega
 rw[← hn]
 clear hc hn hd hl
 have g0:w.grownBy (w.alloc (.cells #[.int .i64 1,.slice ao n c] 42)) none:=zah (zab _ _) _
 go_enter Tryz.func91,Tryz.ntmps91
 go_wp2
 refine bodyPost_ret (v := .tuple #[.slice none 0 0,.int .i64 0]) (by simp[results,Tryz.results91,go_sem]) rfl ?_
 exact ⟨_,0,rfl,(uh HC).symm,by rw[uh HL];exact World.ownsRow_nil _ _ _ _,g0⟩
theorem zd9 {w:World} {ops:Array Oper} {rest:List Oper} {o:Oper} {a:Act} {Q:Exit→Act→World→Prop} (hgd:o.guard=none) (s x:Operand)
  (ho:o.op = .call { callee := .builtin .append,args := #[s,x],argTypes := #[29,29] })
  (base:Nat) (v:Value) (n:Nat) (xs:List Value) (hs:a.eval s=v) (hown:w.ownsRow base 33 32 v n xs)
  (ao:Option Addr) (c:Nat) (ps:List (List UInt8)) (hP:Ids w ao c ps) (hx:a.eval x = .slice ao ps.length c) (hn:n+ps.length≤100000) (hbase:base≤w.heap.size)
  (h:∀ v' w',w'.ownsRow base 33 32 v' (n+ps.length) (xs++ps.flatMap (·.map bv))→w.grownBy w' v.ownBlock→wpList Tryz.prog ops Q rest (a.put o.dst v') w'):wpList Tryz.prog ops Q (o::rest) a w:=by
 obtain ⟨i0,hi,hz0,hz1,hz2⟩:=info_parts zf6
 cases ao with
 | none =>
  have hz:=hP.zip rfl
  have hx0:ps=[]:=List.eq_nil_of_length_eq_zero hz.1
  have hc0:=hz.2
  subst hx0 hc0
  exact wpList_append_own_none hgd s x 29 ho base 33 i0 32 Tryz.underlying29 hi v n xs hs hown hx (h v w (by simpa using hown) (zab _ _))
 | some ad =>
  refine wpList_append_own w hgd s x 29 ho base 33 i0 _ 32 32 Tryz.underlying29 hi hz0 hz1 hz2 rfl (by decide) v n xs hs hown ad ps.length c (ps.flatMap (·.map bv)) hx (zby _ 32 ps (fun x hx=>by simp[hP.ids x hx])) ?_ ?_ (by unfold maxLen;omega) (by omega) hbase (fun v' w' q1 q2 _=>h v' w' q1 q2)
  ·intro j u hu
   have hl:=zby (fun x:List UInt8=>x.map bv) 32 ps (fun x hx=>by simp[hP.ids x hx])
   have hj:=(List.getElem?_eq_some_iff.1 hu).1
   rw[hl] at hj
   have hq:j / 32<ps.length:=by omega
   have hs2:=hP.shape ad rfl (by omega)
   have hr:=hP.row ad rfl (j / 32) hq
   rw[show j=j / 32*32+j % 32 by omega,zjw (fun x:List UInt8=>x.map bv) 32 ps (fun x hx=>by simp[hP.ids x hx]) (j / 32) (j % 32) hq (by omega)] at hu
   have h5:=hr (j % 32) u hu
   obtain ⟨b,o,sp⟩:=ad
   simp only at hs2 h5
   subst hs2
   rw[Addr.add_lit]
   rw[show o+j=o+j / 32*32+j % 32 by omega]
   exact h5
  ·intro u hu
   obtain ⟨x,_,hx⟩:=List.mem_flatMap.1 hu
   exact za6 _ u hx
theorem zvc (es:List EntL) (j:Nat) (hj:j<es.length):((es.take (j+1)).map (·.id)).flatMap (·.map bv)=((es.take j).map (·.id)).flatMap (·.map bv)++es[j].id.map bv:=by
 rw[List.take_succ_eq_append_getElem hj,List.map_append,List.flatMap_append]
 simp only[List.map_cons,List.map_nil,List.flatMap_cons,List.flatMap_nil,List.append_nil]
theorem zn4 (k:Int) (d:List UInt8):(telT k d).2.length≤32:=by
 unfold telT
 split
 ·split
  ·unfold zbz
   simp only[zka]
   exact Nat.min_le_right _ _
  ·exact Nat.zero_le _
 ·exact Nat.zero_le _
set_option maxHeartbeats 4000000 in
theorem zmx (w:World) (ao:Option Addr) (c:Nat) (d:List UInt8) (hb:Bts w ao c d) (hd:d.length≤16384):Calls Tryz.prog 91 #[.agg #[.int .i64 2,.slice ao d.length c]] w fun e w'=>zdr w w' 2 d e:=by
 obtain ⟨k1,k2,k3⟩:=zyz d hd
 obtain ⟨n,hn⟩:∃ n,n=d.length:=⟨_,rfl⟩
 have hd2:¬ (16384:Int)<(n:Int):=by omega
 obtain ⟨W0,hW0,hB0,g0⟩:∃ W1,W1=w.alloc (.cells #[.int .i64 2,.slice ao n c] 42)∧Blk W1 w.heap.size 42 [.int .i64 2,.slice ao n c]∧w.grownBy W1 none:=zag w _ _
 have c0:=hB0.cell 0
 have c1:=hB0.cell 1
 simp only[List.getElem?_cons_zero,List.getElem?_cons_succ] at c0 c1
 have ct:=zpw W0 2 ao c d (hb.kept g0 (fun _ e=>by cases e)) (by omega)
 obtain ⟨t,ht⟩:∃ t,t=telT 2 d:=⟨_,rfl⟩
 rw[← ht] at ct k1 k2 k3
 rw[← hn] at ct ⊢
 have hids:∀ e∈t.2,e.id.length=32:=by
  rw[ht]
  unfold telT
  split
  ·split
   ·exact zim d
   ·intro e he;simp at he
  ·intro e he;simp at he
 have HLN:=hide (show t.2.length≤32 by rw[ht];exact zn4 2 d)
 obtain ⟨Z,hZ,hzv⟩:=zj6
 obtain ⟨HW0,HK1,HK2,HK3,HIDS,HZ⟩:=zh6 hW0 k1 k2 k3 hids hZ
 have HG0:=hide g0
 clear k1 k2 k3 hn hW0 hB0 g0 hb hd ht hids hZ
 go_enter Tryz.func91,Tryz.ntmps91
 go_wp2_with (rw[← uh HW0])
 refine ct.mono ?_
 rintro e w1 ⟨v1,y,rfl,hy,ho1,g1⟩
 obtain ⟨eo,ec,hv1⟩:=zbd ho1
 subst hv1
 have hE1:Ens w1 eo ec t.2:=by
  obtain ⟨ao2,c2,e1,e2⟩:=Ens.own ho1 (uh HIDS)
  injection e1 with e3 e4 e5
  subst e3 e5
  exact e2
 have G1:=tn (uh HG0) g1
 obtain ⟨es,hes⟩:∃ es,es=t.2:=⟨_,rfl⟩
 rw[← hes] at hE1
 rw[← hes]
 obtain ⟨m,hm⟩:∃ m,m=es.length:=⟨_,rfl⟩
 rw[← hm]
 have hm9:m≤32:=by rw[hm,hes];exact uh HLN
 obtain ⟨HE,HM,HES,HY,HG1⟩:=zh5 hE1 hm hes hy G1
 clear ct ho1 hE1 g1 hes hm hy c0 c1 G1
 go_wp2
 go_loopw [4,34] (fun v i wr=>∃ j:Nat,i = .int .i64 j∧j≤m∧wr.ownsRow w1.heap.size 33 32 v j (((es.take j).map (·.id)).flatMap (·.map bv))∧w1.grownBy wr none) (fun _ i _=>m - (intOf i).toNat)
 case atStart=>exact ⟨0,rfl,Nat.zero_le _,World.ownsRow_nil _ _ _ _,zab _ _⟩
 case round =>
  obtain ⟨j,rfl,hj,ho,hg⟩:=hrel
  by_cases hlt:j<m
  ·have hlt' : j<es.length:=by have:=uh HM;omega
   obtain ⟨b,o,hao,hrow⟩:=(uh HE).at j hlt'
   have hr:=zaf (hrow j hlt') hg (by simp)
   have hid:=(uh HE).ids _ (List.getElem_mem hlt')
   have hnew:=zvc es j hlt'
   obtain ⟨E,hEE⟩:∃ E,E=es[j]:=⟨_,rfl⟩
   rw[← hEE] at hr hid hnew
   clear hrow hEE hlt'
   subst hao
   obtain ⟨nm,D,id⟩:=E
   simp only at hid hnew
   obtain ⟨EC,hEC⟩:∃ L,L=enC ⟨nm,D,id⟩:=⟨_,rfl⟩
   have hEl:EC.length=34:=by rw[hEC];exact zgt _ hid
   have hEo:EC.toArray.all (·.oneCell')=true:=by rw[hEC];exact all_oneCell_toArray (zgu _)
   obtain ⟨W,hW,hB,gW⟩:=zbl wr 123 Z EC
   have hRI:W.rangeAt wr.heap.size 2 (id.map bv):=by
    have:=zal hB
    rw[hEC] at this
    simpa using zyq this
   rw[← hEC] at hr
   obtain ⟨IC,hIC⟩:∃ I,I=id.map bv:=⟨_,rfl⟩
   have hbs:=zfl id hid W
   rw[← hIC] at hRI hbs hnew
   have hIl:IC.length=32:=by rw[hIC,List.length_map,hid]
   have hI1:∀ u∈IC,u.oneCell'=true:=by rw[hIC];exact za6 _
   obtain ⟨W5,hW5,hB5,g5⟩:=zag W 33 IC
   have ho5:=zbg (zbg ho gW (fun x e=>by cases e)) g5 (fun x e=>by cases e)
   have G5:=tn (tn hg gW) g5
   obtain ⟨HW,HW5,HEO,HNW,HRI,HBS⟩:=zh6 hW hW5 hEo hnew hRI hbs
   obtain ⟨HIL,HI1,HB5,HO5,HG5⟩:=zh5 hIl hI1 hB5 ho5 G5
   have hiE:(Tryz.prog.info? 123).map (·.size)=some EC.length:=by rw[hEl];exact zj4
   have HIE:=hide hiE
   have hiI:(Tryz.prog.info? 33).map (·.size)=some IC.length:=by rw[hIl];exact zat
   have HII:=hide hiI
   have hZE:Z.size=EC.toArray.size:=by rw[uh HZ];simp[hEl]
   have HZE:=hide hZE
   have hj9:j≤100000:=by omega
   clear hW hB hEC hEo hnew hRI hIC hbs hIl hI1 hW5 hB5 g5 ho5 G5 hiE hiI hZE ho hg gW hid hEl
   go_wp2_with (first
    | (refine wpList_load_mid rfl 123 _ rfl b (o+j*34) rfl EC _ hr Tryz.underlying123 rfl (uh HIE) ?_;clear hr)
    | (refine wpList_store_row rfl 123 _ _ rfl wr.heap.size EC.toArray rfl rfl _ _ (heap_alloc_new _ _) (by simpa using uh HIE) (uh HZE) (uh HEO) ?_;rw[← uh HW])
    | (refine wpList_load_mid rfl 33 _ rfl wr.heap.size 2 rfl IC _ (uh HRI) Tryz.underlying33 rfl (uh HII) ?_)
    | (refine zaq rfl 29 _ rfl (.agg IC.toArray) _ rfl (uh HBS) ?_;rw[← uh HW5])
    | (refine zb8 rfl _ _ rfl w1.heap.size _ _ _ rfl (uh HO5) _ IC (uh HB5) (uh HIL) (uh HI1) rfl hj9 (uh HG5).size ?_;intro v6 w6 ho6 g6;have HO6:=hide ho6;have HG6:=hide (zae (uh HG5) g6 (fun x e=>Or.inl ((uh HO5).lt x e).1));clear ho6 g6 HO5 HG5))
   go_roundw
   case rel =>
    refine ⟨j+1,by go_num,by omega,?_,uh HG6⟩
    rw[uh HNW]
    exact uh HO6
   case measure=>simp[intOf];omega
  ·have hjn:j=es.length:=by have:=uh HM;omega
   have hfin:wr.ownsRow w.heap.size 33 32 u4 (es.map (·.id)).length ((es.map (·.id)).flatMap (·.map bv)):=by
    have h1:=za7 ho (uh HG1).size
    rw[hjn,List.take_of_length_le (Nat.le_refl _)] at h1
    rw[List.length_map];exact h1
   have HF:=hide hfin
   have HG:=hide (tn (uh HG1) hg)
   clear hjn hfin ho hg
   rcases (uh HK3) with h0 | ⟨h11,hnil⟩
   ·have hy0:y=0:=by rw[uh HY,h0]
    subst hy0
    have hl:zbm 2 d=es.map (·.id):=by rw[uh HK2 h0,uh HES]
    have hc:zau 2 d=0:=by rw[uh HK1,h0]
    obtain ⟨HLL,HCC⟩:=zh2 hl hc
    clear hl hc h0
    go_wp2
    refine bodyPost_ret (v := .tuple #[u4,.int .i64 0]) (by simp[results,Tryz.results91,go_sem]) rfl ?_
    exact ⟨u4,0,rfl,(uh HCC).symm,by rw[uh HLL];exact uh HF,uh HG⟩
   ·have hy0:y=11:=by rw[uh HY,h11]
    subst hy0
    have hc:zau 2 d=11:=by rw[uh HK1,h11]
    have HCC:=hide hc
    clear hc h11 hnil
    go_wp2
    refine bodyPost_ret (v := .tuple #[.slice none 0 0,.int .i64 11]) (by simp[results,Tryz.results91,go_sem]) rfl ?_
    exact zdr.bad (uh HCC) (by decide) (uh HG)
theorem zll (V:World) (base:Nat) (IC:List Value) (hb:base≤V.heap.size) (hl:IC.length=32):(V.alloc (.cells IC.toArray 33)).ownsRow base 33 32 (.slice (some ⟨V.heap.size,0,none⟩) 1 1) 1 IC :=
 ⟨by simp[hl],.inr ⟨V.heap.size,1,IC.toArray,rfl,hb,heap_alloc_new V _,Nat.le_refl _,by decide,by simp[hl],by simp[hl,List.take_of_length_le]⟩⟩
set_option maxHeartbeats 4000000 in
theorem zp0 (w:World) (ao:Option Addr) (c:Nat) (d:List UInt8) (hb:Bts w ao c d) (hd:d.length≤16384):Calls Tryz.prog 91 #[.agg #[.int .i64 3,.slice ao d.length c]] w fun e w'=>zdr w w' 3 d e:=by
 obtain ⟨k1,k2,k3,k4,k5,k6⟩:=zy0 d hd
 obtain ⟨n,hn⟩:∃ n,n=d.length:=⟨_,rfl⟩
 have hd2:¬ (16384:Int)<(n:Int):=by omega
 obtain ⟨Z,hZ⟩:∃ Z:List Value,Z=chC zer none 0:=⟨_,rfl⟩
 have hzv:∀ w,(zeroValue 70).run Tryz.prog w = .ok (.agg Z.toArray) w:=fun w=>by rw[hZ];kernel_rfl
 have hZl:Z.length=36:=by rw[hZ];rfl
 obtain ⟨W0,hW0,hB0,g0⟩:∃ W1,W1=w.alloc (.cells #[.int .i64 3,.slice ao n c] 42)∧Blk W1 w.heap.size 42 [.int .i64 3,.slice ao n c]∧w.grownBy W1 none:=zag w _ _
 obtain ⟨W1,hW1,hB1,g1⟩:∃ W1,W1=W0.alloc (.cells Z.toArray 70)∧Blk W1 W0.heap.size 70 Z∧W0.grownBy W1 none:=zag W0 _ _
 have hs0:W0.heap.size=w.heap.size+1:=by rw[hW0];simp
 rw[hs0] at hB1
 have hBo:=hB0.kept g1 (by simp)
 have b0:=hBo.cell 0
 have b1:=hBo.cell 1
 simp only[List.getElem?_cons_zero,List.getElem?_cons_succ] at b0 b1
 have G1:=tn g0 g1
 have ct:=zdc W1 3 ao c d (hb.kept G1 (fun _ e=>by cases e)) (by omega)
 obtain ⟨t,ht⟩:∃ t,t=telC 3 d:=⟨_,rfl⟩
 rw[← ht] at ct k1 k2 k3 k4 k5 k6
 rw[← hn] at ct ⊢
 have hW:W1=(w.alloc (.cells #[.int .i64 3,.slice ao n c] 42)).alloc (.cells Z.toArray 70):=by rw[hW1,hW0]
 obtain ⟨HW1,HK1,HK2,HK3,HK4,HK5⟩:=zh6 hW k1 k2 k3 k4 k5
 obtain ⟨HK6,HB1,HG1,HZL⟩:=zh4 k6 hB1 G1 hZl
 clear k1 k2 k3 k4 k5 k6 hn hW0 hB0 g0 hb hd ht hZ hW1 hW hBo g1 hs0 hB1 G1 hZl
 go_enter Tryz.func91,Tryz.ntmps91
 go_wp2_with (rw[← uh HW1])
 refine ct.mono ?_
 rintro e w2 ⟨po,pc,y,rfl,hy,ho2,g2⟩
 have hBp:=(uh HB1).kept g2 (by simp)
 have G2:=tn (uh HG1) g2
 obtain ⟨C,hC⟩:∃ C,C=chC t.2 po pc:=⟨_,rfl⟩
 rw[← hC]
 have hCl:C.length=36:=by rw[hC];exact zd0 _ _ _ (uh HK4)
 have hCo:C.toArray.all (·.oneCell')=true:=by rw[hC];exact all_oneCell_toArray (zeg _ _ _)
 obtain ⟨w3,hw3⟩:∃ V,V=w2.setRow (w.heap.size+1) C.toArray:=⟨_,rfl⟩
 have hB3:Blk w3 (w.heap.size+1) 70 C:=by rw[hw3];exact hBp.row _
 have G3:w.grownBy w3 none:=by rw[hw3];exact zam G2 _ (Or.inl (Nat.le_succ _))
 have hrT:w3.rangeAt (w.heap.size+1) 0 (t.2.tree.map bv):=by
  have h1:=zal hB3
  rw[hC] at h1
  exact zj5 h1
 obtain ⟨IC,hIC⟩:∃ I,I=t.2.tree.map bv:=⟨_,rfl⟩
 have hbs:=zfl t.2.tree (uh HK4) w3
 rw[← hIC] at hrT hbs
 have hIl:IC.length=32:=by rw[hIC,List.length_map,uh HK4]
 obtain ⟨W5,hW5,hB5,g5⟩:=zag w3 33 IC
 have ho5:W5.ownsRow w3.heap.size 33 32 (.slice (some ⟨w3.heap.size,0,none⟩) 1 1) 1 IC:=by rw[hW5];exact zll w3 w3.heap.size IC (Nat.le_refl _) hIl
 have G5:=tn G3 g5
 have hiC:(Tryz.prog.info? 70).map (·.size)=some C.toArray.size:=by rw[show C.toArray.size=36 by simpa using hCl];exact zbv
 have hZC:Z.toArray.size=C.toArray.size:=by have:=uh HZL;simp[this,hCl]
 have hiI:(Tryz.prog.info? 33).map (·.size)=some IC.length:=by rw[hIl];exact zat
 have hcp:W5.cell? ⟨w.heap.size+1,32,none⟩=some (.slice po t.2.pars.length pc):=by
  rw[(hB3.kept g5 (by simp)).cell 32,hC,(zev _ _ _ (uh HK4)).1]
 have hO3:w3.ownsRow w.heap.size 33 32 (.slice po t.2.pars.length pc) t.2.pars.length (t.2.pars.flatMap (·.map bv)):=by
  rw[hw3];exact zb3 (za7 ho2 (uh HG1).size) hBp (by decide) _
 have hP5:Ids W5 po pc t.2.pars:=by
  obtain ⟨ao2,c2,e1,e2⟩:=Ids.own (zbg hO3 g5 (fun x e=>by cases e)) (uh HK5)
  injection e1 with e3 e4 e5
  subst e3 e5
  exact e2
 have hp9:1+t.2.pars.length≤100000:=by have:=uh HK6;omega
 obtain ⟨ps,hps⟩:∃ ps,ps=t.2.pars:=⟨_,rfl⟩
 rw[← hps] at hcp hP5 hp9
 obtain ⟨HPS,HP5,HIC,HZC,HII,HCO⟩:=zh6 hps hP5 hiC hZC hiI hCo
 obtain ⟨HW3,HW5,HBP,HO5,HG5⟩:=zh5 hw3 hW5 hBp ho5 G5
 have HS5:=hide g5.size
 obtain ⟨HIE,HY,HBS⟩:=zh3 hIC hy hbs
 have HS3:=hide G3.size
 clear hiC hZC hiI hCo hw3 hW5 hBp ho5 G5 hIC hy hbs hB5 g5 hIl hCl hC hB3 G3 G2 ct b0 b1 g2 ho2 hO3 hP5 hps
 rcases (uh HK3) with h0 | h11
 ·have hy0:y=0:=by rw[uh HY,h0]
  subst hy0
  have hl:zbm 3 d=t.2.tree::t.2.pars:=uh HK2 h0
  have hc:zau 3 d=0:=by rw[uh HK1,h0]
  obtain ⟨HLL,HCC⟩:=zh2 hl hc
  clear hl hc h0
  go_wp2_with (first
   | (refine wpList_store_row rfl 70 _ _ rfl (w.heap.size+1) C.toArray rfl rfl _ _ (uh HBP) (uh HIC) (uh HZC) (uh HCO) ?_;rw[← uh HW3])
   | (refine wpList_load_mid rfl 33 _ rfl (w.heap.size+1) 0 rfl IC _ hrT Tryz.underlying33 rfl (uh HII) ?_;clear hrT)
   | (refine zaq rfl 29 _ rfl (.agg IC.toArray) _ rfl (uh HBS) ?_;rw[← uh HW5])
   | (refine zd9 rfl _ _ rfl w3.heap.size _ _ _ rfl (uh HO5) po pc ps (uh HP5) rfl hp9 (uh HS5) ?_;intro v6 w6 ho6 g6;have HO6:=hide ho6;have HG6:=hide (zae (uh HG5) g6 (fun x e=>Or.inl (Nat.le_trans (uh HS3) ((uh HO5).lt x e).1)));clear ho6 g6))
  refine bodyPost_ret (v := .tuple #[v6,.int .i64 0]) (by simp[results,Tryz.results91,go_sem]) rfl ?_
  refine ⟨v6,0,rfl,(uh HCC).symm,?_,uh HG6⟩
  rw[uh HLL,← uh HPS,List.length_cons,List.flatMap_cons,← uh HIE,Nat.add_comm]
  exact za7 (uh HO6) (uh HS3)
 ·have hy0:y=11:=by rw[uh HY,h11]
  subst hy0
  have hc:zau 3 d=11:=by rw[uh HK1,h11]
  have HCC:=hide hc
  clear hc h11
  go_wp2_with (first
   | (refine wpList_store_row rfl 70 _ _ rfl (w.heap.size+1) C.toArray rfl rfl _ _ (uh HBP) (uh HIC) (uh HZC) (uh HCO) ?_;rw[← uh HW3])
   | (refine wpList_load_mid rfl 33 _ rfl (w.heap.size+1) 0 rfl IC _ hrT Tryz.underlying33 rfl (uh HII) ?_;clear hrT)
   | (refine zaq rfl 29 _ rfl (.agg IC.toArray) _ rfl (uh HBS) ?_;rw[← uh HW5])
   | (refine zd9 rfl _ _ rfl w3.heap.size _ _ _ rfl (uh HO5) po pc ps (uh HP5) rfl hp9 (uh HS5) ?_;intro v6 w6 ho6 g6;have HO6:=hide ho6;have HG6:=hide (zae (uh HG5) g6 (fun x e=>Or.inl (Nat.le_trans (uh HS3) ((uh HO5).lt x e).1)));clear ho6 g6))
  refine bodyPost_ret (v := .tuple #[.slice none 0 0,.int .i64 11]) (by simp[results,Tryz.results91,go_sem]) rfl ?_
  exact zdr.bad (uh HCC) (by decide) (uh HG6)
set_option maxHeartbeats 4000000 in
theorem zp1 (w:World) (ao:Option Addr) (c:Nat) (d:List UInt8) (hb:Bts w ao c d) (hd:d.length≤16384):Calls Tryz.prog 91 #[.agg #[.int .i64 4,.slice ao d.length c]] w fun e w'=>zdr w w' 4 d e:=by
 obtain ⟨k1,k2,k3,k4⟩:=zy1 d hd
 obtain ⟨n,hn⟩:∃ n,n=d.length:=⟨_,rfl⟩
 have hd2:¬ (16384:Int)<(n:Int):=by omega
 obtain ⟨Z,hZ⟩:∃ Z:List Value,Z=mkC zhf:=⟨_,rfl⟩
 have hzv:∀ w,(zeroValue 126).run Tryz.prog w = .ok (.agg Z.toArray) w:=fun w=>by rw[hZ];kernel_rfl
 have hZl:Z.length=34:=by rw[hZ];rfl
 obtain ⟨W0,hW0,hB0,g0⟩:∃ W1,W1=w.alloc (.cells #[.int .i64 4,.slice ao n c] 42)∧Blk W1 w.heap.size 42 [.int .i64 4,.slice ao n c]∧w.grownBy W1 none:=zag w _ _
 obtain ⟨W1,hW1,hB1,g1⟩:∃ W1,W1=W0.alloc (.cells Z.toArray 126)∧Blk W1 W0.heap.size 126 Z∧W0.grownBy W1 none:=zag W0 _ _
 have hs0:W0.heap.size=w.heap.size+1:=by rw[hW0];simp
 rw[hs0] at hB1
 have hBo:=hB0.kept g1 (by simp)
 have b0:=hBo.cell 0
 have b1:=hBo.cell 1
 simp only[List.getElem?_cons_zero,List.getElem?_cons_succ] at b0 b1
 have G1:=tn g0 g1
 have ct:=zpx W1 4 ao c d (hb.kept G1 (fun _ e=>by cases e)) (by omega)
 obtain ⟨t,ht⟩:∃ t,t=telM 4 d:=⟨_,rfl⟩
 rw[← ht] at ct k1 k2 k3 k4
 rw[← hn] at ct ⊢
 have hW:W1=(w.alloc (.cells #[.int .i64 4,.slice ao n c] 42)).alloc (.cells Z.toArray 126):=by rw[hW1,hW0]
 obtain ⟨HW1,HK1,HK2,HK3,HK4⟩:=zh5 hW k1 k2 k3 k4
 skip
 obtain ⟨HB1,HG1,HZL⟩:=zh3 hB1 G1 hZl
 clear k1 k2 k3 k4 hn hW0 hB0 g0 hb hd ht hZ hW1 hW hBo g1 hs0 hB1 G1 hZl
 go_enter Tryz.func91,Tryz.ntmps91
 go_wp2_with (rw[← uh HW1])
 refine ct.mono ?_
 rintro e w2 ⟨y,rfl,hy,g2⟩
 have hBp:=(uh HB1).kept g2 (by simp)
 have G2:=tn (uh HG1) g2
 obtain ⟨C,hC⟩:∃ C,C=mkC t.2:=⟨_,rfl⟩
 rw[← hC]
 have hCl:C.length=34:=by rw[hC];exact zh0 _ (uh HK4)
 have hCo:C.toArray.all (·.oneCell')=true:=by rw[hC];exact all_oneCell_toArray (zh1 _)
 obtain ⟨w3,hw3⟩:∃ V,V=w2.setRow (w.heap.size+1) C.toArray:=⟨_,rfl⟩
 have hB3:Blk w3 (w.heap.size+1) 126 C:=by rw[hw3];exact hBp.row _
 have G3:w.grownBy w3 none:=by rw[hw3];exact zam G2 _ (Or.inl (Nat.le_succ _))
 have hrT:w3.rangeAt (w.heap.size+1) 0 (t.2.target.map bv):=by
  have h1:=zal hB3
  rw[hC] at h1
  exact zk5 h1
 obtain ⟨IC,hIC⟩:∃ I,I=t.2.target.map bv:=⟨_,rfl⟩
 have hbs:=zfl t.2.target (uh HK4) w3
 rw[← hIC] at hrT hbs
 have hIl:IC.length=32:=by rw[hIC,List.length_map,uh HK4]
 obtain ⟨W5,hW5,hB5,g5⟩:=zag w3 33 IC
 have ho5:W5.ownsRow w3.heap.size 33 32 (.slice (some ⟨w3.heap.size,0,none⟩) 1 1) 1 IC:=by rw[hW5];exact zll w3 w3.heap.size IC (Nat.le_refl _) hIl
 have G5:=tn G3 g5
 have hiC:(Tryz.prog.info? 126).map (·.size)=some C.toArray.size:=by rw[show C.toArray.size=34 by simpa using hCl];exact ze9
 have hZC:Z.toArray.size=C.toArray.size:=by have:=uh HZL;simp[this,hCl]
 have hiI:(Tryz.prog.info? 33).map (·.size)=some IC.length:=by rw[hIl];exact zat
 skip
 obtain ⟨HIC,HZC,HII,HCO,HW3,HW5⟩:=zh6 hiC hZC hiI hCo hw3 hW5
 obtain ⟨HBP,HO5,HG5⟩:=zh3 hBp ho5 G5
 have HS5:=hide g5.size
 obtain ⟨HIE,HY,HBS⟩:=zh3 hIC hy hbs
 have HS3:=hide G3.size
 clear hiC hZC hiI hCo hw3 hW5 hBp ho5 G5 hIC hy hbs hB5 g5 hIl hCl hC hB3 G3 G2 ct b0 b1 g2 
 rcases (uh HK3) with h0 | h11
 ·have hy0:y=0:=by rw[uh HY,h0]
  subst hy0
  have hl:zbm 4 d=[t.2.target]:=uh HK2 h0
  have hc:zau 4 d=0:=by rw[uh HK1,h0]
  obtain ⟨HLL,HCC⟩:=zh2 hl hc
  clear hl hc h0
  go_wp2_with (first
   | (refine wpList_store_row rfl 126 _ _ rfl (w.heap.size+1) C.toArray rfl rfl _ _ (uh HBP) (uh HIC) (uh HZC) (uh HCO) ?_;rw[← uh HW3])
   | (refine wpList_load_mid rfl 33 _ rfl (w.heap.size+1) 0 rfl IC _ hrT Tryz.underlying33 rfl (uh HII) ?_;clear hrT)
   | (refine zaq rfl 29 _ rfl (.agg IC.toArray) _ rfl (uh HBS) ?_;rw[← uh HW5]))
  refine bodyPost_ret (v := .tuple #[.slice (some ⟨w3.heap.size,0,none⟩) 1 1,.int .i64 0]) (by simp[results,Tryz.results91,go_sem]) rfl ?_
  refine ⟨_,0,rfl,(uh HCC).symm,?_,uh HG5⟩
  rw[uh HLL]
  simp only[List.length_cons,List.length_nil,List.flatMap_cons,List.flatMap_nil,List.append_nil,Nat.zero_add]
  rw[← uh HIE]
  exact za7 (uh HO5) (uh HS3)
 ·have hy0:y=11:=by rw[uh HY,h11]
  subst hy0
  have hc:zau 4 d=11:=by rw[uh HK1,h11]
  have HCC:=hide hc
  clear hc h11
  go_wp2_with (first
   | (refine wpList_store_row rfl 126 _ _ rfl (w.heap.size+1) C.toArray rfl rfl _ _ (uh HBP) (uh HIC) (uh HZC) (uh HCO) ?_;rw[← uh HW3])
   | (refine wpList_load_mid rfl 33 _ rfl (w.heap.size+1) 0 rfl IC _ hrT Tryz.underlying33 rfl (uh HII) ?_;clear hrT)
   | (refine zaq rfl 29 _ rfl (.agg IC.toArray) _ rfl (uh HBS) ?_;rw[← uh HW5]))
  refine bodyPost_ret (v := .tuple #[.slice none 0 0,.int .i64 11]) (by simp[results,Tryz.results91,go_sem]) rfl ?_
  exact zdr.bad (uh HCC) (by decide) (uh HG5)
theorem zjo (w:World) (k:Int) (ao:Option Addr) (c:Nat) (d:List UInt8) (hb:Bts w ao c d):Calls Tryz.prog 91 #[.agg #[.int .i64 k,.slice ao d.length c]] w fun e w'=>zdr w w' k d e:=by
 by_cases hk:k<1∨4<k
 ·exact zpy w k hk ao c d
 ·by_cases hd:16384<d.length
  ·exact zpz w k (by omega) (by omega) ao c d hd
  ·have h5:k=1∨k=2∨k=3∨k=4:=by omega
   rcases h5 with rfl | rfl | rfl | rfl
   ·exact zmw w ao c d (by omega)
   ·exact zmx w ao c d hb (by omega)
   ·exact zp0 w ao c d hb (by omega)
   ·exact zp1 w ao c d hb (by omega)
theorem zlm (w:World) (k:Int) (ao:Option Addr) (c:Nat) (d:List UInt8) (hb:Bts w ao c d):Calls Tryz.prog 63 #[.agg #[.int .i64 k,.slice ao d.length c]] w fun e w'=>e = .returned (.int .i64 (zau k d))∧w.grownBy w' none:=by
 obtain ⟨n,hn⟩:∃ n,n=d.length:=⟨_,rfl⟩
 have g0:w.grownBy (w.alloc (.cells #[.int .i64 k,.slice ao n c] 42)) none:=zah (zab _ _) _
 have cl:=zjo (w.alloc (.cells #[.int .i64 k,.slice ao n c] 42)) k ao c d (hb.kept g0 (fun _ e=>by cases e))
 rw[← hn] at cl ⊢
 obtain ⟨Y,hY⟩:∃ y,y=zau k d:=⟨_,rfl⟩
 rw[← hY]
 have HY:=hide hY
 clear hn hb hY
 go_enter Tryz.func63,Tryz.ntmps63
 go_wp2_with fail
 refine cl.mono ?_
 rintro e w2 ⟨v,y,rfl,hy,_,g2⟩
 rw[hy,← uh HY]
 clear hy cl
 go_wp2
 go_ret
 exact ⟨rfl,tn g0 g2⟩
theorem zp2 (w:World) (x:UInt8):∃ W,W=w.alloc (.cells #[.int .u8 ((x.toNat:Nat):Int)] 5)∧Bts W (some ⟨w.heap.size,0,none⟩) 1 [x]∧w.grownBy W none :=
 ⟨_,rfl,zci (l:=[x]) (zal (Blk.new w 5 [bv x])) (by show 1≤maxLen;decide),zah (zab _ _) _⟩
theorem zwy (k:Int):IntKind.u8.wrap k=(((UInt8.ofInt k).toNat:Nat):Int):=by
 rw[IntKind.wrap_u8]
 unfold UInt8.ofInt
 rw[UInt8.toNat_ofNat']
 omega
theorem zvd (w:World) (k:Int) (ao:Option Addr) (c:Nat) (d:List UInt8) (hb:Bts w ao c d) (hd:d.length≤35184372088832):Calls Tryz.prog 65 #[.agg #[.int .i64 k,.slice ao d.length c]] w fun e w'=>∃ v,e = .returned v∧NewB w w' v (putL k d)∧w.grownBy w' none:=by
 obtain ⟨n,hn⟩:∃ n,n=d.length:=⟨_,rfl⟩
 obtain ⟨W0,hW0,hB0,g0⟩:∃ W1,W1=w.alloc (.cells #[.int .i64 k,.slice ao n c] 42)∧Blk W1 w.heap.size 42 [.int .i64 k,.slice ao n c]∧w.grownBy W1 none:=zag w _ _
 obtain ⟨W1,hW1,hb1,g1⟩:=zp2 W0 (UInt8.ofInt k)
 have hcv:=zwy k
 have cs:=zoq W1 _ ao 1 c [UInt8.ofInt k] d hb1 (hb.kept (tn g0 g1) (fun _ e=>by cases e)) (by simp;omega)
 rw[show (([UInt8.ofInt k]:List UInt8)).length=1 from rfl,← hn] at cs
 rw[← hn]
 have hput:putL k d=[UInt8.ofInt k]++layS d:=rfl
 rw[← hput] at cs
 obtain ⟨P,hP⟩:∃ P,P=putL k d:=⟨_,rfl⟩
 rw[← hP] at cs ⊢
 obtain ⟨z,hz⟩:∃ z:Int,z=(((UInt8.ofInt k).toNat:Nat):Int):=⟨_,rfl⟩
 rw[← hz] at hcv hW1
 have hs0:W0.heap.size=w.heap.size+1:=by rw[hW0];simp
 rw[hs0] at cs
 have hW:W1=(w.alloc (.cells #[.int .i64 k,.slice ao n c] 42)).alloc (.cells #[.int .u8 z] 5):=by rw[hW1,hW0]
 have c1:=(hB0.kept g1 (by simp)).cell 1
 simp only[List.getElem?_cons_zero,List.getElem?_cons_succ] at c1
 have HW:=hide hW
 have G1:=tn g0 g1
 clear hW hW1 hW0 hz hP hput hb hb1 hB0 g0 g1 hs0 hd hn
 go_enter Tryz.func65,Tryz.ntmps65
 go_wp2_with (rw[← uh HW])
 refine cs.mono ?_
 rintro e w2 ⟨v2,rfl,hN2,g2⟩
 have HN:=hide hN2
 clear cs hN2 c1
 go_wp2
 go_ret
 exact ⟨_,rfl,NewB.later (uh HN) G1.size,tn G1 g2⟩
structure ObjR where
 kind:Nat
 data:List UInt8
 ao:Option Addr
 c:Nat
deriving Inhabited
def obC (r:ObjR):List Value:=[.int .i64 (r.kind:Int),.slice r.ao r.data.length r.c]
theorem zr9:(Tryz.prog.info? 42).map (fun i=>(i.zero,i.size,i.bytes))=some (some (.agg #[.int .i64 0,.slice none 0 0]),2,32):=by kernel_rfl
theorem zgz {w:World} {ops:Array Oper} {rest:List Oper} {o:Oper} {a:Act} {Q:Exit→Act→World→Prop} (hgd:o.guard=none) (s x:Operand)
  (ho:o.op = .call { callee := .builtin .append,args := #[s,x],argTypes := #[78,78] })
  (base:Nat) (v:Value) (n:Nat) (xs:List Value) (hs:a.eval s=v) (hown:w.ownsRow base 42 2 v n xs) (p:Nat) (EC:List Value) (hB:Blk w p 42 EC) (hEl:EC.length=2) (hE1:∀ u∈EC,u.oneCell'=true)
  (hx:a.eval x = .slice (some ⟨p,0,none⟩) 1 1) (hn:n≤100000) (hbase:base≤w.heap.size)
  (h:∀ v' w',w'.ownsRow base 42 2 v' (n+1) (xs++EC)→w.grownBy w' v.ownBlock→wpList Tryz.prog ops Q rest (a.put o.dst v') w'):wpList Tryz.prog ops Q (o::rest) a w:=by
 obtain ⟨i0,hi,hz0,hz1,hz2⟩:=info_parts zr9
 exact wpList_append_own w hgd s x 78 ho base 42 i0 _ 2 32 Tryz.underlying78 hi hz0 hz1 hz2 rfl (by decide) v n xs hs hown ⟨p,0,none⟩ 1 1 EC hx (by rw[hEl]) (fun j u hu=>World.news_of_block hB j u (by simpa using hu)) hE1 (by unfold maxLen;omega) (by omega) hbase (fun v' w' q1 q2 _=>h v' w' q1 q2)
theorem zxq {w a:World} {base n:Nat} {v:Value} {xs:List Value} (h:w.ownsRow base 42 2 v n xs) (g:w.grownBy a none):a.ownsRow base 42 2 v n xs :=
 h.kept g (by
  by_cases e:v.ownBlock=none
  ·exact Or.inl e
  ·exact Or.inr e)
theorem zy2 (k:Int) (ao:Option Addr) (n c:Nat) (V:World):(Instr.buildSlice 78 1 #[(0,.agg #[.int .i64 k,.slice ao n c])]).run Tryz.prog V = .ok (.slice (some ⟨V.heap.size,0,none⟩) 1 1) (V.alloc (.cells #[.int .i64 k,.slice ao n c] 42)):=by kernel_rfl
structure Objs (w:World) (base:Nat) (v:Value) (R:List ObjR):Prop where
 own:w.ownsRow base 42 2 v R.length (R.flatMap obC)
 bts:∀ r∈R,Bts w r.ao r.c r.data
 typ:∀ r∈R,∀ ad,r.ao=some ad→Typ w ad.block
theorem Objs.nil (w:World) (base:Nat):Objs w base (.slice none 0 0) []:=⟨World.ownsRow_nil w base _ 2,(fun _ e=>by cases e),(fun _ e=>by cases e)⟩
theorem Objs.none {w a:World} {base:Nat} {v:Value} {R:List ObjR} (h:Objs w base v R) (g:w.grownBy a Option.none):Objs a base v R :=
 ⟨zxq h.own g,fun r hr=>(h.bts r hr).kept g (fun _ e=>by cases e),fun r hr ad e=>(h.typ r hr ad e).kept g (by simp)⟩
theorem Objs.put {w a:World} {base:Nat} {v v2:Value} {R:List ObjR} (h:Objs w base v R) (r:ObjR) (hb:Bts w r.ao r.c r.data) (ht:∀ ad,r.ao=some ad→Typ w ad.block) (g:w.grownBy a v.ownBlock)
  (ho:a.ownsRow base 42 2 v2 (R.length+1) (R.flatMap obC++obC r)):Objs a base v2 (R++[r]):=by
 have ne:∀ x,v.ownBlock=some x→¬ Typ w x:=fun x e=>zcw h.own e (by decide)
 have all:∀ q∈R++[r],Bts w q.ao q.c q.data∧∀ ad,q.ao=some ad→Typ w ad.block:=by
  intro q hq
  rcases List.mem_append.1 hq with h1 | h1
  ·exact ⟨h.bts q h1,h.typ q h1⟩
  ·rw[List.mem_singleton.1 h1];exact ⟨hb,ht⟩
 refine ⟨by simpa using ho,fun q hq => ?_,fun q hq ad e => ?_⟩
 ·exact (all q hq).1.kept g (fun x e ad e2 e3=>ne x e (by rw[← e3];exact (all q hq).2 ad e2))
 ·exact ((all q hq).2 ad e).kept g (fun e2=>ne _ e2.symm ((all q hq).2 ad e))
theorem Objs.open {w:World} {base:Nat} {v:Value} {R:List ObjR} (h:Objs w base v R):∃ ao c,v = .slice ao R.length c∧∀ i (hi:i<R.length),∃ b o,ao=some ⟨b,o,Option.none⟩∧w.cell? ⟨b,o+i*2,Option.none⟩=some (.int .i64 (R[i].kind:Int))∧w.cell? ⟨b,o+i*2+1,Option.none⟩=some (.slice R[i].ao R[i].data.length R[i].c):=by
 obtain ⟨ao,c,h1,h2,h3,h4,h5,h6⟩:=ze8 obC 2 h.own (fun _ _=>rfl)
 refine ⟨ao,c,h1,fun i hi => ?_⟩
 cases ao with
 | none=>have:=(h2 rfl).1;omega
 | some ad =>
  obtain ⟨b,o,sp⟩:=ad
  have hs:sp=Option.none:=(h5 _ rfl).1
  subst hs
  have hr:=h6 _ rfl i hi
  exact ⟨b,o,rfl,hr 0 _ rfl,hr 1 _ rfl⟩
end Go.Proofs.YthhnfloohbdaiaaGreatDoor
