/- Lemmas. -/
import Derived.Test.YthhnfloohbdaiaaGreatDoorRCheck
import Derived.Test.YthhnfloohbdaiaaGreatDoorOObj
import Derived.Test.YthhnfloohbdaiaaGreatDoorGTexts
namespace Go.Proofs.YthhnfloohbdaiaaGreatDoor
open Go.RowKit
set_option maxRecDepth 100000
theorem zd6 {P:Program} {fn:Func} {p u x:Tmp} {ty:TypeId} (h:fn.results = #[.cell p ty,.tmp u,.tmp x]) (tmps:Array Value) (w:World) (g:Nat) (t:TypeId) (cs:Array Value) (fr:Nat × Nat) (d:TypeDesc)
  (hp:tmps.getD p undef = .pointer (some ⟨g,0,none⟩)) (hg:w.heap[g]? = some (.cells cs t fr))
  (hu:P.underlying ty=some d) (hd:(match d with | .struct _ | .array _ _=>true | _=>false)=true) (hi:(P.info? ty).map (·.size)=some cs.size) :
  (results fn tmps).run P w = .ok (.tuple #[.agg cs,tmps.getD u undef,tmps.getD x undef]) w:=by
 have key:(results fn tmps).run P w=((asAddr (tmps.getD p undef)).run P w).andThen fun a w1=>((loadVar ty a).run P w1).andThen fun v w2 => .ok (.tuple #[v,tmps.getD u undef,tmps.getD x undef]) w2:=by
  simp only[results,h]
  simp[Sem.run_bind,Result.andThen]
 rw[key,hp]
 simp[asAddr,run_loadVar_row w g t ty cs fr d hg hu hd hi]
theorem zjc {P:Program} {fn:Func} {p u x:Tmp} {ty:TypeId} (h:fn.results = #[.tmp u,.cell p ty,.tmp x]) (tmps:Array Value) (w:World) (g:Nat) (t:TypeId) (cs:Array Value) (fr:Nat × Nat) (d:TypeDesc)
  (hp:tmps.getD p undef = .pointer (some ⟨g,0,none⟩)) (hg:w.heap[g]? = some (.cells cs t fr))
  (hu:P.underlying ty=some d) (hd:(match d with | .struct _ | .array _ _=>true | _=>false)=true) (hi:(P.info? ty).map (·.size)=some cs.size) :
  (results fn tmps).run P w = .ok (.tuple #[tmps.getD u undef,.agg cs,tmps.getD x undef]) w:=by
 have key:(results fn tmps).run P w=((asAddr (tmps.getD p undef)).run P w).andThen fun a w1=>((loadVar ty a).run P w1).andThen fun v w2 => .ok (.tuple #[tmps.getD u undef,v,tmps.getD x undef]) w2:=by
  simp only[results,h]
  simp[Sem.run_bind,Result.andThen]
 rw[key,hp]
 simp[asAddr,run_loadVar_row w g t ty cs fr d hg hu hd hi]
theorem zx2 (m:MrkL):∀ u∈rmC m,u.oneCell'=true:=by
 intro u hu
 simp only[rmC,List.mem_cons,List.not_mem_nil,or_false] at hu
 rcases hu with rfl | rfl | rfl <;> rfl
theorem zx3 (c:ChgL) (po:Option Addr) (pc:Nat):∀ u∈rcC c po pc,u.oneCell'=true:=by
 intro u hu
 simp only[rcC,List.mem_cons,List.not_mem_nil,or_false] at hu
 rcases hu with rfl | rfl | rfl | rfl | rfl <;> rfl
theorem zsx (d:List UInt8):za4 1 d=[]:=by
 unfold za4
 by_cases h:zat 1 d≠0
 ·rw[if_pos h]
 ·rw[if_neg h];rfl
theorem zsy {d:List UInt8} (h:zat 2 d=0):za4 2 d=(rtT 2 d).2.map (·.id):=by
 unfold za4
 rw[if_neg (by rw[h];simp)]
 have hs:(zdq d).isSome:=by
  unfold zat at h
  rw[if_neg (by omega)] at h
  by_cases h2:16384<d.length
  ·rw[if_pos h2] at h;exact absurd h (by decide)
  ·rw[if_neg h2,if_pos rfl] at h
   unfold errO at h
   by_cases h3:(zdq d).isSome
   ·exact h3
   ·rw[if_neg h3] at h;exact absurd h (by decide)
 unfold zdq at hs ⊢
 by_cases h4:za9 (zbx d)=(0,d)
 ·simp[rtT,h4]
 ·rw[if_neg h4] at hs;exact absurd hs (by decide)
theorem zsz {d:List UInt8} (h:zat 3 d=0):za4 3 d=(rtC 3 d).2.tree::(rtC 3 d).2.pars:=by
 unfold za4
 rw[if_neg (by rw[h];simp)]
 have hs:(zey d).isSome:=by
  unfold zat at h
  rw[if_neg (by omega)] at h
  by_cases h2:16384<d.length
  ·rw[if_pos h2] at h;exact absurd h (by decide)
  ·rw[if_neg h2,if_neg (by decide),if_pos rfl] at h
   unfold errO at h
   by_cases h3:(zey d).isSome
   ·exact h3
   ·rw[if_neg h3] at h;exact absurd h (by decide)
 unfold zey at hs ⊢
 by_cases h4:zb6 (zbj d)=(0,d)
 ·simp[rtC,h4]
 ·rw[if_neg h4] at hs;exact absurd hs (by decide)
theorem zs0 {d:List UInt8} (h:zat 4 d=0):za4 4 d=[(rtM 4 d).2.target]:=by
 unfold za4
 rw[if_neg (by rw[h];simp)]
 have hs:(zg4 d).isSome:=by
  unfold zat at h
  rw[if_neg (by omega)] at h
  by_cases h2:16384<d.length
  ·rw[if_pos h2] at h;exact absurd h (by decide)
  ·rw[if_neg h2,if_neg (by decide),if_neg (by decide),if_pos rfl] at h
   unfold errO at h
   by_cases h3:(zg4 d).isSome
   ·exact h3
   ·rw[if_neg h3] at h;exact absurd h (by decide)
 unfold zg4 at hs ⊢
 by_cases h4:zco (zby d)=(0,d)
 ·simp[rtM,h4]
 ·rw[if_neg h4] at hs;exact absurd hs (by decide)
theorem zew {w:World} {ops:Array Oper} {o:Oper} {a:Act} {K:Act→World→Prop} {Q:Exit→Act→World→Prop} {E:Prop} (hw:Region.wanted o (yielded ops a.tmps)=true) (s x:Operand)
  (ho:o.op = .call { callee := .builtin .append,args := #[s,x],argTypes := #[25,25] })
  (base base2:Nat) (v v2:Value) (L M:List (List UInt8)) (hs:a.eval s=v) (hown:Stg w base v L) (hx:a.eval x=v2) (h2:Stg w base2 v2 M) (hn:L.length+M.length≤1000000) (hbase:base≤w.heap.size)
  (h:∀ v' w',Stg w' base v' (L++M)→w.grownBy w' v.ownBlock→K (a.put o.dst v') w') :
  if Region.wanted o (yielded ops a.tmps)=true then Oper.wp Tryz.prog o a w K Q else E:=by
 rw[if_pos hw]
 obtain ⟨i0,hi,hz0,hz1,hz2⟩:=info_parts zgb
 rcases h2.2 with ⟨e1,e2⟩ | ⟨g,cap,cur,e1,hg,hh,h3,h4,h5,h6⟩
 ·have hM:M=[]:=List.eq_nil_of_length_eq_zero e2
  subst hM
  rw[e1] at hx
  have hrun:=run_append_owned_none (P:=Tryz.prog) (w:=w) base 25 o.type 9 i0 1 Tryz.underlying25 hi v L.length (L.map stv) hown
  unfold Oper.wp
  simp[execOp,ho,resolve,invoke,builtin,hs,hx,hrun,Result.andThen]
  exact h v w (by simpa using hown) (zaa _ _)
 ·rw[e1] at hx
  exact wp_append_own w s x 25 ho base 9 i0 (.string ⟨#[]⟩) 1 16 Tryz.underlying25 hi hz0 hz1 hz2 rfl (by decide) v L.length (L.map stv) hs hown ⟨g,0,none⟩ M.length cap (M.map stv) hx (by simp)
   (fun j u hj=>by
    have hj2:j<M.length:=by
     have:=(List.getElem?_eq_some_iff.1 hj).1
     simpa using this
    have h7:(cur.toList.take (M.length*1))[j]? = (M.map stv)[j]? := by rw[h6]
    rw[List.getElem?_take_of_lt (by omega),hj] at h7
    rw[Addr.add_mid]
    simp[World.cell?,hh] at h7 ⊢
    exact h7)
   (zro M) (by unfold maxLen;omega) (by omega) hbase
   (fun v' w' q1 q2 _=>h v' w' (by unfold Stg;simpa using q1) q2)
theorem zx4 {w:World} {p base:Nat} {y:List UInt8} (h:Blk w p 9 [.string (str y)]) (hp:base≤p):Stg w base (.slice (some ⟨p,0,none⟩) 1 1) [y]:=by
 exact ⟨rfl,Or.inr ⟨p,1,#[.string (str y)],rfl,hp,h,Nat.le_refl _,by unfold maxLen;omega,rfl,rfl⟩⟩
theorem zs1:∃ Z:Array Value,Z.size=5∧∀ w,(zeroValue 151).run Tryz.prog w = .ok (.agg Z) w:=⟨_,rfl,fun w=>(by kernel_rfl:(zeroValue 151).run Tryz.prog w = .ok (.agg #[.string ⟨#[]⟩,.slice none 0 0,.int .u64 0,.string ⟨#[]⟩,.string ⟨#[]⟩]) w)⟩
theorem zs2:∃ Z:Array Value,Z.size=3∧∀ w,(zeroValue 170).run Tryz.prog w = .ok (.agg Z) w:=⟨_,rfl,fun w=>(by kernel_rfl:(zeroValue 170).run Tryz.prog w = .ok (.agg #[.string ⟨#[]⟩,.string ⟨#[]⟩,.string ⟨#[]⟩]) w)⟩
set_option maxHeartbeats 8000000 in
theorem zqf (w:World) (k:Int) (d:List UInt8) (hd:d.length≤100000):Calls Tryz.prog 80 #[.agg #[.int .i64 k,.string (str d)]] w fun e w'=>∃ v,e = .returned v∧Stg w' w.heap.size v (za4 k d)∧w.grownBy w' none:=by
 obtain ⟨W0,hW0,hB0,g0⟩:∃ W,W=w.alloc (.cells #[.int .i64 k,.string (str d)] 47)∧Blk W w.heap.size 47 [.int .i64 k,.string (str d)]∧w.grownBy W none:=zae w _ _
 have c0:=hB0.cell 0
 have c1:=hB0.cell 1
 simp only[List.getElem?_cons_zero,List.getElem?_cons_succ] at c0 c1
 have cc:=zhc W0 k d hd
 have ct:∀ V:World,_:=fun V=>zi0 V k d hd
 have cg:∀ V:World,_:=fun V=>zgh V k d hd
 have cm:∀ V:World,_:=fun V=>ziz V k d hd
 obtain ⟨SD,hSD⟩:∃ S,S=str d:=⟨_,rfl⟩
 rw[← hSD] at c1 cc hW0 ⊢
 simp only[← hSD] at ct cg cm
 have hs0:W0.heap.size=w.heap.size+1:=by rw[hW0];simp
 have HW:=hide hW0
 clear hW0 hB0 hSD
 by_cases hch:zat k d=0
 ·rw[hch] at cc
  have h5:k=1∨k=2∨k=3∨k=4:=by
   unfold zat at hch
   by_cases h1:k<1∨4<k
   ·rw[if_pos h1] at hch;exact absurd hch (by decide)
   ·omega
  rcases h5 with rfl | rfl | rfl | rfl
  ·rw[zsx]
   clear ct cg cm hch hd
   go_enter Tryz.func80,Tryz.ntmps80
   go_wp2_with (rw[← uh HW])
   refine cc.mono ?_
   rintro e w2 ⟨rfl,g2⟩
   have d0:=g2.cell c0 (by simp)
   clear cc c0 c1
   go_wp2
   go_ret
   exact ⟨_,rfl,Stg.nil _ _,tn g0 g2⟩
  ·have hln:(rtT 2 d).2.length≤100000:=by
    unfold rtT
    rw[if_pos rfl]
    by_cases h4:za9 (zbx d)=(0,d)
    ·rw[if_pos h4];have:=(zin h4).2.1;simp only;omega
    ·rw[if_neg h4];simp
   rw[zsy hch]
   obtain ⟨⟨y0,es⟩,hRT⟩:∃ R,R=rtT 2 d:=⟨_,rfl⟩
   simp only[← hRT] at ct hln ⊢
   clear cg cm hch hd hRT
   go_enter Tryz.func80,Tryz.ntmps80
   go_wp2_with (rw[← uh HW])
   refine cc.mono ?_
   rintro e w2 ⟨rfl,g2⟩
   have d0:=g2.cell c0 (by simp)
   have d1:=g2.cell c1 (by simp)
   clear cc c0 c1
   go_wp2_with fail
   refine (ct w2).mono ?_
   rintro e w3 ⟨v3,y3,rfl,_,ho3,g3⟩
   obtain ⟨ao,c,rfl,hE⟩:=Rens.own ho3
   have G3:=tn (tn g0 g2) g3
   have HE:=hide hE
   obtain ⟨n,hn⟩:∃ n,n=es.length:=⟨_,rfl⟩
   rw[← hn]
   have HN:=hide hn
   have hn9:n≤100000:=by omega
   clear d0 d1 ct ho3 hE g2 g3 hn hln
   go_wp2
   go_loopw [3,6] (fun v i wr=>∃ j:Nat,i = .int .i64 j∧j≤n∧Stg wr w3.heap.size v ((es.take j).map (·.id))∧w3.grownBy wr none) (fun _ i _=>n - (intOf i).toNat)
   case atStart=>exact ⟨0,rfl,Nat.zero_le _,Stg.nil _ _,zaa _ _⟩
   case round =>
    obtain ⟨j,rfl,hj,ho,hg⟩:=hrel
    by_cases hlt:j<n
    ·have hlt' : j<es.length:=by have:=uh HN;omega
     obtain ⟨b,o,hao,hrow⟩:=(uh HE).at j hlt'
     have hr:=zad (hrow j hlt') hg (by simp)
     have hc2:wr.cell? ⟨b,o+(j*3+2),none⟩=some (.string (str es[j].id)):=by
      have:=hr 2 _ rfl
      rwa [Nat.add_assoc] at this
     have hc2' : wr.cell? ⟨b,o+j*3+2,none⟩=some (.string (str es[j].id)):=by rw[Nat.add_assoc];exact hc2
     have hnew:(es.take (j+1)).map (·.id)=(es.take j).map (·.id)++[es[j].id]:=by rw[List.take_succ_eq_append_getElem hlt',List.map_append];rfl
     obtain ⟨E,hEE⟩:∃ E,E=es[j].id:=⟨_,rfl⟩
     rw[← hEE] at hc2 hc2' hnew
     have hbs:=zhw (str E) wr
     obtain ⟨W5,hW5,hB5,g5⟩:∃ W,W=wr.alloc (.cells #[.string (str E)] 9)∧Blk W wr.heap.size 9 [.string (str E)]∧wr.grownBy W none:=zae wr _ _
     have hcE:W5.cell? ⟨wr.heap.size,0,none⟩=some (stv E):=by rw[hB5.cell 0];rfl
     obtain ⟨TE,hTE⟩:∃ T,T=str E:=⟨_,rfl⟩
     rw[← hTE] at hc2 hc2' hbs hW5
     have ho5:=ho.kept g5
     have G5:=tn hg g5
     have hl9:((es.take j).map (·.id)).length≤1000000:=by rw[List.length_map,List.length_take];omega
     obtain ⟨HW5,HBS,HNW,HO5,HG5,HCE⟩:=zh6 hW5 hbs hnew ho5 G5 hcE
     clear hrow hEE hr hnew hW5 hB5 g5 hTE hbs ho hg ho5 G5 hcE hlt'
     subst hao
     go_wp2_with (first
      | (refine zap rfl 25 _ rfl (.string TE) _ rfl (uh HBS) ?_;rw[← uh HW5])
      | (refine zbm rfl _ _ rfl w3.heap.size _ _ E _ rfl (uh HO5) rfl (uh HCE) hl9 (uh HG5).size ?_;intro v6 w6 ho6 g6;have HO6:=hide ho6;have HG6:=hide (zac (uh HG5) g6 (fun x e=>Or.inl ((uh HO5).lt x e).1));clear ho6 g6 HO5 HG5))
     go_roundw
     case rel =>
      refine ⟨j+1,by go_num,by omega,?_,uh HG6⟩
      rw[uh HNW]
      exact uh HO6
     case measure=>simp[intOf];omega
    ·have hjn:j=es.length:=by have:=uh HN;omega
     rw[hjn,List.take_of_length_le (Nat.le_refl _)] at ho
     have HO:=hide ho
     clear hjn ho
     go_wp2
     go_ret
     exact ⟨_,rfl,zax (uh HO) G3.size,tn G3 hg⟩
  ·have hln:(rtC 3 d).2.pars.length≤4:=by
    unfold rtC
    rw[if_pos rfl]
    by_cases h4:zb6 (zbj d)=(0,d)
    ·rw[if_pos h4];exact (zku h4).2.1
    ·rw[if_neg h4];simp
   rw[zsz hch]
   obtain ⟨⟨y0,cg0⟩,hRT⟩:∃ R,R=rtC 3 d:=⟨_,rfl⟩
   simp only[← hRT] at cg hln ⊢
   obtain ⟨Z,hZl,hzv⟩:=zs1
   clear ct cm hch hd hRT
   go_enter Tryz.func80,Tryz.ntmps80
   go_wp2_with (rw[← uh HW])
   refine cc.mono ?_
   rintro e w2 ⟨rfl,g2⟩
   have d0:=g2.cell c0 (by simp)
   have d1:=g2.cell c1 (by simp)
   clear cc c0 c1
   go_wp2_with fail
   refine (cg w2).mono ?_
   rintro e w3 ⟨po,pc,y3,rfl,_,hS3,g3⟩
   have G3:=tn (tn g0 g2) g3
   obtain ⟨RC,hRC⟩:∃ R,R=rcC cg0 po pc:=⟨_,rfl⟩
   rw[← hRC]
   have hRl:RC.toArray.size=5:=by rw[hRC];rfl
   have hRo:RC.toArray.all (·.oneCell')=true:=by rw[hRC];exact all_oneCell_toArray (zx3 _ _ _)
   have hiR:(Tryz.prog.info? 151).map (·.size)=some RC.toArray.size:=by rw[hRl];exact zcj
   have hZR:Z.size=RC.toArray.size:=by rw[hZl,hRl]
   obtain ⟨W4,hW4,hB4,g4⟩:=zbi w3 151 Z RC
   have G4:=tn G3 g4
   have hS4:=hS3.kept g4
   have e0:=hB4.cell 0
   have e1:=hB4.cell 1
   rw[hRC] at e0 e1
   simp only[rcC,List.getElem?_cons_zero,List.getElem?_cons_succ] at e0 e1
   obtain ⟨TT,hTT⟩:∃ T,T=str cg0.tree:=⟨_,rfl⟩
   rw[← hTT] at e0
   obtain ⟨n,hn⟩:∃ n,n=cg0.pars.length:=⟨_,rfl⟩
   rw[← hn] at e1
   obtain ⟨HIR,HZR,HRO,HW4,HS4,HTT⟩:=zh6 hiR hZR hRo hW4 hS4 hTT
   have HN:=hide hn
   clear cg d0 d1 hRC hRl hRo hiR hZR hW4 hB4 hS4 hS3 g2 g3 g4 hTT hn hZl
   go_upto_region 13 with (first
    | (refine wpList_store_row rfl 151 _ _ rfl w3.heap.size RC.toArray rfl rfl _ _ (heap_alloc_new _ _) (uh HIR) (uh HZR) (uh HRO) ?_;rw[← uh HW4]))
   have h0:W4.grownBy W4.drew none:=zaj (zaa _ _)
   refine wp_region_noPanic ?_
   refine wp_region_held_drew (S:=fun V=>W4.grownBy V none) (by kernel_rfl) h0 (fun _ => ?_)
   obtain ⟨WD,hWD⟩:∃ V,V=W4.drew:=⟨_,rfl⟩
   rw[← hWD]
   rw[← hWD] at h0
   clear hWD
   refine tq 0 44 (.move (.tmp 3)) (.slice none 0 0) h0 ?_
   refine tq 1 45 (.fieldAddr 151 (.tmp 7) 0) (.pointer (some ⟨w3.heap.size,0,none⟩)) h0 ?_
   refine tq 5 49 (.fieldAddr 151 (.tmp 7) 1) (.pointer (some ⟨w3.heap.size,1,none⟩)) h0 ?_
   refine tz 2 46 (.load 9 (.tmp 45)) (.string TT) h0 ?_ (y:=(Or.inl ⟨by rfl,fun V hV=>by (have q9:=hV.cell e0 (by simp);go_simp)⟩))
   (try simp only[pq])
   refine tz 6 50 (.load 25 (.tmp 49)) (.slice po n pc) h0 ?_ (y:=(Or.inl ⟨by rfl,fun V hV=>by (have q9:=hV.cell e1 (by simp);go_simp)⟩))
   (try simp only[pq])
   refine rd 3 (some 47) (.buildSlice 25 1 #[(0,(.tmp 46))]) (fun K9 hK9 => ?_)
   obtain ⟨w5,hw5,hB5,g5⟩:∃ W,W=WD.alloc (.cells #[.string TT] 9)∧Blk W WD.heap.size 9 [.string TT]∧WD.grownBy W none:=zae WD _ _
   refine zas (by rfl) _ _ rfl _ _ rfl (zhw TT WD) ?_
   rw[← hw5]
   have h5:=tn h0 g5
   refine hK9.out _ _ h5 (fun _ => ?_)
   clear hK9 K9 hw5
   (try simp only[pq])
   refine rd 4 (some 48) (.call { callee := .builtin .append,args := #[(.tmp 44),(.tmp 47)],argTypes := #[25,25] }) (fun K9 hK9 => ?_)
   have hcE:Stg w5 w.heap.size (.slice (some ⟨WD.heap.size,0,none⟩) 1 1) [cg0.tree]:=zx4 (by rw[uh HTT] at hB5;exact hB5) (tn G4 h0).size
   refine zew (by rfl) _ _ rfl w5.heap.size w.heap.size _ _ [] [cg0.tree] rfl (Stg.nil _ _) rfl hcE (by simp) (Nat.le_refl _) ?_
   intro v6 w6 ho6 g6
   have h6:=tn h5 g6
   rw[List.nil_append] at ho6
   refine hK9.out _ _ h6 (fun _ => ?_)
   clear hK9 K9 hcE hB5
   (try simp only[pq])
   refine rd 7 (some 51) (.call { callee := .builtin .append,args := #[(.tmp 48),(.tmp 50)],argTypes := #[25,25] }) (fun K9 hK9 => ?_)
   have hS6:=(uh HS4).kept h6
   rw[← uh HN] at hS6
   have h6b:w5.heap.size≤w6.heap.size:=g6.size
   refine zew (by rfl) _ _ rfl w5.heap.size w2.heap.size _ _ [cg0.tree] cg0.pars rfl ho6 rfl hS6 (by simp;omega) h6b ?_
   intro v7 w7 ho7 g7
   have h7:W4.grownBy w7 none:=zac h6 g7 (fun x e=>Or.inl (Nat.le_trans h5.size (ho6.lt x e).1))
   refine hK9.out _ _ h7 (fun _ => ?_)
   clear hK9 K9
   refine tq 8 3 (.assign (.tmp 51)) v7 h7 ?_
   (try simp only[pq])
   refine wpAnyH_done (by kernel_rfl) ?_ _
   refine NoPanic.normal ?_
   have HO7:=hide ho7
   clear ho7
   go_wp2
   go_ret
   exact ⟨_,rfl,zax (uh HO7) (tn G4 h5).size,tn G4 h7⟩
  ·rw[zs0 hch]
   obtain ⟨⟨y0,mk0⟩,hRT⟩:∃ R,R=rtM 4 d:=⟨_,rfl⟩
   simp only[← hRT] at cm ⊢
   obtain ⟨Z,hZl,hzv⟩:=zs2
   obtain ⟨RC,hRC⟩:∃ R,R=rmC mk0:=⟨_,rfl⟩
   simp only[← hRC] at cm
   have hRl:RC.toArray.size=3:=by rw[hRC];rfl
   have hRo:RC.toArray.all (·.oneCell')=true:=by rw[hRC];exact all_oneCell_toArray (zx2 _)
   have hiR:(Tryz.prog.info? 170).map (·.size)=some RC.toArray.size:=by rw[hRl];exact zed
   have hZR:Z.size=RC.toArray.size:=by rw[hZl,hRl]
   have hR0:RC[0]? = some (.string (str mk0.target)):=by rw[hRC];rfl
   obtain ⟨E,hE⟩:∃ E,E=mk0.target:=⟨_,rfl⟩
   rw[← hE] at hR0 ⊢
   obtain ⟨TE,hTE⟩:∃ T,T=str E:=⟨_,rfl⟩
   obtain ⟨HIR,HZR,HRO⟩:=zh3 hiR hZR hRo
   clear ct cg hch hd hRT hRC hRl hRo hiR hZR hE
   go_enter Tryz.func80,Tryz.ntmps80
   go_wp2_with (rw[← uh HW])
   refine cc.mono ?_
   rintro e w2 ⟨rfl,g2⟩
   have d0:=g2.cell c0 (by simp)
   have d1:=g2.cell c1 (by simp)
   clear cc c0 c1
   go_wp2_with fail
   refine (cm w2).mono ?_
   rintro e w3 ⟨rfl,g3⟩
   obtain ⟨W4,hW4,hB4,g4⟩:=zbi w3 170 Z RC
   have G4:=tn (tn (tn g0 g2) g3) g4
   have e0:=hB4.cell 0
   rw[hR0,← hTE] at e0
   obtain ⟨W5,hW5,hB5,g5⟩:∃ W,W=W4.alloc (.cells #[.string TE] 9)∧Blk W W4.heap.size 9 [.string TE]∧W4.grownBy W none:=zae W4 _ _
   have hcE:W5.cell? ⟨W4.heap.size,0,none⟩=some (stv E):=by rw[hB5.cell 0,hTE];rfl
   have hbs:=zhw TE W4
   have G5:=tn G4 g5
   obtain ⟨HW4,HW5,HBS,HCE⟩:=zh4 hW4 hW5 hbs hcE
   clear cm d0 d1 hW4 hB4 hR0 hTE hW5 hB5 hbs hcE g2 g3 g4 g5 hZl
   go_wp2_with (first
    | (refine wpList_store_row rfl 170 _ _ rfl w3.heap.size RC.toArray rfl rfl _ _ (heap_alloc_new _ _) (uh HIR) (uh HZR) (uh HRO) ?_;rw[← uh HW4])
    | (refine zap rfl 25 _ rfl (.string TE) _ rfl (uh HBS) ?_;rw[← uh HW5])
    | (refine zbm rfl _ _ rfl W5.heap.size _ [] E _ rfl (Stg.nil _ _) rfl (uh HCE) (by simp) (Nat.le_refl _) ?_;intro v6 w6 ho6 g6;have HO6:=hide ho6;have HG6:=hide g6;clear ho6 g6))
   go_ret
   exact ⟨_,rfl,zax (uh HO6) G5.size,tn G5 (uh HG6)⟩
 ·have hl:za4 k d=[]:=by unfold za4;rw[if_pos hch]
  rw[hl]
  obtain ⟨y,hy⟩:∃ y,y=zat k d:=⟨_,rfl⟩
  rw[← hy] at cc hch
  clear ct cg cm hd hl hy
  go_enter Tryz.func80,Tryz.ntmps80
  go_wp2_with (rw[← uh HW])
  refine cc.mono ?_
  rintro e w2 ⟨rfl,g2⟩
  clear cc c0 c1
  go_wp2
  go_ret
  exact ⟨_,rfl,Stg.nil _ _,tn g0 g2⟩
theorem zvw (w:World) (k:Int) (ao:Option Addr) (c:Nat) (d:List UInt8) (hb:Bts w ao c d):Calls Tryz.prog 16 #[.agg #[.int .i64 k,.slice ao d.length c]] w fun e w'=>e = .returned (.agg #[.int .i64 k,.string (str d)])∧w.grownBy w' none:=by
 obtain ⟨n,hn⟩:∃ n,n=d.length:=⟨_,rfl⟩
 obtain ⟨S0,hS0⟩:∃ S,S=str []:=⟨_,rfl⟩
 have hzv:=zge
 rw[← hS0] at hzv
 obtain ⟨W1,hW1⟩:∃ W,W=(w.alloc (.cells #[.int .i64 k,.slice ao n c] 42)).alloc (.cells #[.int .i64 0,.string S0] 47):=⟨_,rfl⟩
 have G1:w.grownBy W1 none:=by rw[hW1];exact zag (zag (zaa _ _) _) _
 have hcv:=za5 (hb.kept G1 (fun _ e=>by cases e))
 rw[← hn] at hcv ⊢
 rw[hW1] at hcv
 obtain ⟨SS,hSS⟩:∃ S,S=str d:=⟨_,rfl⟩
 rw[← hSS] at hcv ⊢
 clear hSS hn hb G1 hW1 W1 hS0
 go_enter Tryz.func16,Tryz.ntmps16
 go_wp2
 exact bodyPost_ret (v := .agg #[.int .i64 k,.string SS]) (by simp[results,Tryz.results16,go_sem]) rfl ⟨rfl,zag (zag (zaa _ _) _) _⟩
end Go.Proofs.YthhnfloohbdaiaaGreatDoor
