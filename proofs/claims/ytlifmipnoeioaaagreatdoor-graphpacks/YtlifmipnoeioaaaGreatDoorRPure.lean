/- Lemmas. -/
import Derived.Test.YtlifmipnoeioaaaGreatDoorOData
import Derived.Test.YtlifmipnoeioaaaGreatDoorNPtd
import Derived.Laws.AppendOwnNone
import Derived.Deep.AppendLies
import Derived.Deep.RegionHeld3
import Derived.Deep.DrawnRows
namespace Go.Proofs.YtlifmipnoeioaaaGreatDoor
open Go.RowKit
structure Rws {α:Type} (w:World) (K:Nat) (f:α→List Value) (ao:Option Addr) (c:Nat) (L:List α):Prop where
 zip:ao=none→L.length=0∧c=0
 fits:L.length≤c
 most:c≤maxLen
 spot:∀ ad,ao=some ad→ad.spot=none
 row:∀ ad,ao=some ad→∀ i (h:i<L.length),w.rangeAt ad.block (ad.off+i*K) (f L[i])
theorem Rws.kept {α:Type} {w a:World} {K:Nat} {f:α→List Value} {ao:Option Addr} {c:Nat} {L:List α} (h:Rws w K f ao c L) (g:w.grownBy a none):Rws a K f ao c L :=
 ⟨h.zip,h.fits,h.most,h.spot,fun ad e i hi=>range_kept (h.row ad e i hi) g (by simp)⟩
theorem Rws.own {α:Type} (f:α→List Value) {w:World} {K base:Nat} {t:TypeId} {v:Value} {L:List α} (h:w.ownsRow base t K v L.length (L.flatMap f)) (hf:∀ x∈L,(f x).length=K):∃ ao c,v = .slice ao L.length c∧Rws w K f ao c L∧∀ ad,ao=some ad→base≤ad.block:=by
 obtain ⟨ao,c,h1,h2,h3,h4,h5,h6⟩:=own_rows f K h hf
 exact ⟨ao,c,h1,⟨h2,h3,h4,fun ad e=>(h5 ad e).1,h6⟩,fun ad e=>(h5 ad e).2⟩
theorem Rws.at {α:Type} {w:World} {K:Nat} {f:α→List Value} {ao:Option Addr} {c:Nat} {L:List α} (h:Rws w K f ao c L) (i:Nat) (hi:i<L.length):∃ b o,ao=some ⟨b,o,none⟩∧w.rangeAt b (o+i*K) (f L[i]):=by
 cases ao with
 | none=>have:=(h.zip rfl).1;omega
 | some ad =>
  have hs:=h.spot ad rfl
  have hc:=h.row ad rfl i hi
  obtain ⟨b,o,s⟩:=ad
  simp only at hs hc
  subst hs
  exact ⟨b,o,rfl,hc⟩
theorem Rws.take {α:Type} {w:World} {K:Nat} {f:α→List Value} {ao:Option Addr} {c:Nat} {L:List α} (h:Rws w K f ao c L) (n:Nat):Rws w K f ao c (L.take n):=by
 refine ⟨(fun e => ?_),?_,h.most,h.spot,(fun ad e i hi => ?_)⟩
 ·have:=h.zip e
  exact ⟨by rw [List.length_take];omega,this.2⟩
 ·have:=h.fits;rw [List.length_take];omega
 ·have hi' : i<L.length:=by simp at hi;omega
  have:=h.row ad e i hi'
  simpa using this
def cutK (ao:Option Addr) (c n K:Nat):Option Addr:=if c=n then ao else ao.map (·.add (n*K))
theorem Rws.drop {α:Type} {w:World} {K:Nat} {f:α→List Value} {ao:Option Addr} {c:Nat} {L:List α} (h:Rws w K f ao c L) (n:Nat) (hn:n≤L.length):Rws w K f (cutK ao c n K) (c - n) (L.drop n):=by
 have hf:=h.fits
 have hm:=h.most
 unfold cutK
 split
 ·rename_i hc
  have hl:L.drop n=[]:=List.drop_of_length_le (by omega)
  rw [hl,hc]
  exact ⟨fun _=>⟨rfl,by omega⟩,Nat.zero_le _,by omega,h.spot,fun ad e i hi=>by simp at hi⟩
 ·cases ao with
  | none=>have:=h.zip rfl;omega
  | some ad =>
   have hs:=h.spot ad rfl
   have hr:=h.row ad rfl
   obtain ⟨b,o,s⟩:=ad
   simp only at hs hr
   subst hs
   rw [Option.map_some,Addr.add_lit]
   refine ⟨(fun e=>by cases e),by simp;omega,by omega,(fun ad e=>by cases e;rfl),fun ad e i hi => ?_⟩
   cases e
   have hi' : n+i<L.length:=by simp at hi;omega
   have:=hr (n+i) hi'
   rw [List.getElem_drop]
   rw [Nat.add_mul,← Nat.add_assoc] at this
   exact this
theorem slice_toK {P:Program} (W:World) (t e:TypeId) (K:Nat) (ht:P.underlying t=some (.slice e)) (hz:∀ w,(Go.sizeOf e).run P w = .ok K w) (ao:Option Addr) (n c k:Nat) (hk:k≤c) (hsp:∀ ad,ao=some ad→ad.spot=none) :
  (Instr.slice t (.slice ao n c) none (some (.int .i64 (k:Int))) none).run P W = .ok (.slice ao k c) W:=by
 have ht' : P.underlying t=some (.slice (P.elem t)):=by simp [Program.elem,ht]
 have he:P.elem t=e:=by simp [Program.elem,ht]
 rw [run_slice_h W t _ _ _ ht' .i64 _ (by omega) (by omega),he,hz]
 cases ao with
 | none=>simp [Result.andThen,sliced]
 | some ad =>
  have:=hsp ad rfl
  obtain ⟨b,o,s⟩:=ad
  simp only at this
  subst this
  simp [Result.andThen,sliced,Addr.add]
theorem slice_fromK {P:Program} (W:World) (t e:TypeId) (K:Nat) (ht:P.underlying t=some (.slice e)) (hz:∀ w,(Go.sizeOf e).run P w = .ok K w) (ao:Option Addr) (n c k:Nat) (hk:k≤n) :
  (Instr.slice t (.slice ao n c) (some (.int .i64 (k:Int))) none none).run P W = .ok (.slice (cutK ao c k K) (n - k) (c - k)) W:=by
 have ht' : P.underlying t=some (.slice (P.elem t)):=by simp [Program.elem,ht]
 have he:P.elem t=e:=by simp [Program.elem,ht]
 rw [run_slice_l W t _ _ _ ht' .i64 _ (by omega) (by omega),he,hz]
 simp [Result.andThen,sliced,cutK]
theorem flat_oneCell {α:Type} (f:α→List Value) (hf:∀ x,∀ u∈f x,u.oneCell'=true) (L:List α):∀ u∈L.flatMap f,u.oneCell'=true:=by
 intro u hu
 obtain ⟨x,_,h⟩:=List.mem_flatMap.1 hu
 exact hf x u h
theorem wp_append_rws {α:Type} {w:World} {o:Oper} {a:Act} {K9:Act→World→Prop} {Q:Exit→Act→World→Prop} (s x:Operand) (t e:TypeId)
  (ho:o.op = .call { callee := .builtin .append,args := #[s,x],argTypes := #[t,t] })
  (i0:TypeInfo) (z:Value) (K bytes:Nat) (ht:Tryz.prog.underlying t=some (.slice e)) (hi:Tryz.prog.info? e=some i0) (hz:i0.zero=some z) (hz1:i0.size=K) (hz2:i0.bytes=bytes) (hzs:z.cells.size=K) (hK:0<K)
  (f:α→List Value) (hf1:∀ x,∀ u∈f x,u.oneCell'=true)
  (base:Nat) (v:Value) (L M:List α) (hfM:∀ x∈M,(f x).length=K) (hs:a.eval s=v) (hown:w.ownsRow base e K v L.length (L.flatMap f)) (xo:Option Addr) (m c:Nat) (hx:a.eval x = .slice xo m c) (hm:m=M.length) (hM:Rws w K f xo c M)
  (hn:(L.length+M.length)*bytes≤140737488355328) (hn2:L.length+M.length≤140737488355328) (hbase:base≤w.heap.size)
  (h:∀ v' w',w'.ownsRow base e K v' (L++M).length ((L++M).flatMap f)→w.grownBy w' v.ownBlock→K9 (a.put o.dst v') w'):o.wp Tryz.prog a w K9 Q:=by
 subst hm
 cases xo with
 | none =>
  obtain ⟨h1,h2⟩:=hM.zip rfl
  have h0:M=[]:=List.eq_nil_of_length_eq_zero h1
  subst h0
  subst h2
  have hrun:=run_append_owned_none (P:=Tryz.prog) (w:=w) base t o.type e i0 K ht hi v L.length (L.flatMap f) hown
  have hfin:=h v w (by simpa using hown) (gb_refl _ _)
  unfold Oper.wp
  simp [execOp,ho,resolve,invoke,builtin,hs,hx,hrun,Result.andThen]
  exact hfin
 | some ad =>
  have hsp:=hM.spot ad rfl
  have hr:=hM.row ad rfl
  obtain ⟨b,p,sp⟩:=ad
  simp only at hsp hr
  subst hsp
  refine wp_append_own w s x t ho base e i0 z K bytes ht hi hz hz1 hz2 hzs hK v L.length (L.flatMap f) hs hown ⟨b,p,none⟩ M.length c (M.flatMap f) hx (flat_len2 f K M hfM) ?_ (flat_oneCell f hf1 M) (by unfold maxLen;omega) hn hbase (fun v' w' q1 q2 _=>h v' w' (by simpa using q1) q2)
  intro j u hu
  have hjl:j<M.length*K:=by
   have:=(List.getElem?_eq_some_iff.1 hu).1
   rwa [flat_len2 f K M hfM] at this
  have hq:j / K<M.length:=Nat.div_lt_of_lt_mul (by rwa [Nat.mul_comm] at hjl)
  have hmod:=Nat.mod_lt j hK
  have hj:j=j / K*K+j % K:=by have:=Nat.div_add_mod j K;rw [Nat.mul_comm] at this;omega
  rw [hj,flat_at f K M hfM (j / K) (j % K) hq hmod] at hu
  have:=hr (j / K) hq (j % K) u hu
  rw [Addr.add_lit,show p+j=p+j / K*K+j % K by omega]
  exact this
theorem sizeOf_of {e:TypeId} {K:Nat} (h:(Tryz.prog.info? e).map (·.size)=some K) (w:World):(Go.sizeOf e).run Tryz.prog w = .ok K w:=by
 obtain ⟨i,hi,rfl⟩:=Option.map_eq_some_iff.1 h
 simp [Go.sizeOf,typeInfo,hi,go_sem]
def stR (x:List UInt8):List Value:=[stv x]
theorem stR_flat (L:List (List UInt8)):L.flatMap stR=L.map stv:=by induction L <;> simp_all [stR]
theorem stR_one (x:List UInt8):∀ u∈stR x,u.oneCell'=true:=by intro u hu;simp [stR] at hu;subst hu;rfl
theorem Stg.rws {w:World} {base:Nat} {v:Value} {L:List (List UInt8)} (h:Stg w base v L):∃ ao c,v = .slice ao L.length c∧Rws w 1 stR ao c L∧∀ ad,ao=some ad→base≤ad.block :=
 Rws.own stR (by rw [stR_flat];exact h) (fun _ _=>rfl)
theorem step_append_strs {w:World} {ops:Array Oper} {o:Oper} {a:Act} {K:Act→World→Prop} {Q:Exit→Act→World→Prop} {E:Prop} (hw:Region.wanted o (yielded ops a.tmps)=true) (s x:Operand)
  (ho:o.op = .call { callee := .builtin .append,args := #[s,x],argTypes := #[25,25] })
  (base:Nat) (v:Value) (L M:List (List UInt8)) (hs:a.eval s=v) (hown:Stg w base v L) (xo:Option Addr) (m c:Nat) (hx:a.eval x = .slice xo m c) (hm:m=M.length) (hM:Rws w 1 stR xo c M) (hn:L.length+M.length≤1000000) (hbase:base≤w.heap.size)
  (h:∀ v' w',Stg w' base v' (L++M)→w.grownBy w' v.ownBlock→K (a.put o.dst v') w'):if Region.wanted o (yielded ops a.tmps)=true then Oper.wp Tryz.prog o a w K Q else E:=by
 rw [if_pos hw]
 obtain ⟨i0,hi,hz0,hz1,hz2⟩:=info_parts info_stg
 exact wp_append_rws s x 25 9 ho i0 (.string ⟨#[]⟩) 1 16 Tryz.underlying25 hi hz0 hz1 hz2 rfl (by decide) stR stR_one base v L M (fun _ _=>rfl) hs (by rw [stR_flat];exact hown) xo m c hx hm hM (by omega) (by omega) hbase
  (fun v' w' q1 q2=>h v' w' (by rw [stR_flat] at q1;exact q1) q2)
theorem Rws.txt {w:World} {ao:Option Addr} {c:Nat} {L:List (List UInt8)} (h:Rws w 1 stR ao c L) (i:Nat) (hi:i<L.length):∃ b o,ao=some ⟨b,o,none⟩∧w.cell? ⟨b,o+i,none⟩=some (.string (str L[i])):=by
 obtain ⟨b,o,e,hr⟩:=h.at i hi
 refine ⟨b,o,e,?_⟩
 have:=hr 0 (.string (str L[i])) rfl
 simpa using this
end Go.Proofs.YtlifmipnoeioaaaGreatDoor

/- Lemmas. -/
namespace Go.Proofs.YtlifmipnoeioaaaGreatDoor
open Go.RowKit
theorem numS_ok {l:List UInt8} {e n:Int} (h:(numS l e n).2.2=0):e=0:=by
 unfold numS at h
 split at h
 ·assumption
 ·exact h
theorem sizedS_ok {l:List UInt8} {e:Int} (h:(sizedS l e).2.2=0):e=0:=by
 unfold sizedS at h
 split at h
 ·assumption
 ·exact h
theorem rawS_ok {l:List UInt8} {e n:Int} (h:(rawS l e n).2.2=0):e=0:=by
 unfold rawS at h
 split at h
 ·assumption
 ·exact h
theorem raw32_ok {l:List UInt8} {e:Int} (h:(rawS l e 32).2.2=0):(rawS l e 32).1.length=32:=by
 unfold rawS at h ⊢
 split
 ·split
  ·rename_i h1 h2
   rw [if_pos h1,if_pos h2] at h
   exact absurd h (by decide)
  ·rename_i h2
   simp at h2 ⊢
   omega
 ·rename_i h1
  rw [if_neg h1] at h
  exact absurd h h1
theorem done_ok {l:List UInt8} {e:Int} (h:doneS l e=0):l=[]∧e=0:=by
 unfold doneS at h
 split at h
 ·split at h
  ·exact ⟨by assumption,by assumption⟩
  ·exact absurd h (by decide)
 ·rename_i h1
  exact absurd h h1
def rdM (d:List UInt8):MrkL × List UInt8 × Int :=
 let t:=rawS d 0 32
 let a:=sizedS t.2.1 t.2.2
 let x:=sizedS a.2.1 a.2.2
 (⟨t.1,a.1,x.1⟩,x.2)
theorem fit_len {x d:List UInt8} (h:fitB x=(0,d)):d=x∧x.length≤16384:=by
 unfold fitB at h
 split at h
 ·exact absurd (congrArg Prod.fst h) (by simp)
 ·exact ⟨(congrArg Prod.snd h).symm,by omega⟩
theorem ofMrk_ok {m:MrkL} {d:List UInt8} (h:ofMrk m=(0,d)):d=mrkB m∧m.name.length≤16384∧m.text.length≤16384:=by
 unfold ofMrk at h
 split at h
 ·obtain ⟨h1,h2⟩:=fit_len h
  unfold mrkB at h2
  simp only [List.length_append,layS_len] at h2
  exact ⟨h1,by omega,by omega⟩
 ·exact absurd (congrArg Prod.fst h) (by simp)
theorem ofChg_ok {c:ChgL} {d:List UInt8} (h:ofChg c=(0,d)):d=chgB c∧c.pars.length≤4∧c.author.length≤16384∧c.text.length≤16384:=by
 unfold ofChg at h
 split at h
 ·exact absurd (congrArg Prod.fst h) (by simp)
 ·split at h
  ·obtain ⟨h1,h2⟩:=fit_len h
   unfold chgB at h2
   simp only [List.length_append,layS_len] at h2
   exact ⟨h1,by omega,by omega,by omega⟩
  ·exact absurd (congrArg Prod.fst h) (by simp)
theorem partB_le {l:List UInt8} (h:partB l=true):l.length≤64:=by
 unfold partB at h
 simp only [Bool.and_eq_true,decide_eq_true_eq] at h
 omega
theorem ofTree_ok {es:List EntL} {d:List UInt8} (h:ofTree es=(0,d)):d=treeB es∧es.length≤32∧∀ e∈es,e.name.length≤64:=by
 unfold ofTree at h
 split at h
 ·exact absurd (congrArg Prod.fst h) (by simp)
 ·split at h
  ·rename_i hg
   obtain ⟨h1,h2⟩:=fit_len h
   refine ⟨h1,by omega,fun e he => ?_⟩
   obtain ⟨i,hi,rfl⟩:=List.getElem_of_mem he
   have h3:=List.all_eq_true.1 hg i (List.mem_range.2 hi)
   unfold goodAt at h3
   simp only [Bool.and_eq_true] at h3
   have h4:=partB_le h3.1
   rwa [show es.getD i default=es[i] by simp [hi]] at h4
  ·exact absurd (congrArg Prod.fst h) (by simp)
theorem rdM_same {d:List UInt8} : (doneS (rdM d).2.1 (rdM d).2.2=0∧ofMrk (rdM d).1=(0,d))↔ofMrk (readM d)=(0,d):=by
 constructor
 ·rintro ⟨h1,h2⟩
  obtain ⟨_,he⟩:=done_ok h1
  have e2:(sizedS (sizedS (rawS d 0 32).2.1 (rawS d 0 32).2.2).2.1 (sizedS (rawS d 0 32).2.1 (rawS d 0 32).2.2).2.2).2.2=0:=he
  have e3:=raw32_ok (sizedS_ok (sizedS_ok e2))
  have:readM d=(rdM d).1:=by unfold readM rdM;simp only [pad32_id _ e3]
  rw [this];exact h2
 ·intro h
  obtain ⟨hd,hn,hx⟩:=ofMrk_ok h
  have hok:(readM d).target.length=32:=by unfold readM;exact raw32_len _ _
  obtain ⟨m,hm⟩:∃ m,m=readM d:=⟨_,rfl⟩
  rw [← hm] at h hd hn hx hok
  have h1:=rawS_lay m.target (layS m.name++(layS m.text++[])) 32 hok
  have h5:=sizedS_lay m.name (layS m.text++[]) (by omega)
  have h6:=sizedS_lay m.text [] (by omega)
  have e1:d=m.target++(layS m.name++(layS m.text++[])):=by rw [hd];simp [mrkB]
  have hr:rdM d=(m,[],0):=by
   unfold rdM
   rw [e1,show (32:Int)=((32:Nat):Int) from rfl]
   simp only [h1,h5,h6]
  rw [hr]
  exact ⟨rfl,h⟩
theorem rdM_is {d:List UInt8} (h:ofMrk (readM d)=(0,d)):(rdM d).1=readM d:=by
 obtain ⟨h1,h2⟩:=rdM_same.2 h
 obtain ⟨_,he⟩:=done_ok h1
 have e2:(sizedS (sizedS (rawS d 0 32).2.1 (rawS d 0 32).2.2).2.1 (sizedS (rawS d 0 32).2.1 (rawS d 0 32).2.2).2.2).2.2=0:=he
 have e3:=raw32_ok (sizedS_ok (sizedS_ok e2))
 unfold readM rdM;simp only [pad32_id _ e3]
def stepR (p:List EntL × List UInt8 × Int):List EntL × List UInt8 × Int :=
 let a:=numS p.2.1 p.2.2 1
 let b:=sizedS a.2.1 a.2.2
 let c:=rawS b.2.1 b.2.2 32
 (p.1++[⟨b.1,decide (a.1=1),c.1⟩],c.2)
def runR (s:List UInt8 × Int):Nat→List EntL × List UInt8 × Int
 | 0=>([],s)
 | n+1=>stepR (runR s n)
def stepQ (p:List (List UInt8) × List UInt8 × Int):List (List UInt8) × List UInt8 × Int :=
 let c:=rawS p.2.1 p.2.2 32
 (p.1++[c.1],c.2)
def runQ (s:List UInt8 × Int):Nat→List (List UInt8) × List UInt8 × Int
 | 0=>([],s)
 | n+1=>stepQ (runQ s n)
theorem stepR_ok {p:List EntL × List UInt8 × Int} (h:(stepR p).2.2=0):p.2.2=0∧stepR p=stepE p:=by
 unfold stepR at h
 have e3:=raw32_ok h
 have e1:=numS_ok (sizedS_ok (rawS_ok h))
 refine ⟨e1,?_⟩
 unfold stepR stepE
 simp only [pad32_id _ e3]
theorem stepQ_ok {p:List (List UInt8) × List UInt8 × Int} (h:(stepQ p).2.2=0):p.2.2=0∧stepQ p=stepP p:=by
 unfold stepQ at h
 have e3:=raw32_ok h
 refine ⟨rawS_ok h,?_⟩
 unfold stepQ stepP
 simp only [pad32_id _ e3]
theorem runR_ok {s:List UInt8 × Int} : ∀ {n:Nat},(runR s n).2.2=0→runR s n=runE s n
 | 0,_=>rfl
 | n+1,h=>by
  obtain ⟨h1,h2⟩:=stepR_ok (p:=runR s n) h
  rw [runR,h2,runR_ok h1,runE]
theorem runQ_ok {s:List UInt8 × Int} : ∀ {n:Nat},(runQ s n).2.2=0→runQ s n=runP s n
 | 0,_=>rfl
 | n+1,h=>by
  obtain ⟨h1,h2⟩:=stepQ_ok (p:=runQ s n) h
  rw [runQ,h2,runQ_ok h1,runP]
def Stops (e:Nat→Int) (n j:Nat):Prop:=j≤n∧(∀ i,i<j→e i=0)∧(j=n∨e j≠0)
theorem stops_ok {e:Nat→Int} {n j:Nat} (h:Stops e n j) (h0:e j=0):j=n:=by
 rcases h.2.2 with h1 | h1
 ·exact h1
 ·exact absurd h0 h1
theorem rdT_same {d:List UInt8} {j:Nat} (hs:Stops (fun i=>(runR (numS d 0 2).2 i).2.2) (numS d 0 2).1 j) :
  ((doneS (runR (numS d 0 2).2 j).2.1 (runR (numS d 0 2).2 j).2.2=0∧ofTree (runR (numS d 0 2).2 j).1=(0,d))↔ofTree (readT d)=(0,d))∧(ofTree (readT d)=(0,d)→(runR (numS d 0 2).2 j).1=readT d):=by
 have hfwd:(doneS (runR (numS d 0 2).2 j).2.1 (runR (numS d 0 2).2 j).2.2=0∧ofTree (runR (numS d 0 2).2 j).1=(0,d))→(runR (numS d 0 2).2 j).1=readT d:=by
  rintro ⟨h1,h2⟩
  obtain ⟨_,he⟩:=done_ok h1
  have hj:=stops_ok hs he
  have hr:=runR_ok he
  obtain ⟨_,h32,_⟩:=ofTree_ok h2
  have hlen:∀ (s:List UInt8 × Int) (j:Nat),(runE s j).1.length=j:=by
   intro s j
   induction j with
   | zero=>rfl
   | succ j ih=>rw [runE,stepE];simp [ih]
  rw [hr,hlen] at h32
  rw [hr]
  unfold readT
  simp only
  rw [hj] at h32 ⊢
  rw [Nat.min_eq_left h32]
 have hbwd:ofTree (readT d)=(0,d)→doneS (runR (numS d 0 2).2 j).2.1 (runR (numS d 0 2).2 j).2.2=0∧(runR (numS d 0 2).2 j).1=readT d:=by
  intro h
  obtain ⟨hd,h32,hnm⟩:=ofTree_ok h
  have hids:∀ e∈readT d,e.id.length=32:=by
   have key:∀ (s:List UInt8 × Int) (j:Nat),∀ e∈(runE s j).1,e.id.length=32:=by
    intro s j
    induction j with
    | zero=>intro e he;simp [runE] at he
    | succ j ih =>
     intro e he
     rw [runE,stepE] at he
     simp only [List.mem_append,List.mem_singleton] at he
     rcases he with he | rfl
     ·exact ih e he
     ·exact raw32_len _ _
   exact key _ _
  obtain ⟨es,hes⟩:∃ es,es=readT d:=⟨_,rfl⟩
  rw [← hes] at hd h32 hnm hids ⊢
  have hn:=numS2_lay es.length (by omega) (es.flatMap entB)
  have hd2:d=lb es.length 2++es.flatMap entB:=hd
  rw [← hd2] at hn
  rw [hn] at hs ⊢
  simp only at hs ⊢
  have hok:∀ e∈es,e.Ok:=fun e he=>⟨hids e he,by have:=hnm e he;omega⟩
  have hrun:∀ k,k≤es.length→runR (es.flatMap entB,0) k=(es.take k,(es.drop k).flatMap entB,0):=by
   intro k
   induction k with
   | zero=>intro _;simp [runR]
   | succ k ih =>
    intro hk
    have h1:=runE_lay es [] hok (k+1) hk
    rw [List.append_nil,List.append_nil] at h1
    have h0:=runE_lay es [] hok k (by omega)
    rw [List.append_nil,List.append_nil] at h0
    have hE:stepE (es.take k,(es.drop k).flatMap entB,0)=(es.take (k+1),(es.drop (k+1)).flatMap entB,0):=by rw [← h0,← h1];rfl
    rw [runR,ih (by omega)]
    have hlay:stepR (es.take k,(es.drop k).flatMap entB,0)=stepE (es.take k,(es.drop k).flatMap entB,0):=by
     rw [List.drop_eq_getElem_cons (by omega),List.flatMap_cons]
     have hk2:=hok _ (List.getElem_mem (l:=es) (n:=k) (by omega))
     obtain ⟨E,hEE⟩:∃ E,E=es[k]:=⟨_,rfl⟩
     rw [← hEE] at hk2 ⊢
     obtain ⟨name,dir,id⟩:=E
     have q1:=numS1_lay (dirN dir) (by unfold dirN;split <;> omega) (layS name++(id++(es.drop (k+1)).flatMap entB))
     have q2:=sizedS_lay name (id++(es.drop (k+1)).flatMap entB) hk2.2
     have q3:=rawS_lay id ((es.drop (k+1)).flatMap entB) 32 hk2.1
     have e1:entB ⟨name,dir,id⟩++(es.drop (k+1)).flatMap entB=lb (dirN dir) 1++(layS name++(id++(es.drop (k+1)).flatMap entB)):=by simp [entB]
     unfold stepR stepE
     simp only [e1,q1,q2]
     rw [show (32:Int)=((32:Nat):Int) from rfl,q3]
     simp only [pad32_id _ hk2.1]
    rw [hlay,hE]
  have hj:j=es.length:=by
   rcases hs.2.2 with h1 | h1
   ·exact h1
   ·have:=hrun j hs.1
    have h2:(runR (es.flatMap entB,0) j).2.2=0:=by rw [this]
    exact absurd h2 h1
  rw [hj,hrun _ (Nat.le_refl _)]
  simp [doneS]
 exact ⟨⟨fun h=>by rw [← hfwd h];exact h.2,fun h=>⟨(hbwd h).1,by rw [(hbwd h).2];exact h⟩⟩,fun h=>(hbwd h).2⟩
end Go.Proofs.YtlifmipnoeioaaaGreatDoor
