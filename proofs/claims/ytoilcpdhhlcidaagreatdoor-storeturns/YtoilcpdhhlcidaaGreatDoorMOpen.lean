/- Lemmas. -/
import Derived.Test.YtoilcpdhhlcidaaGreatDoorSpOp
import Derived.Lib.Strings
import Derived.Laws.AppendOwnNone
import Derived.Lib.OthersKept
import Derived.Lib.SlBytesConst
namespace Go.Proofs.YtoilcpdhhlcidaaGreatDoor
open Go.RowKit
section
variable {S:List (List UInt8)} {h c g:Nat} {ls:List (List Chg)} {e:Nat}
theorem zm9 (a:StoS shaL S h c g ls e) {g' p' : Nat} {ls' : List (List Chg)} (b:HfS S (c*h+h) (c*h) g' p' ls'):g'=g∧p'=e∧ls'.length=ls.length∧zaj [] ls'.flatten=zaj [] ls.flatten:=by
 have hg:=a.g64
 have hc:=a.c01
 have hl:=a.len
 obtain ⟨l,ls0,rfl⟩:=List.exists_cons_of_ne_nil a.ne
 rcases b with ⟨_,_,_,h4⟩ | ⟨h1,h2,h3,h4⟩
 ·exact absurd a.recs.1 (h4 g a.g1 (by omega) l)
 ·obtain ⟨l',ls0',rfl⟩:=List.exists_cons_of_ne_nil h1
  have e1:=(MkS.one zbf (a.recs.1.mks (by omega) (by omega)) (h4.1.mks h3 (by omega))).1
  subst e1
  have hf:=h4.fits (by rcases (show c=0∨c=1 by omega) with rfl | rfl <;> omega)
  have hn:=h4.len
  have hb:(l'::ls0').length<18446744073709551616:=by
   have:c*h+h≤2*h:=by rcases (show c=0∨c=1 by omega) with rfl | rfl <;> omega
   omega
  have q:=zbc.one zbf (by omega) (by simpa using hb) (by simp only[List.length_cons] at hg ⊢;omega) h4 a.recs
  refine ⟨rfl,q.2,?_,zf4 q.1⟩
  have:=congrArg List.length q.1
  simpa using this
theorem zj5 (a:StoS shaL S h c g ls e) {g' p' : Nat} {ls' : List (List Chg)} (b:HfS S ((1 - c)*h+h) ((1 - c)*h) g' p' ls'):g'<g:=by
 have h1:=a.g1
 rcases b with ⟨_,h2,_⟩ | ⟨h2,h3,h4,h5⟩
 ·omega
 ·obtain ⟨l',ls0',rfl⟩:=List.exists_cons_of_ne_nil h2
  have hh:(1 - c)*h<(1 - c)*h+h:=by
   have:=h5.1.fits
   omega
  exact a.old _ (Nat.le_refl _) hh g' 0 _ (h5.1.mks h4 (by omega))
end
theorem zna {S:List (List UInt8)} {hi f g p:Nat} {ls:List (List Chg)} (hn:∀ g n b,¬ MkS shaL S[f]? g n b) (b:HfS S hi f g p ls):g=0:=by
 rcases b with ⟨_,h2,_⟩ | ⟨h2,h3,h4,h5⟩
 ·exact h2
 ·obtain ⟨l',ls0',rfl⟩:=List.exists_cons_of_ne_nil h2
  exact absurd (h5.1.mks h4 (by omega)) (hn _ _ _)
theorem znb {u w:World} {F:List Nat} {d:Nat} {S:List (List UInt8)} {c g:Nat} {ls:List (List Chg)} {p:Nat} {rs:RSt} (h:Dw u w F d ⟨S,[],-1,false⟩) (on:OnS shaL S c g ls p rs) (hT:Tabs w) (hn:S.length / 2=rs.half) (h8:8≤S.length) :
  Calls Tryz.prog 10 #[.pointer (some ⟨d,0,none⟩)] w fun x w'=>∃ s m,x = .returned (.tuple #[.pointer (some ⟨s,0,none⟩),.int .i64 0])∧StM u w' F s d m S c g ls p rs∧w.grownBy w' none∧w.heap.size≤s∧w.heap.size≤m:=by
 have hc:=on.sto.c01
 have hg1:=on.sto.g1
 have hus:=h.gb.size
 have fin:∀ (w' : World) s m,w.grownBy w' none→Blk w' s 71 (stC d (c*rs.half) (c*rs.half+rs.half) p g ls.length m false)→VmW w' m (s::F) rs.V→w.heap.size≤s→w.heap.size≤m→StM u w' F s d m S c g ls p rs:=fun w' s m g1 g2 g3 g4 g5 =>
  ⟨h.nn g1,g2,g3,on,fun hx=>by have:=(h.lo s hx).2;omega,by omega,fun hx=>by have:=(h.lo m hx).2;omega,by omega,hn⟩
 refine (zj4 h rfl rfl hT rs.half hn h8).mono fun x w' q => ?_
 obtain ⟨ls0,g0,p0,ls1,g1,p1,q⟩:=q
 have hh0:=q.h0
 have hh1:=q.h1
 simp only at hh0 hh1
 rcases (show c=0∨c=1 by omega) with rfl | rfl
 ·obtain ⟨e1,e2,e3,e4⟩:=zm9 on.sto (by rw[Nat.zero_mul,Nat.zero_add];exact hh0)
  have e5:g1<g:=zj5 on.sto (by rw[Nat.sub_zero,Nat.one_mul,← Nat.two_mul];exact hh1)
  subst e1 e2
  obtain ⟨s,m,q1,q2,q3,q4,q5,q6⟩:=q.zero (by omega) (by omega)
  refine ⟨s,m,q1,fin w' s m q2 ?_ ?_ q5 q6,q2,q5,q6⟩
  ·rw[Nat.zero_mul,Nat.zero_add,← e3];exact q3
  ·rw[on.V,← e4];exact q4
 ·obtain ⟨e1,e2,e3,e4⟩:=zm9 on.sto (by rw[Nat.one_mul,← Nat.two_mul];exact hh1)
  have e5:g0<g:=zj5 on.sto (by rw[Nat.sub_self,Nat.zero_mul,Nat.zero_add];exact hh0)
  subst e1 e2
  obtain ⟨s,m,q1,q2,q3,q4,q5,q6⟩:=q.one (by omega)
  refine ⟨s,m,q1,fin w' s m q2 ?_ ?_ q5 q6,q2,q5,q6⟩
  ·rw[Nat.one_mul,← Nat.two_mul,← e3];exact q3
  ·rw[on.V,← e4];exact q4
theorem zhc {u w:World} {F:List Nat} {d:Nat} {S:List (List UInt8)} (h:Dw u w F d ⟨S,[],-1,false⟩) (hm:∀ (q g n:Nat) (b:List UInt8),¬ MkS shaL S[q]? g n b) (hT:Tabs w) (h8:8≤S.length) :
  Calls Tryz.prog 10 #[.pointer (some ⟨d,0,none⟩)] w fun x w'=>∃ s m F',x = .returned (.tuple #[.pointer (some ⟨s,0,none⟩),.int .i64 0])∧StM u w' F' s d m (wrS shaL S 0 1 0 []) 0 1 [[]] 2 ⟨[],S.length / 2,2,0⟩∧Fr w w' F∧(∀ y∈F',y∈F∨w.heap.size≤y)∧w.heap.size≤s∧w.heap.size≤m:=by
 have hus:=h.gb.size
 have hmost:S.length≤2048:=h.at_.ok.most
 refine (zj4 h rfl rfl hT (S.length / 2) rfl h8).mono fun x w' q => ?_
 obtain ⟨ls0,g0,p0,ls1,g1,p1,q⟩:=q
 have e0:=zna (hm 0) q.h0
 have e1:=zna (hm _) q.h1
 obtain ⟨F',q1,q2,q3,_,q5⟩:=q.new (by omega) e0
 rw[zhb (S:=S) (p:=0) (g:=1) (r:=0) (l:=[]) h.at_.ok.wide (show 0+2≤S.length by omega)] at q1 q5
 obtain ⟨s,m,r1,r2,r3,r4,r5,r6,r7⟩:=q5 rfl
 refine ⟨s,m,F',r1,⟨q1,?_,r3,OnS.begin zbf (by omega) (by omega) (by omega) (fun q _=>hm q),r4,by omega,r5,by omega,by rw[zci]⟩,q3,q2,r6,r7⟩
 rw[Nat.zero_mul,Nat.zero_add]
 exact r2
theorem zc5 (n:Nat):∀ (q g m:Nat) (b:List UInt8),¬ MkS shaL (List.replicate n zsec)[q]? g m b:=fun q g m b h=>by
 have:=h.is
 rw[List.getElem?_replicate] at this
 split at this
 ·injection this with this
  exact zik this
 ·cases this
def stv (x:List UInt8):Value := .string (str x)
def Stg (w:World) (base:Nat) (v:Value) (L:List (List UInt8)):Prop:=w.ownsRow base 9 1 v L.length (L.map stv)
theorem Stg.nil (w:World) (base:Nat):Stg w base (.slice none 0 0) []:=World.ownsRow_nil w base _ 1
theorem Stg.kept {w a:World} {base:Nat} {v:Value} {L:List (List UInt8)} (h:Stg w base v L) (g:w.grownBy a none):Stg a base v L :=
 World.ownsRow.kept h g (by cases v.ownBlock <;> simp)
structure Stl (w:World) (base:Nat) (ao:Option Addr) (c:Nat) (L:List (List UInt8)):Prop where
 zip:ao=none→L.length=0
 new:∀ ad,ao=some ad→base≤ad.block∧ad.block<w.heap.size
 cell:∀ ad,ao=some ad→ad.off=0∧ad.spot=none∧∀ i (h:i<L.length),w.cell? ⟨ad.block,i,none⟩=some (.string (str L[i]))
theorem Stg.open {w:World} {base:Nat} {v:Value} {L:List (List UInt8)} (h:Stg w base v L):∃ ao c,v = .slice ao L.length c∧Stl w base ao c L:=by
 rcases h.2 with ⟨rfl,h2⟩ | ⟨g,cap,cur,rfl,hg,hh,h3,h4,h5,h6⟩
 ·rw[h2]
  exact ⟨none,0,rfl,fun _=>h2,(fun _ e=>by cases e),(fun _ e=>by cases e)⟩
 ·refine ⟨some ⟨g,0,none⟩,cap,rfl,(fun e=>by cases e),(fun ad e => ?_),(fun ad e => ?_)⟩
  ·cases e
   exact ⟨hg,(Array.getElem?_eq_some_iff.1 hh).1⟩
  ·cases e
   refine ⟨rfl,rfl,fun i hi => ?_⟩
   have h7:(cur.toList.take (L.length*1))[i]? = (L.map stv)[i]? := by rw[h6]
   rw[List.getElem?_take_of_lt (by omega)] at h7
   simp[World.cell?,hh,hi,stv] at h7 ⊢
   exact h7
theorem Stl.kept {w a:World} {base:Nat} {ao:Option Addr} {c:Nat} {L:List (List UInt8)} (h:Stl w base ao c L) (g:w.grownBy a none):Stl a base ao c L :=
 ⟨h.zip,fun ad e=>⟨(h.new ad e).1,Nat.lt_of_lt_of_le (h.new ad e).2 g.size⟩,fun ad e=>⟨(h.cell ad e).1,(h.cell ad e).2.1,fun i hi=>g.cell ((h.cell ad e).2.2 i hi) (by simp)⟩⟩
theorem Stl.lower {w:World} {base b2:Nat} {ao:Option Addr} {c:Nat} {L:List (List UInt8)} (h:Stl w base ao c L) (hb:b2≤base):Stl w b2 ao c L :=
 ⟨h.zip,fun ad e=>⟨Nat.le_trans hb (h.new ad e).1,(h.new ad e).2⟩,h.cell⟩
theorem Stl.at {w:World} {base:Nat} {ao:Option Addr} {c:Nat} {L:List (List UInt8)} (h:Stl w base ao c L) (i:Nat) (hi:i<L.length):∃ b,ao=some ⟨b,0,none⟩∧w.cell? ⟨b,i,none⟩=some (.string (str L[i])):=by
 cases ao with
 | none=>have:=h.zip rfl;omega
 | some ad =>
   obtain ⟨h1,h2,h3⟩:=h.cell ad rfl
   obtain ⟨b,o,s⟩:=ad
   simp only at h1 h2
   subst h1 h2
   exact ⟨b,rfl,h3 i hi⟩
def keysP (V:List (List UInt8 × List UInt8)) (pf:List UInt8):List (List UInt8):=(zdc V).filter fun k=>Lib.hasPrefix k pf
theorem StM.gb {u w:World} {F:List Nat} {s d m:Nat} {S:List (List UInt8)} {c g:Nat} {ls:List (List Chg)} {p:Nat} {rs:RSt} (h:StM u w F s d m S c g ls p rs):u.grownBy w none:=h.dw.gb
theorem znc (V:World) (l:List UInt8) (mk:Nat × Nat) (h:l.length≤maxLen):Bts (V.alloc (.cells (l.map bv).toArray 5 mk)) (some ⟨V.heap.size,0,none⟩) l.length l:=by
 refine ⟨(fun e=>by cases e),Nat.le_refl _,h,(fun ad e _=>by cases e;rfl),(fun ad e i hi => ?_)⟩
 cases e
 show (V.alloc (.cells (l.map bv).toArray 5 mk)).cell? ⟨V.heap.size,0+i,none⟩=_
 rw[Nat.zero_add,cell_of_row _ _ i _ _ _ (heap_alloc_new V _)]
 simp[hi,bv]
def oneL:List Chg:=[⟨[97],[98],false⟩]
theorem zog:MayC oneL:=⟨by decide,fun c hc=>by rw[List.mem_singleton.1 hc];exact ⟨by decide,by decide,by decide⟩⟩
theorem zp1:cmS ⟨[],4,2,0⟩ oneL=(⟨[([97],[98])],4,4,0⟩,0):=by
 unfold cmS
 rw[if_neg (fun e=>e zog),if_neg (by simp[oneL]),if_pos (by decide)]
 rfl
set_option maxRecDepth 100000 in
set_option maxHeartbeats 4000000 in
theorem znd (w:World) (hT:Tabs w):Calls Tryz.prog 21 #[] w fun e w'=>e = .returned (.bool true)∧w.grownBy w' none:=by
 have cn:=lnew (zab w none) 8 (by decide) (by decide)
 rw[show ((8:Nat):Int)=8 from rfl] at cn
 have HT:=hide hT
 clear hT
 go_enter Tryz.func21,Tryz.ntmps21
 go_wp2_with (go_at_call 9;fail)
 refine cn.mono ?_
 rintro e w1 ⟨d,F,rfl,hd1,hF,g1⟩
 have co:=zhc hd1 (zc5 8) ((uh HT).kept0 g1) (by simp)
 clear cn hF
 go_wp2_with (go_at_call 10;fail)
 refine co.mono ?_
 rintro e w2 ⟨s,m,F',rfl,hs2,-,-,-,-⟩
 have cl:=zj3 w2 s d _ _ _ _ _ _ _ hs2.blk (by simp) (by simp)
 rw[show ((0*(⟨[],(List.replicate 8 zsec).length / 2,2,0⟩:RSt).half+(⟨[],(List.replicate 8 zsec).length / 2,2,0⟩:RSt).half - 2:Nat):Int)=2 by simp] at cl
 have HS2:=hide hs2
 clear co hs2 hd1 g1
 go_upto_region 3 with fail
 refine zai fun O hO => ?_
 refine zaa (by rw[hO];kernel_rfl) (.int .i64 0) (fun K9 hK9=>by go_simp;exact hK9) ?_
 (try simp only[pq])
 refine zaa (by rw[hO];kernel_rfl) (.bool false) (fun K9 hK9=>by go_simp;exact hK9) ?_
 (try simp only[pq])
 refine zaa (by rw[hO];kernel_rfl) (.bool false) (fun K9 hK9=>by go_simp;exact hK9) ?_
 (try simp only[pq])
 refine zaa (by rw[hO];kernel_rfl) (.pointer (some ⟨s,0,none⟩)) (fun K9 hK9=>by go_simp;exact hK9) ?_
 (try simp only[pq])
 refine zaa (by rw[hO];kernel_rfl) (.bool false) (fun K9 hK9=>by go_simp;exact hK9) ?_
 (try simp only[pq])
 refine zaa (by rw[hO];kernel_rfl) (.bool false) (fun K9 hK9=>by go_simp;exact hK9) ?_
 (try simp only[pq])
 refine zaa (by rw[hO];kernel_rfl) (.bool false) (fun K9 hK9=>by go_simp;exact hK9) ?_
 (try simp only[pq])
 refine zaa (by rw[hO];kernel_rfl) (.pointer (some ⟨s,0,none⟩)) (fun K9 hK9=>by go_simp;exact hK9) ?_
 (try simp only[pq])
 refine zam (by rw[hO];kernel_rfl) fun K9 hK9 => ?_
 go_simp
 go_at_call 17
 refine (cl).mono ?_
 rintro e w9 ⟨rfl,g9⟩
 have HG9:=hide g9
 clear cl g9
 refine hK9 _ _ ?_
 clear hK9 K9
 (try simp only[pq])
 refine zaa (by rw[hO];kernel_rfl) (.bool false) (fun K9 hK9=>by go_simp;exact hK9) ?_
 (try simp only[pq])
 refine zaa (by rw[hO];kernel_rfl) (.bool false) (fun K9 hK9=>by go_simp;exact hK9) ?_
 (try simp only[pq])
 have hs9:=(uh HS2).nn (uh HG9)
 have HS9:=hide hs9
 obtain ⟨W3,hW3⟩:∃ W,W=w9.alloc (.cells #[.int .u8 98] 5 (1,2)):=⟨_,rfl⟩
 have g3:w9.grownBy W3 none:=by rw[hW3];exact zad (zab _ _) _
 have hcv:(convert 53 53 (.slice (some ⟨w9.heap.size,0,none⟩) 1 1)).run Tryz.prog (w9.alloc (.cells #[.int .u8 98] 5)) = .ok (.slice (some ⟨w9.heap.size,0,none⟩) 1 1) W3:=by
  rw[hW3];exact Lib.run_convert_bytes_const (P:=Tryz.prog) w9 53 5 #[.int .u8 98] 1 1 Tryz.underlying53 Tryz.underlying5
 have hbx3:Bts W3 (some ⟨w9.heap.size,0,none⟩) 1 [98]:=by rw[hW3];exact znc w9 [98] (1,2) (by unfold maxLen;decide)
 obtain ⟨W4,hW4,hB4,g4⟩:=zak W3 55 [.string ⟨#[97]⟩,.slice (some ⟨w9.heap.size,0,none⟩) 1 1,.bool false]
 have hx4:Rws W4 3 ciC (some ⟨W3.heap.size,0,none⟩) 1 [(⟨[97],some ⟨w9.heap.size,0,none⟩,1,[98],false⟩:ChI)]:=zg6 (show Blk W4 W3.heap.size 55 (ciC ⟨[97],some ⟨w9.heap.size,0,none⟩,1,[98],false⟩) from hB4)
 have hbx:Bts W4 (some ⟨w9.heap.size,0,none⟩) 1 [98]:=hbx3.kept g4 (fun _ e=>by cases e)
 have hs4:=(hs9.nn g3).nn g4
 have hlow:∀ x∈m::s::F',x<w9.heap.size:=fun x hx=>by
  simp only[List.mem_cons] at hx
  rcases hx with rfl | rfl | hx
  ·exact hs9.vm.lt
  ·exact hs9.blk.lt
  ·exact (hs9.dw.lo x hx).2
 have hcs:CsG W4 (some ⟨W3.heap.size,0,none⟩) 1 [(⟨[97],some ⟨w9.heap.size,0,none⟩,1,[98],false⟩:ChI)] (m::s::F'):=by
  refine ⟨⟨hx4,fun x hx=>by rw[List.mem_singleton.1 hx];exact hbx⟩,fun ad e _ hm => ?_,fun x hx ad e _ hm => ?_⟩
  ·cases e
   have h1:=hlow _ hm
   have h2:=g3.size
   simp only at h1
   omega
  ·rw[List.mem_singleton.1 hx] at e
   cases e
   have h1:=hlow _ hm
   simp only at h1
   omega
 have hT4:=(uh HT).kept0 hs4.gb
 have cc:=zca hs4 hT4 _ _ _ hcs (by simp) (by simp) (by simp)
 rw[show ([(⟨[97],some ⟨w9.heap.size,0,none⟩,1,[98],false⟩:ChI)]).map ChI.chg=oneL from rfl,show (⟨[],(List.replicate 8 zsec).length / 2,2,0⟩:RSt)=⟨[],4,2,0⟩ by simp,zp1,show ([(⟨[97],some ⟨w9.heap.size,0,none⟩,1,[98],false⟩:ChI)]).length=1 from rfl] at cc
 have HW4:=hide (show W4=W3.alloc (.cells #[.string ⟨#[97]⟩,.slice (some ⟨w9.heap.size,0,none⟩) 1 1,.bool false] 55) from hW4)
 clear hs9 hW3 hbx3 g3 hW4 hB4 g4 hx4 hbx hs4 hlow hcs hT4
 go_wp2_with (first
  | (rw[← uh HW4])
  | (go_at_call 15;fail))
 refine cc.mono ?_
 rintro e w5 ⟨rfl,F2,m2,S2,c2,g2,ls2,p2,hs5,-⟩
 have hn5:=hs5.hn
 simp only at hn5
 have co:=znb hs5.dw hs5.on ((uh HT).kept0 hs5.gb) hn5 (by omega)
 clear cc hs5 hn5
 go_wp2_with (go_at_call 10;fail)
 refine co.mono ?_
 rintro e w6 ⟨s6,m6,rfl,hs6,-⟩
 have cg:=zm7 w6 s6 d _ _ _ _ _ _ _ hs6.blk _ _ hs6.vm [97] (by simp[getK])
 rw[show (getK (⟨[([97],[98])],4,4,0⟩:RSt).V [97])=some [98] from rfl] at cg
 simp only[Option.getD_some,List.length_cons,List.length_nil,Option.isSome_some,Nat.zero_add] at cg
 rw[show str [97]=⟨#[97]⟩ from rfl] at cg
 have HS6:=hide hs6
 clear co hs6
 go_wp2_with (go_at_call 25;fail)
 refine cg.mono ?_
 rintro e w7 ⟨ga,gc,rfl,hb7,g7⟩
 have HCV:=hide (show (convert 53 9 (.slice ga 1 gc)).run Tryz.prog w7 = .ok (.string ⟨#[98]⟩) w7 from zbq hb7)
 have HG7:=hide g7
 clear cg hb7 g7
 go_upto_region 8 with fail
 refine zai fun O hO => ?_
 refine zaa (by rw[hO];kernel_rfl) (.int .i64 0) (fun K9 hK9=>by go_simp;exact hK9) ?_
 (try simp only[pq])
 refine zaa (by rw[hO];kernel_rfl) (.bool true) (fun K9 hK9=>by go_simp;exact hK9) ?_
 (try simp only[pq])
 refine zaa (by rw[hO];kernel_rfl) (.bool true) (fun K9 hK9=>by go_simp;exact hK9) ?_
 (try simp only[pq])
 refine zaa (by rw[hO];kernel_rfl) (.int .i64 0) (fun K9 hK9=>by go_simp;exact hK9) ?_
 (try simp only[pq])
 refine zaa (by rw[hO];kernel_rfl) (.bool true) (fun K9 hK9=>by go_simp;exact hK9) ?_
 (try simp only[pq])
 refine zaa (by rw[hO];kernel_rfl) (.bool true) (fun K9 hK9=>by go_simp;exact hK9) ?_
 (try simp only[pq])
 refine zaa (by rw[hO];kernel_rfl) (.bool true) (fun K9 hK9=>by go_simp;exact hK9) ?_
 (try simp only[pq])
 refine zaa (by rw[hO];kernel_rfl) (.bool true) (fun K9 hK9=>by go_simp;exact hK9) ?_
 (try simp only[pq])
 refine zaa (by rw[hO];kernel_rfl) (.bool true) (fun K9 hK9=>by go_simp;exact hK9) ?_
 (try simp only[pq])
 refine zaa (by rw[hO];kernel_rfl) (.bool true) (fun K9 hK9=>by go_simp;exact hK9) ?_
 (try simp only[pq])
 refine zaa (by rw[hO];kernel_rfl) (.slice ga 1 gc) (fun K9 hK9=>by go_simp;exact hK9) ?_
 (try simp only[pq])
 refine zaa (by rw[hO];kernel_rfl) (.string ⟨#[98]⟩) (fun K9 hK9=>by have hv1:=uh HCV;go_simp;exact hK9) ?_
 (try simp only[pq])
 refine zaa (by rw[hO];kernel_rfl) (.bool true) (fun K9 hK9=>by go_simp;exact hK9) ?_
 (try simp only[pq])
 refine zaa (by rw[hO];kernel_rfl) (.bool true) (fun K9 hK9=>by go_simp;exact hK9) ?_
 (try simp only[pq])
 refine zaa (by rw[hO];kernel_rfl) (.bool true) (fun K9 hK9=>by go_simp;exact hK9) ?_
 (try simp only[Act.put,pq1,pq2])
 go_wp2
 go_ret
 exact ⟨rfl,tn (uh HS6).gb (uh HG7)⟩
section
variable {u w:World} {F:List Nat} {s d m:Nat} {S:List (List UInt8)} {c g:Nat} {ls:List (List Chg)} {p:Nat} {rs:RSt} (h:StM u w F s d m S c g ls p rs)
include h
theorem zdb:Calls Tryz.prog 17 #[.pointer (some ⟨s,0,none⟩)] w fun x w'=>x = .returned (.int .i64 ((rs.half - rs.used:Nat):Int))∧w.grownBy w' none:=by
 obtain ⟨b1,b2,b3,b4,b5,b6,b7⟩:=h.bnd
 have hle:c*rs.half≤1*rs.half:=Nat.mul_le_mul_right _ b3
 refine (zj3 w s d _ _ _ _ _ _ _ h.blk (by omega) (by omega)).mono fun x w' q=>⟨?_,q.2⟩
 rw[q.1,show c*rs.half+rs.half - p=rs.half - rs.used by omega]
theorem zcb (hm:rs.moves≤1000000000):Calls Tryz.prog 18 #[.pointer (some ⟨s,0,none⟩)] w fun x w'=>x = .returned (.int .u64 (rs.moves:Int))∧w'=w:=by
 obtain ⟨b1,b2,b3,b4,b5,b6,b7⟩:=h.bnd
 refine (zm6 w s d _ _ _ _ _ _ _ h.blk (by omega) (by omega)).mono fun x w' q=>⟨?_,q.2⟩
 rw[q.1,show g - 1=rs.moves by omega]
theorem zne (k:List UInt8):((getK rs.V k).getD []).length≤65536:=by
 have hk:=h.on.keys
 generalize rs.V=V at hk
 induction V with
 | nil=>simp[getK]
 | cons y V ih =>
   obtain ⟨a,x⟩:=y
   rw[getK]
   split
   ·exact (hk (a,x) (by simp)).2.2
   ·exact ih fun z hz=>hk z (by simp[hz])
theorem znf (k:List UInt8):Calls Tryz.prog 25 #[.pointer (some ⟨s,0,none⟩),.string (str k)] w fun x w'=>∃ ao c,x = .returned (.tuple #[.slice ao ((getK rs.V k).getD []).length c,.bool (getK rs.V k).isSome])∧Bts w' ao c ((getK rs.V k).getD [])∧w.grownBy w' none :=
 zm7 w s d _ _ _ _ _ _ _ h.blk _ _ h.vm k (by have:=zne h k;omega)
theorem zj6 (hT:Tabs w) (h8:8≤S.length):Calls Tryz.prog 10 #[.pointer (some ⟨d,0,none⟩)] w fun x w'=>∃ s' m',x = .returned (.tuple #[.pointer (some ⟨s',0,none⟩),.int .i64 0])∧StM u w' F s' d m' S c g ls p rs∧w.grownBy w' none∧w.heap.size≤s' :=
 (znb h.dw h.on hT h.hn h8).mono fun x w' q=>by
  obtain ⟨s',m',q1,q2,q3,q4,-⟩:=q
  exact ⟨s',m',q1,q2,q3,q4⟩
theorem zhd:∀ x∈m::s::F,u.heap.size≤x∧x<w.heap.size:=fun x hx=>by
 simp only[List.mem_cons] at hx
 rcases hx with rfl | rfl | hx
 ·exact ⟨h.mU,h.vm.lt⟩
 ·exact ⟨h.sU,h.blk.lt⟩
 ·exact h.dw.lo x hx
end
theorem zgo {w:World} {b m m' s:Nat} {F F' : List Nat} (h:b∉m::s::F) (hb:b<w.heap.size) (hF:∀ y∈F',y∈F∨w.heap.size≤y) (hm:m'=m∨w.heap.size≤m'):b∉m'::s::F':=fun hx=>by
 simp only[List.mem_cons] at hx h
 rcases hx with rfl | rfl | hx
 ·rcases hm with e | e
  ·exact h (Or.inl e)
  ·omega
 ·exact h (Or.inr (Or.inl rfl))
 ·rcases hF _ hx with e | e
  ·exact h (Or.inr (Or.inr e))
  ·omega
theorem zil {V:World} {base b:Nat} {l:List UInt8} (h:Blk V b 5 (l.map bv)) (hb:base≤b) (hl:l.length≤maxLen):V.ownsRow base 5 1 (.slice (some ⟨b,0,none⟩) l.length l.length) l.length (l.map bv) :=
 ⟨by simp,.inr ⟨b,l.length,(l.map bv).toArray,rfl,hb,h,Nat.le_refl _,hl,by simp,by rw[Nat.mul_one];exact List.take_of_length_le (by simp)⟩⟩
theorem zor (k:Nat) (hk:k≤255):bv (UInt8.ofNat k) = .int .u8 (k:Int):=by
 unfold bv
 rw[UInt8.toNat_ofNat']
 congr 1
 omega
theorem zhe {u w:World} {F:List Nat} {s d m:Nat} {S:List (List UInt8)} {c g:Nat} {ls:List (List Chg)} {p:Nat} {rs:RSt} (h:StM u w F s d m S c g ls p rs) {a:World} {b:Nat} {bo:Nat} {n bc:Nat} {l k:List UInt8} (hn:n=l.length)
  (hb:Blk a b 55 [.string (str k),.slice (some ⟨bo,0,none⟩) n bc,.bool false]) (hl:Bts a (some ⟨bo,0,none⟩) bc l) (h1:w.heap.size≤b) (h2:w.heap.size≤bo) :
  ∃ x:ChI,x.chg=⟨k,l,false⟩∧CsG a (some ⟨b,0,none⟩) 1 [x] (m::s::F):=by
 subst hn
 refine ⟨⟨k,some ⟨bo,0,none⟩,bc,l,false⟩,rfl,⟨⟨zg6 (show Blk a b 55 (ciC ⟨k,some ⟨bo,0,none⟩,bc,l,false⟩) from hb),fun x hx=>by rw[List.mem_singleton.1 hx];exact hl⟩,fun ad e _ hm => ?_,fun x hx ad e _ hm => ?_⟩⟩
 ·cases e
  have h3:=(zhd h _ hm).2
  simp only at h3
  omega
 ·rw[List.mem_singleton.1 hx] at e
  cases e
  have h3:=(zhd h _ hm).2
  simp only at h3
  omega
end Go.Proofs.YtoilcpdhhlcidaaGreatDoor

/- Lemmas. -/
namespace Go.Proofs.YtoilcpdhhlcidaaGreatDoor
open Go.ChangeShapes Go.WideShapes Go.ChangeAt Go.RowKit Go.Deep
end Go.Proofs.YtoilcpdhhlcidaaGreatDoor
