/- Lemmas. -/
import Derived.Lib.Strings
import Derived.Laws.AppendOwnNone
import Derived.Lib.OthersKept
import Derived.Test.YtoilcpdhhlcidaaGreatDoorMOpen
import Derived.Lib.SlBytesConst
namespace Go.Proofs.YtoilcpdhhlcidaaGreatDoor
open Go.RowKit
set_option maxRecDepth 100000
def stv (x:List UInt8):Value := .string (str x)
def Stg (w:World) (base:Nat) (v:Value) (L:List (List UInt8)):Prop:=w.ownsRow base 9 1 v L.length (L.map stv)
theorem Stg.nil (w:World) (base:Nat):Stg w base (.slice none 0 0) []:=World.ownsRow_nil w base _ 1
theorem Stg.kept {w a:World} {base:Nat} {v:Value} {L:List (List UInt8)} (h:Stg w base v L) (g:w.grownBy a none):Stg a base v L :=
 World.ownsRow.kept h g (by cases v.ownBlock <;> simp)
structure Stl (w:World) (base:Nat) (ao:Option Addr) (c:Nat) (L:List (List UInt8)):Prop where
 zip:ao=none→L.length=0
 new:∀ ad,ao=some ad→base≤ad.block∧ad.block<w.heap.size
 cell:∀ ad,ao=some ad→ad.off=0∧ad.spot=none∧∀ i (h:i<L.length),w.cell? ⟨ad.block,i,none⟩=some (.string (str L[i]))
theorem Stg.open {w:World} {base:Nat} {v:Value} {L:List (List UInt8)} (h:Stg w base v L):∃ ao c,v = .slice ao L.length c∧Stl w base ao c L:=by
 rcases h.2 with ⟨rfl,h2⟩ | ⟨g,cap,cur,rfl,hg,hh,h3,h4,h5,h6⟩
 ·rw[h2]
  exact ⟨none,0,rfl,fun _=>h2,(fun _ e=>by cases e),(fun _ e=>by cases e)⟩
 ·refine ⟨some ⟨g,0,none⟩,cap,rfl,(fun e=>by cases e),(fun ad e => ?_),(fun ad e => ?_)⟩
  ·cases e
   exact ⟨hg,(Array.getElem?_eq_some_iff.1 hh).1⟩
  ·cases e
   refine ⟨rfl,rfl,fun i hi => ?_⟩
   have h7:(cur.toList.take (L.length*1))[i]? = (L.map stv)[i]? := by rw[h6]
   rw[List.getElem?_take_of_lt (by omega)] at h7
   simp[World.cell?,hh,hi,stv] at h7 ⊢
   exact h7
theorem Stl.kept {w a:World} {base:Nat} {ao:Option Addr} {c:Nat} {L:List (List UInt8)} (h:Stl w base ao c L) (g:w.grownBy a none):Stl a base ao c L :=
 ⟨h.zip,fun ad e=>⟨(h.new ad e).1,Nat.lt_of_lt_of_le (h.new ad e).2 g.size⟩,fun ad e=>⟨(h.cell ad e).1,(h.cell ad e).2.1,fun i hi=>g.cell ((h.cell ad e).2.2 i hi) (by simp)⟩⟩
theorem Stl.lower {w:World} {base b2:Nat} {ao:Option Addr} {c:Nat} {L:List (List UInt8)} (h:Stl w base ao c L) (hb:b2≤base):Stl w b2 ao c L :=
 ⟨h.zip,fun ad e=>⟨Nat.le_trans hb (h.new ad e).1,(h.new ad e).2⟩,h.cell⟩
theorem Stl.at {w:World} {base:Nat} {ao:Option Addr} {c:Nat} {L:List (List UInt8)} (h:Stl w base ao c L) (i:Nat) (hi:i<L.length):∃ b,ao=some ⟨b,0,none⟩∧w.cell? ⟨b,i,none⟩=some (.string (str L[i])):=by
 cases ao with
 | none=>have:=h.zip rfl;omega
 | some ad =>
   obtain ⟨h1,h2,h3⟩:=h.cell ad rfl
   obtain ⟨b,o,s⟩:=ad
   simp only at h1 h2
   subst h1 h2
   exact ⟨b,rfl,h3 i hi⟩
def keysP (V:List (List UInt8 × List UInt8)) (pf:List UInt8):List (List UInt8):=(zc6 V).filter fun k=>Lib.hasPrefix k pf
theorem StM.gb {u w:World} {F:List Nat} {s d m:Nat} {S:List (List UInt8)} {c g:Nat} {ls:List (List Chg)} {p:Nat} {rs:RSt} (h:StM u w F s d m S c g ls p rs):u.grownBy w none:=h.dw.gb
theorem zm4 (V:World) (l:List UInt8) (mk:Nat × Nat) (h:l.length≤maxLen):Bts (V.alloc (.cells (l.map bv).toArray 5 mk)) (some ⟨V.heap.size,0,none⟩) l.length l:=by
 refine ⟨(fun e=>by cases e),Nat.le_refl _,h,(fun ad e _=>by cases e;rfl),(fun ad e i hi => ?_)⟩
 cases e
 show (V.alloc (.cells (l.map bv).toArray 5 mk)).cell? ⟨V.heap.size,0+i,none⟩=_
 rw[Nat.zero_add,cell_of_row _ _ i _ _ _ (heap_alloc_new V _)]
 simp[hi,bv]
def oneL:List Chg:=[⟨[97],[98],false⟩]
theorem zn8:MayC oneL:=⟨by decide,fun c hc=>by rw[List.mem_singleton.1 hc];exact ⟨by decide,by decide,by decide⟩⟩
theorem zpt:cmS ⟨[],4,2,0⟩ oneL=(⟨[([97],[98])],4,4,0⟩,0):=by
 unfold cmS
 rw[if_neg (fun e=>e zn8),if_neg (by simp[oneL]),if_pos (by decide)]
 rfl
set_option maxHeartbeats 4000000 in
theorem zpf (w:World) (hT:Tabs w):Calls Tryz.prog 21 #[] w fun e w'=>e = .returned (.bool true)∧w.grownBy w' none:=by
 have cn:=lnew (zab w none) 8 (by decide) (by decide)
 rw[show ((8:Nat):Int)=8 from rfl] at cn
 have HT:=hide hT
 clear hT
 go_enter Tryz.func21,Tryz.ntmps21
 go_wp2_with (go_at_call 9;fail)
 refine cn.mono ?_
 rintro e w1 ⟨d,F,rfl,hd1,hF,g1⟩
 have co:=zn5 hd1 (zie 8) ((uh HT).kept0 g1) (by simp)
 clear cn hF
 go_wp2_with (go_at_call 10;fail)
 refine co.mono ?_
 rintro e w2 ⟨s,m,F',rfl,hs2,-,-,-,-⟩
 have cl:=zn4 w2 s d _ _ _ _ _ _ _ hs2.blk (by simp) (by simp)
 rw[show ((0*(⟨[],(List.replicate 8 zsec).length / 2,2,0⟩:RSt).half+(⟨[],(List.replicate 8 zsec).length / 2,2,0⟩:RSt).half - 2:Nat):Int)=2 by simp] at cl
 have HS2:=hide hs2
 clear co hs2 hd1 g1
 go_upto_region 3 with fail
 refine zal fun O hO => ?_
 refine zaa (by rw[hO];kernel_rfl) (.int .i64 0) (fun K9 hK9=>by go_simp;exact hK9) ?_
 (try simp only[pq])
 refine zaa (by rw[hO];kernel_rfl) (.bool false) (fun K9 hK9=>by go_simp;exact hK9) ?_
 (try simp only[pq])
 refine zaa (by rw[hO];kernel_rfl) (.bool false) (fun K9 hK9=>by go_simp;exact hK9) ?_
 (try simp only[pq])
 refine zaa (by rw[hO];kernel_rfl) (.pointer (some ⟨s,0,none⟩)) (fun K9 hK9=>by go_simp;exact hK9) ?_
 (try simp only[pq])
 refine zaa (by rw[hO];kernel_rfl) (.bool false) (fun K9 hK9=>by go_simp;exact hK9) ?_
 (try simp only[pq])
 refine zaa (by rw[hO];kernel_rfl) (.bool false) (fun K9 hK9=>by go_simp;exact hK9) ?_
 (try simp only[pq])
 refine zaa (by rw[hO];kernel_rfl) (.bool false) (fun K9 hK9=>by go_simp;exact hK9) ?_
 (try simp only[pq])
 refine zaa (by rw[hO];kernel_rfl) (.pointer (some ⟨s,0,none⟩)) (fun K9 hK9=>by go_simp;exact hK9) ?_
 (try simp only[pq])
 refine zag (by rw[hO];kernel_rfl) fun K9 hK9 => ?_
 go_simp
 go_at_call 17
 refine (cl).mono ?_
 rintro e w9 ⟨rfl,g9⟩
 have HG9:=hide g9
 clear cl g9
 refine hK9 _ _ ?_
 clear hK9 K9
 (try simp only[pq])
 refine zaa (by rw[hO];kernel_rfl) (.bool false) (fun K9 hK9=>by go_simp;exact hK9) ?_
 (try simp only[pq])
 refine zaa (by rw[hO];kernel_rfl) (.bool false) (fun K9 hK9=>by go_simp;exact hK9) ?_
 (try simp only[pq])
 have hs9:=(uh HS2).nn (uh HG9)
 have HS9:=hide hs9
 obtain ⟨W3,hW3⟩:∃ W,W=w9.alloc (.cells #[.int .u8 98] 5 (1,2)):=⟨_,rfl⟩
 have g3:w9.grownBy W3 none:=by rw[hW3];exact zad (zab _ _) _
 have hcv:(convert 53 53 (.slice (some ⟨w9.heap.size,0,none⟩) 1 1)).run Tryz.prog (w9.alloc (.cells #[.int .u8 98] 5)) = .ok (.slice (some ⟨w9.heap.size,0,none⟩) 1 1) W3:=by
  rw[hW3];exact Lib.run_convert_bytes_const (P:=Tryz.prog) w9 53 5 #[.int .u8 98] 1 1 Tryz.underlying53 Tryz.underlying5
 have hbx3:Bts W3 (some ⟨w9.heap.size,0,none⟩) 1 [98]:=by rw[hW3];exact zm4 w9 [98] (1,2) (by unfold maxLen;decide)
 obtain ⟨W4,hW4,hB4,g4⟩:=zam W3 55 [.string ⟨#[97]⟩,.slice (some ⟨w9.heap.size,0,none⟩) 1 1,.bool false]
 have hx4:Rws W4 3 ciC (some ⟨W3.heap.size,0,none⟩) 1 [(⟨[97],some ⟨w9.heap.size,0,none⟩,1,[98],false⟩:ChI)]:=zit (show Blk W4 W3.heap.size 55 (ciC ⟨[97],some ⟨w9.heap.size,0,none⟩,1,[98],false⟩) from hB4)
 have hbx:Bts W4 (some ⟨w9.heap.size,0,none⟩) 1 [98]:=hbx3.kept g4 (fun _ e=>by cases e)
 have hs4:=(hs9.nn g3).nn g4
 have hlow:∀ x∈m::s::F',x<w9.heap.size:=fun x hx=>by
  simp only[List.mem_cons] at hx
  rcases hx with rfl | rfl | hx
  ·exact hs9.vm.lt
  ·exact hs9.blk.lt
  ·exact (hs9.dw.lo x hx).2
 have hcs:CsG W4 (some ⟨W3.heap.size,0,none⟩) 1 [(⟨[97],some ⟨w9.heap.size,0,none⟩,1,[98],false⟩:ChI)] (m::s::F'):=by
  refine ⟨⟨hx4,fun x hx=>by rw[List.mem_singleton.1 hx];exact hbx⟩,fun ad e _ hm => ?_,fun x hx ad e _ hm => ?_⟩
  ·cases e
   have h1:=hlow _ hm
   have h2:=g3.size
   simp only at h1
   omega
  ·rw[List.mem_singleton.1 hx] at e
   cases e
   have h1:=hlow _ hm
   simp only at h1
   omega
 have hT4:=(uh HT).kept0 hs4.gb
 have cc:=zk0 hs4 hT4 _ _ _ hcs (by simp) (by simp) (by simp)
 rw[show ([(⟨[97],some ⟨w9.heap.size,0,none⟩,1,[98],false⟩:ChI)]).map ChI.chg=oneL from rfl,show (⟨[],(List.replicate 8 zsec).length / 2,2,0⟩:RSt)=⟨[],4,2,0⟩ by simp,zpt,show ([(⟨[97],some ⟨w9.heap.size,0,none⟩,1,[98],false⟩:ChI)]).length=1 from rfl] at cc
 have HW4:=hide (show W4=W3.alloc (.cells #[.string ⟨#[97]⟩,.slice (some ⟨w9.heap.size,0,none⟩) 1 1,.bool false] 55) from hW4)
 clear hs9 hW3 hbx3 g3 hW4 hB4 g4 hx4 hbx hs4 hlow hcs hT4
 go_wp2_with (first
  | (rw[← uh HW4])
  | (go_at_call 15;fail))
 refine cc.mono ?_
 rintro e w5 ⟨rfl,F2,m2,S2,c2,g2,ls2,p2,hs5,-⟩
 have hn5:=hs5.hn
 simp only at hn5
 have co:=zpe hs5.dw hs5.on ((uh HT).kept0 hs5.gb) hn5 (by omega)
 clear cc hs5 hn5
 go_wp2_with (go_at_call 10;fail)
 refine co.mono ?_
 rintro e w6 ⟨s6,m6,rfl,hs6,-⟩
 have cg:=zpd w6 s6 d _ _ _ _ _ _ _ hs6.blk _ _ hs6.vm [97] (by simp[getK])
 rw[show (getK (⟨[([97],[98])],4,4,0⟩:RSt).V [97])=some [98] from rfl] at cg
 simp only[Option.getD_some,List.length_cons,List.length_nil,Option.isSome_some,Nat.zero_add] at cg
 rw[show str [97]=⟨#[97]⟩ from rfl] at cg
 have HS6:=hide hs6
 clear co hs6
 go_wp2_with (go_at_call 25;fail)
 refine cg.mono ?_
 rintro e w7 ⟨ga,gc,rfl,hb7,g7⟩
 have HCV:=hide (show (convert 53 9 (.slice ga 1 gc)).run Tryz.prog w7 = .ok (.string ⟨#[98]⟩) w7 from zdf hb7)
 have HG7:=hide g7
 clear cg hb7 g7
 go_upto_region 8 with fail
 refine zal fun O hO => ?_
 refine zaa (by rw[hO];kernel_rfl) (.int .i64 0) (fun K9 hK9=>by go_simp;exact hK9) ?_
 (try simp only[pq])
 refine zaa (by rw[hO];kernel_rfl) (.bool true) (fun K9 hK9=>by go_simp;exact hK9) ?_
 (try simp only[pq])
 refine zaa (by rw[hO];kernel_rfl) (.bool true) (fun K9 hK9=>by go_simp;exact hK9) ?_
 (try simp only[pq])
 refine zaa (by rw[hO];kernel_rfl) (.int .i64 0) (fun K9 hK9=>by go_simp;exact hK9) ?_
 (try simp only[pq])
 refine zaa (by rw[hO];kernel_rfl) (.bool true) (fun K9 hK9=>by go_simp;exact hK9) ?_
 (try simp only[pq])
 refine zaa (by rw[hO];kernel_rfl) (.bool true) (fun K9 hK9=>by go_simp;exact hK9) ?_
 (try simp only[pq])
 refine zaa (by rw[hO];kernel_rfl) (.bool true) (fun K9 hK9=>by go_simp;exact hK9) ?_
 (try simp only[pq])
 refine zaa (by rw[hO];kernel_rfl) (.bool true) (fun K9 hK9=>by go_simp;exact hK9) ?_
 (try simp only[pq])
 refine zaa (by rw[hO];kernel_rfl) (.bool true) (fun K9 hK9=>by go_simp;exact hK9) ?_
 (try simp only[pq])
 refine zaa (by rw[hO];kernel_rfl) (.bool true) (fun K9 hK9=>by go_simp;exact hK9) ?_
 (try simp only[pq])
 refine zaa (by rw[hO];kernel_rfl) (.slice ga 1 gc) (fun K9 hK9=>by go_simp;exact hK9) ?_
 (try simp only[pq])
 refine zaa (by rw[hO];kernel_rfl) (.string ⟨#[98]⟩) (fun K9 hK9=>by have hv1:=uh HCV;go_simp;exact hK9) ?_
 (try simp only[pq])
 refine zaa (by rw[hO];kernel_rfl) (.bool true) (fun K9 hK9=>by go_simp;exact hK9) ?_
 (try simp only[pq])
 refine zaa (by rw[hO];kernel_rfl) (.bool true) (fun K9 hK9=>by go_simp;exact hK9) ?_
 (try simp only[pq])
 refine zaa (by rw[hO];kernel_rfl) (.bool true) (fun K9 hK9=>by go_simp;exact hK9) ?_
 (try simp only[Act.put,pq1,pq2])
 go_wp2
 go_ret
 exact ⟨rfl,tn (uh HS6).gb (uh HG7)⟩
def zst:List Value:=[.pointer none,.int .i64 0,.int .i64 0,.int .i64 0,.int .u64 0,.int .u64 0,.map none,.bool false]
theorem ziz (V:World):Blk (V.alloc (.cells #[.pointer none,.int .i64 0,.int .i64 0,.int .i64 0,.int .u64 0,.int .u64 0,.map none,.bool false] 71)) V.heap.size 71 zst:=Blk.new V 71 zst
set_option maxHeartbeats 4000000 in
theorem zif (w:World) (k:ByteArray) (hT:Tabs w):Calls Tryz.prog 7 #[.string k] w fun e w'=>e = .returned (.bool true)∧w.grownBy w' none:=by
 have HT:=hide hT
 have HG0:=hide (zab w none)
 clear hT
 go_enter Tryz.func7,Tryz.ntmps7
 go_wp2_with fail
 go_loopw [3] (fun i wr=>∃ j:Nat,i = .int .i64 j∧j≤2∧Hid (w.grownBy wr none)) (fun i _=>2 - (intOf i).toNat)
 case atStart=>exact ⟨0,rfl,Nat.zero_le _,HG0⟩
 case round =>
  obtain ⟨j,rfl,hj,HR⟩:=hrel
  by_cases hlt:j<2
  ·obtain ⟨W1,hW1⟩:∃ W,W=wr.alloc (.cells #[.pointer none,.int .i64 0,.int .i64 0,.int .i64 0,.int .u64 0,.int .u64 0,.map none,.bool false] 71):=⟨_,rfl⟩
   have hB1:Blk W1 wr.heap.size 71 zst:=by rw[hW1];exact ziz wr
   have g1:wr.grownBy W1 none:=by rw[hW1];exact zad (zab _ _) _
   have HG1:=hide (tn (uh HR) g1)
   obtain ⟨d,hd⟩:∃ d,d=wr.heap.size:=⟨_,rfl⟩
   rw[← hd] at hB1
   obtain ⟨HW1,HD⟩:=zh2 hW1 hd
   clear hW1 hd HR g1
   rcases (show j=0∨j=1 by omega) with rfl | rfl
   ·have hN:=zn3 W1 d (by rw[hB1.cell 0];rfl)
    obtain ⟨po,hpo⟩:∃ po,po=some (⟨d,0,none⟩:Addr):=⟨_,rfl⟩
    rw[← hpo] at hN
    have HPO:=hide hpo
    clear hpo hB1
    go_upto_region 8 with (first
     | (rw[← uh HW1,← uh HD,← uh HPO])
     | (go_at_call 25;refine (zoi W1 _ hN k).mono ?_;rintro e w2 ⟨rfl,e2⟩;subst w2))
    refine zal fun O hO => ?_
    refine zaa (by rw[hO];kernel_rfl) (.slice none 0 0) (fun K9 hK9=>by go_simp;exact hK9) ?_
    (try simp only[pq])
    refine zaa (by rw[hO];kernel_rfl) (.int .i64 0) (fun K9 hK9=>by go_simp;exact hK9) ?_
    (try simp only[pq])
    refine zaa (by rw[hO];kernel_rfl) (.bool false) (fun K9 hK9=>by go_simp;exact hK9) ?_
    (try simp only[pq])
    refine zaa (by rw[hO];kernel_rfl) (.bool false) (fun K9 hK9=>by go_simp;exact hK9) ?_
    (try simp only[pq])
    refine zaa (by rw[hO];kernel_rfl) (.bool false) (fun K9 hK9=>by go_simp;exact hK9) ?_
    (try simp only[pq])
    refine zaa (by rw[hO];kernel_rfl) (.bool false) (fun K9 hK9=>by go_simp;exact hK9) ?_
    (try simp only[pq])
    refine zaa (by rw[hO];kernel_rfl) (.bool false) (fun K9 hK9=>by go_simp;exact hK9) ?_
    (try simp only[pq])
    refine zaa (by rw[hO];kernel_rfl) (.pointer po) (fun K9 hK9=>by go_simp;exact hK9) ?_
    (try simp only[pq])
    refine zag (by rw[hO];kernel_rfl) fun K9 hK9 => ?_
    go_simp
    go_at_call 15
    refine (zid W1 _ hN none 0 0).mono ?_
    rintro e w3 ⟨rfl,e3⟩
    subst w3
    refine hK9 _ _ ?_
    clear hK9 K9
    (try simp only[pq])
    refine zaa (by rw[hO];kernel_rfl) (.bool false) (fun K9 hK9=>by go_simp;exact hK9) ?_
    (try simp only[pq])
    refine zaa (by rw[hO];kernel_rfl) (.bool false) (fun K9 hK9=>by go_simp;exact hK9) ?_
    (try simp only[pq])
    refine zaa (by rw[hO];kernel_rfl) (.bool false) (fun K9 hK9=>by go_simp;exact hK9) ?_
    (try simp only[pq])
    refine zaa (by rw[hO];kernel_rfl) (.pointer po) (fun K9 hK9=>by go_simp;exact hK9) ?_
    (try simp only[pq])
    refine zag (by rw[hO];kernel_rfl) fun K9 hK9 => ?_
    go_simp
    go_at_call 20
    refine (zm0 W1 _ hN _).mono ?_
    rintro e w3 ⟨rfl,e3⟩
    subst w3
    refine hK9 _ _ ?_
    clear hK9 K9
    (try simp only[pq])
    refine zaa (by rw[hO];kernel_rfl) (.int .i64 0) (fun K9 hK9=>by go_simp;exact hK9) ?_
    (try simp only[pq])
    refine zaa (by rw[hO];kernel_rfl) (.bool false) (fun K9 hK9=>by go_simp;exact hK9) ?_
    (try simp only[pq])
    refine zaa (by rw[hO];kernel_rfl) (.bool false) (fun K9 hK9=>by go_simp;exact hK9) ?_
    (try simp only[pq])
    refine zaa (by rw[hO];kernel_rfl) (.bool false) (fun K9 hK9=>by go_simp;exact hK9) ?_
    (try simp only[pq])
    refine zaa (by rw[hO];kernel_rfl) (.pointer po) (fun K9 hK9=>by go_simp;exact hK9) ?_
    (try simp only[pq])
    refine zag (by rw[hO];kernel_rfl) fun K9 hK9 => ?_
    go_simp
    go_at_call 17
    refine (zmz W1 _ hN).mono ?_
    rintro e w3 ⟨rfl,e3⟩
    subst w3
    refine hK9 _ _ ?_
    clear hK9 K9
    (try simp only[pq])
    refine zaa (by rw[hO];kernel_rfl) (.bool false) (fun K9 hK9=>by go_simp;exact hK9) ?_
    (try simp only[pq])
    refine zaa (by rw[hO];kernel_rfl) (.bool false) (fun K9 hK9=>by go_simp;exact hK9) ?_
    (try simp only[pq])
    refine zaa (by rw[hO];kernel_rfl) (.bool false) (fun K9 hK9=>by go_simp;exact hK9) ?_
    (try simp only[pq])
    refine zaa (by rw[hO];kernel_rfl) (.pointer po) (fun K9 hK9=>by go_simp;exact hK9) ?_
    (try simp only[pq])
    refine zag (by rw[hO];kernel_rfl) fun K9 hK9 => ?_
    go_simp
    go_at_call 18
    refine (zjz W1 _ hN).mono ?_
    rintro e w3 ⟨rfl,e3⟩
    subst w3
    refine hK9 _ _ ?_
    clear hK9 K9
    (try simp only[pq])
    refine zaa (by rw[hO];kernel_rfl) (.bool false) (fun K9 hK9=>by go_simp;exact hK9) ?_
    (try simp only[pq])
    refine zaa (by rw[hO];kernel_rfl) (.bool false) (fun K9 hK9=>by go_simp;exact hK9) ?_
    (try simp only[pq])
    refine zaa (by rw[hO];kernel_rfl) (.bool false) (fun K9 hK9=>by go_simp;exact hK9) ?_
    (try simp only[pq])
    refine zaa (by rw[hO];kernel_rfl) (.pointer po) (fun K9 hK9=>by go_simp;exact hK9) ?_
    (try simp only[pq])
    refine zag (by rw[hO];kernel_rfl) fun K9 hK9 => ?_
    go_simp
    go_at_call 19
    refine (zgi W1 _ hN).mono ?_
    rintro e w3 ⟨rfl,e3⟩
    subst w3
    refine hK9 _ _ ?_
    clear hK9 K9
    (try simp only[pq])
    refine zaa (by rw[hO];kernel_rfl) (.bool false) (fun K9 hK9=>by go_simp;exact hK9) ?_
    (try simp only[pq])
    refine zaa (by rw[hO];kernel_rfl) (.bool false) (fun K9 hK9=>by go_simp;exact hK9) ?_
    (try simp only[pq])
    go_wp2
    go_roundw
    case rel=>exact ⟨1,by go_num,by omega,HG1⟩
    case measure=>simp[intOf]
   ·have hN:=zmy W1
    obtain ⟨po,hpo⟩:∃ po,po=(none:Option Addr):=⟨_,rfl⟩
    rw[← hpo] at hN
    have HPO:=hide hpo
    clear hpo hB1
    go_upto_region 7 with (rw[← uh HW1,← uh HD])
    rw[← uh HPO]
    go_upto_region 8 with (go_at_call 25;refine (zoi W1 _ hN k).mono ?_;rintro e w2 ⟨rfl,e2⟩;subst w2)
    refine zal fun O hO => ?_
    refine zaa (by rw[hO];kernel_rfl) (.slice none 0 0) (fun K9 hK9=>by go_simp;exact hK9) ?_
    (try simp only[pq])
    refine zaa (by rw[hO];kernel_rfl) (.int .i64 0) (fun K9 hK9=>by go_simp;exact hK9) ?_
    (try simp only[pq])
    refine zaa (by rw[hO];kernel_rfl) (.bool false) (fun K9 hK9=>by go_simp;exact hK9) ?_
    (try simp only[pq])
    refine zaa (by rw[hO];kernel_rfl) (.bool false) (fun K9 hK9=>by go_simp;exact hK9) ?_
    (try simp only[pq])
    refine zaa (by rw[hO];kernel_rfl) (.bool false) (fun K9 hK9=>by go_simp;exact hK9) ?_
    (try simp only[pq])
    refine zaa (by rw[hO];kernel_rfl) (.bool false) (fun K9 hK9=>by go_simp;exact hK9) ?_
    (try simp only[pq])
    refine zaa (by rw[hO];kernel_rfl) (.bool false) (fun K9 hK9=>by go_simp;exact hK9) ?_
    (try simp only[pq])
    refine zaa (by rw[hO];kernel_rfl) (.pointer po) (fun K9 hK9=>by go_simp;exact hK9) ?_
    (try simp only[pq])
    refine zag (by rw[hO];kernel_rfl) fun K9 hK9 => ?_
    go_simp
    go_at_call 15
    refine (zid W1 _ hN none 0 0).mono ?_
    rintro e w3 ⟨rfl,e3⟩
    subst w3
    refine hK9 _ _ ?_
    clear hK9 K9
    (try simp only[pq])
    refine zaa (by rw[hO];kernel_rfl) (.bool false) (fun K9 hK9=>by go_simp;exact hK9) ?_
    (try simp only[pq])
    refine zaa (by rw[hO];kernel_rfl) (.bool false) (fun K9 hK9=>by go_simp;exact hK9) ?_
    (try simp only[pq])
    refine zaa (by rw[hO];kernel_rfl) (.bool false) (fun K9 hK9=>by go_simp;exact hK9) ?_
    (try simp only[pq])
    refine zaa (by rw[hO];kernel_rfl) (.pointer po) (fun K9 hK9=>by go_simp;exact hK9) ?_
    (try simp only[pq])
    refine zag (by rw[hO];kernel_rfl) fun K9 hK9 => ?_
    go_simp
    go_at_call 20
    refine (zm0 W1 _ hN _).mono ?_
    rintro e w3 ⟨rfl,e3⟩
    subst w3
    refine hK9 _ _ ?_
    clear hK9 K9
    (try simp only[pq])
    refine zaa (by rw[hO];kernel_rfl) (.int .i64 0) (fun K9 hK9=>by go_simp;exact hK9) ?_
    (try simp only[pq])
    refine zaa (by rw[hO];kernel_rfl) (.bool false) (fun K9 hK9=>by go_simp;exact hK9) ?_
    (try simp only[pq])
    refine zaa (by rw[hO];kernel_rfl) (.bool false) (fun K9 hK9=>by go_simp;exact hK9) ?_
    (try simp only[pq])
    refine zaa (by rw[hO];kernel_rfl) (.bool false) (fun K9 hK9=>by go_simp;exact hK9) ?_
    (try simp only[pq])
    refine zaa (by rw[hO];kernel_rfl) (.pointer po) (fun K9 hK9=>by go_simp;exact hK9) ?_
    (try simp only[pq])
    refine zag (by rw[hO];kernel_rfl) fun K9 hK9 => ?_
    go_simp
    go_at_call 17
    refine (zmz W1 _ hN).mono ?_
    rintro e w3 ⟨rfl,e3⟩
    subst w3
    refine hK9 _ _ ?_
    clear hK9 K9
    (try simp only[pq])
    refine zaa (by rw[hO];kernel_rfl) (.bool false) (fun K9 hK9=>by go_simp;exact hK9) ?_
    (try simp only[pq])
    refine zaa (by rw[hO];kernel_rfl) (.bool false) (fun K9 hK9=>by go_simp;exact hK9) ?_
    (try simp only[pq])
    refine zaa (by rw[hO];kernel_rfl) (.bool false) (fun K9 hK9=>by go_simp;exact hK9) ?_
    (try simp only[pq])
    refine zaa (by rw[hO];kernel_rfl) (.pointer po) (fun K9 hK9=>by go_simp;exact hK9) ?_
    (try simp only[pq])
    refine zag (by rw[hO];kernel_rfl) fun K9 hK9 => ?_
    go_simp
    go_at_call 18
    refine (zjz W1 _ hN).mono ?_
    rintro e w3 ⟨rfl,e3⟩
    subst w3
    refine hK9 _ _ ?_
    clear hK9 K9
    (try simp only[pq])
    refine zaa (by rw[hO];kernel_rfl) (.bool false) (fun K9 hK9=>by go_simp;exact hK9) ?_
    (try simp only[pq])
    refine zaa (by rw[hO];kernel_rfl) (.bool false) (fun K9 hK9=>by go_simp;exact hK9) ?_
    (try simp only[pq])
    refine zaa (by rw[hO];kernel_rfl) (.bool false) (fun K9 hK9=>by go_simp;exact hK9) ?_
    (try simp only[pq])
    refine zaa (by rw[hO];kernel_rfl) (.pointer po) (fun K9 hK9=>by go_simp;exact hK9) ?_
    (try simp only[pq])
    refine zag (by rw[hO];kernel_rfl) fun K9 hK9 => ?_
    go_simp
    go_at_call 19
    refine (zgi W1 _ hN).mono ?_
    rintro e w3 ⟨rfl,e3⟩
    subst w3
    refine hK9 _ _ ?_
    clear hK9 K9
    (try simp only[pq])
    refine zaa (by rw[hO];kernel_rfl) (.bool false) (fun K9 hK9=>by go_simp;exact hK9) ?_
    (try simp only[pq])
    refine zaa (by rw[hO];kernel_rfl) (.bool false) (fun K9 hK9=>by go_simp;exact hK9) ?_
    (try simp only[pq])
    go_wp2
    go_roundw
    case rel=>exact ⟨2,by go_num,by omega,HG1⟩
    case measure=>simp[intOf]
  ·have hjn:¬ (j:Int)<2:=by omega
   have c1:=zn6 wr
   have c2:=lnew (uh HR) 7 (by decide) (by decide)
   rw[show ((7:Nat):Int)=7 from rfl] at c2
   go_wp2_with (first
    | (go_at_call 10;refine c1.mono ?_;rintro e w2 ⟨rfl,e2⟩;subst w2;clear c1;fail)
    | (go_at_call 10;fail)
    | (go_at_call 9;fail))
   refine c1.mono ?_
   rintro e w2 ⟨rfl,e2⟩
   subst w2
   clear c1
   go_wp2_with (go_at_call 9;fail)
   refine c2.mono ?_
   rintro e w2 ⟨d,F,rfl,hd2,-,-⟩
   have c3:=zn7 hd2 rfl (by show (List.replicate 7 zsec).length<8;rw[List.length_replicate];decide)
   have HG2:=hide hd2.gb
   clear c2 hd2
   go_wp2_with (go_at_call 10;fail)
   refine c3.mono ?_
   rintro e w3 ⟨rfl,e3⟩
   subst w3
   clear c3
   have co:=zpf w2 ((uh HT).kept0 (uh HG2))
   go_upto_region 13 with fail
   refine zal fun O hO => ?_
   refine zaa (by rw[hO];kernel_rfl) (.pointer none) (fun K9 hK9=>by go_simp;exact hK9) ?_
   (try simp only[pq])
   refine zaa (by rw[hO];kernel_rfl) (.bool true) (fun K9 hK9=>by go_simp;exact hK9) ?_
   (try simp only[pq])
   refine zaa (by rw[hO];kernel_rfl) (.bool true) (fun K9 hK9=>by go_simp;exact hK9) ?_
   (try simp only[pq])
   refine zaa (by rw[hO];kernel_rfl) (.pointer none) (fun K9 hK9=>by go_simp;exact hK9) ?_
   (try simp only[pq])
   refine zaa (by rw[hO];kernel_rfl) (.bool true) (fun K9 hK9=>by go_simp;exact hK9) ?_
   (try simp only[pq])
   refine zaa (by rw[hO];kernel_rfl) (.bool true) (fun K9 hK9=>by go_simp;exact hK9) ?_
   (try simp only[pq])
   refine zaa (by rw[hO];kernel_rfl) (.bool true) (fun K9 hK9=>by go_simp;exact hK9) ?_
   (try simp only[pq])
   refine zaa (by rw[hO];kernel_rfl) (.int .i64 1) (fun K9 hK9=>by go_simp;exact hK9) ?_
   (try simp only[pq])
   refine zaa (by rw[hO];kernel_rfl) (.bool true) (fun K9 hK9=>by go_simp;exact hK9) ?_
   (try simp only[pq])
   refine zaa (by rw[hO];kernel_rfl) (.bool true) (fun K9 hK9=>by go_simp;exact hK9) ?_
   (try simp only[pq])
   refine zaa (by rw[hO];kernel_rfl) (.bool true) (fun K9 hK9=>by go_simp;exact hK9) ?_
   (try simp only[pq])
   refine zaa (by rw[hO];kernel_rfl) (.int .i64 2) (fun K9 hK9=>by go_simp;exact hK9) ?_
   (try simp only[pq])
   refine zaa (by rw[hO];kernel_rfl) (.bool true) (fun K9 hK9=>by go_simp;exact hK9) ?_
   (try simp only[pq])
   refine zaa (by rw[hO];kernel_rfl) (.bool true) (fun K9 hK9=>by go_simp;exact hK9) ?_
   (try simp only[pq])
   refine zaa (by rw[hO];kernel_rfl) (.bool true) (fun K9 hK9=>by go_simp;exact hK9) ?_
   (try simp only[pq])
   refine zag (by rw[hO];kernel_rfl) fun K9 hK9 => ?_
   go_simp
   go_at_call 21
   refine (co).mono ?_
   rintro e w5 ⟨rfl,g5⟩
   have HG5:=hide (tn (uh HG2) g5)
   clear co g5
   refine hK9 _ _ ?_
   clear hK9 K9
   (try simp only[pq])
   refine zaa (by rw[hO];kernel_rfl) (.bool true) (fun K9 hK9=>by go_simp;exact hK9) ?_
   (try simp only[pq])
   refine zaa (by rw[hO];kernel_rfl) (.bool true) (fun K9 hK9=>by go_simp;exact hK9) ?_
   (try simp only[pq])
   go_wp2
   go_ret
   exact ⟨rfl,uh HG5⟩
end Go.Proofs.YtoilcpdhhlcidaaGreatDoor
