/- Lemmas. -/
import Derived.Laws.ResultCell
import Derived.Test.YtegbbkgmiklhcaaGreatDoorMTk
import Derived.Test.YtegbbkgmiklhcaaGreatDoorOData
import Derived.Deep.RegionHeld3
import Derived.Deep.DrawnRows
import Derived.Deep.DeepCutAuto
namespace Go.Proofs.YtegbbkgmiklhcaaGreatDoor
open Go.RowKit
theorem zag {P:Program} {fn:Func} {p u:Tmp} {ty:TypeId} (h:fn.results = #[.cell p ty,.tmp u]) (tmps:Array Value) (w:World) (g:Nat) (t:TypeId) (cs:Array Value) (fr:Nat × Nat) (d:TypeDesc)
  (hp:tmps.getD p undef = .pointer (some ⟨g,0,none⟩)) (hg:w.heap[g]? = some (.cells cs t fr))
  (hu:P.underlying ty=some d) (hd:(match d with | .struct _ | .array _ _=>true | _=>false)=true) (hi:(P.info? ty).map (·.size)=some cs.size) :
  (results fn tmps).run P w = .ok (.tuple #[.agg cs,tmps.getD u undef]) w:=by
 rw[results_cell_tmp h,hp]
 simp[asAddr,run_loadVar_row w g t ty cs fr d hg hu hd hi]
set_option maxRecDepth 100000 in
set_option maxHeartbeats 2000000 in
theorem zca (w:World) (rb:Nat) (l:List UInt8) (k:Int) (hl:l.length≤70368744177664) (h:Rd w rb l k) :
  Calls Tryz.prog 134 #[.pointer (some ⟨rb,0,none⟩)] w fun e w'=>e = .returned (.agg ((zb1 (rawS l k 32).1).map bv).toArray)∧Rd w' rb (rawS l k 32).2.1 (rawS l k 32).2.2∧w.grownBy w' (some rb):=by
 have hrb:=h.lt
 obtain ⟨Z,hZ⟩:∃ Z:List Value,Z=(List.replicate 32 (0:UInt8)).map bv:=⟨_,rfl⟩
 have hzv:∀ w,(zeroValue 47).run Tryz.prog w = .ok (.agg Z.toArray) w:=fun w=>by rw[hZ];kernel_rfl
 obtain ⟨W1,hW1,hB1,g1⟩:∃ W1,W1=w.alloc (.cells Z.toArray 47)∧Blk W1 w.heap.size 47 Z∧w.grownBy W1 none:=zah w _ _
 obtain ⟨W2,hW2,hB2,g2⟩:∃ W2,W2=W1.alloc (.cells Z.toArray 47)∧Blk W2 W1.heap.size 47 Z∧W1.grownBy W2 none:=zah W1 _ _
 have hs1:W1.heap.size=w.heap.size+1:=by rw[hW1];simp
 rw[hs1] at hB2
 have hBr:=hB1.kept g2 (by simp)
 have G2:=tn g1 g2
 have hR2:=h.kept G2 (Or.inl rfl)
 have craw:=zlf W2.drew rb l k 32 hl (hR2.kept (zas (zab _ none)) (Or.inl rfl))
 have hsl:=zcb (w.heap.size+1) 0
 have h0:w.grownBy W2.drew (some rb):=zas (zao _ G2)
 have hW:W2=(w.alloc (.cells Z.toArray 47)).alloc (.cells Z.toArray 47):=by rw[hW2,hW1]
 obtain ⟨HW,HZ,HB2,HBR,HG2⟩:=zh5 hW hZ hB2 hBr G2
 have hlx:=zlv l k 32
 obtain ⟨r,hr⟩:∃ r,r=rawS l k 32:=⟨_,rfl⟩
 rw[show ((32:Nat):Int)=(32:Int) from rfl] at hlx
 rw[← hr] at craw hlx ⊢
 have HLX:=hide hlx
 clear hW hZ hB2 hBr G2 hlx hr hW1 hW2 hB1 g1 g2 hs1 hR2 h hl
 go_enter Tryz.func134,Tryz.ntmps134
 go_upto_region 2 with (rw[← uh HW])
 refine wp_region_noPanic ?_
 refine wp_region_held_drew (S:=fun V=>w.grownBy V (some rb)) (by kernel_rfl) h0 (fun _ => ?_)
 refine tq 0 4 (.slice 47 (.tmp 3) none none none) (.slice (some ⟨w.heap.size+1,0,none⟩) 32 32) h0 ?_
 refine tq 1 5 (.move (.tmp 0)) (.pointer (some ⟨rb,0,none⟩)) h0 ?_
 (try simp only[pq])
 refine rdq 2 (some 6) (.call { callee := .value (.func 53),args := #[(.tmp 5),.const (.int .i64 32)],argTypes := #[84,3] }) (fun K9 hK9 => ?_)
 go_simp
 go_at_call 53
 refine (craw).mono ?_
 rintro e w3 ⟨v3,rfl,⟨ao,c,rfl,hb3,hn3⟩,hR3,g3⟩
 have G3:w.grownBy w3 (some rb):=zac h0 g3 (fun x e=>Or.inr e)
 go_wp2_with fail
 refine hK9.out _ _ G3 (fun _ => ?_)
 clear hK9 K9
 (try simp only[pq])
 have g3b:W2.grownBy w3 (some rb):=zac (zas (zab _ _)) g3 (fun x e=>Or.inr e)
 have hA3:Blk w3 w.heap.size 47 Z:=(uh HBR).kept g3b (by simp;omega)
 have hB3:Blk w3 (w.heap.size+1) 47 Z:=(uh HB2).kept g3b (by simp;omega)
 have hcp:=znc w3 (w.heap.size+1) 0 32 32 ao c r.1 hb3 (hB3.there 0 (min r.1.length 32) (by rw[uh HZ];simp;omega))
 rw[Nat.min_eq_left (uh HLX),List.take_of_length_le (Nat.le_refl _)] at hcp
 obtain ⟨w4,hw4⟩:∃ w4,w4=w3.setCells (w.heap.size+1) 0 (r.1.map bv):=⟨_,rfl⟩
 rw[← hw4] at hcp
 have hB4:Blk w4 (w.heap.size+1) 47 ((zb1 r.1).map bv):=by rw[hw4];rw[uh HZ] at hB3;exact Blk.filled hB3 r.1 (uh HLX)
 have hA4:Blk w4 w.heap.size 47 Z:=by rw[hw4];exact Blk.setCells_other (by omega) _ _ hA3
 have g4:w3.grownBy w4 (some (w.heap.size+1)):=by rw[hw4];exact za0 (Or.inr rfl) _ _ (zab _ _)
 have G4:w.grownBy w4 (some rb):=zac G3 g4 (fun x e=>by cases e;exact Or.inl (Nat.le_succ _))
 have hR4:=hR3.keptTyp g4 (fun x e=>by cases e;exact ⟨by omega,hB3.typ (by decide)⟩)
 clear hw4 hb3 hn3 hR3 hA3 hB3 craw g3 g3b g4
 refine rdq 3 (some 7) (.call { callee := .builtin .copy,args := #[(.tmp 4),(.tmp 6)],argTypes := #[24,24] }) (fun K9 hK9 => ?_)
 go_simp
 refine hK9.out _ _ G4 (fun _ => ?_)
 clear hK9 K9 hcp
 (try simp only[pq])
 refine wpAnyH_done (by kernel_rfl) ?_ _
 refine NoPanic.normal ?_
 have hrI:=zal hB4
 have hiI:(Tryz.prog.info? 47).map (·.size)=some ((zb1 r.1).map bv).length:=by rw[List.length_map,zfe _ (uh HLX)];exact zax
 have hZs:Z.toArray.size=((zb1 r.1).map bv).toArray.size:=by rw[uh HZ];simp[zfe _ (uh HLX)]
 obtain ⟨EC,hEC⟩:∃ L,L=(zb1 r.1).map bv:=⟨_,rfl⟩
 have hEo:EC.toArray.all (·.oneCell')=true:=by rw[hEC];exact all_oneCell_toArray (zaw _)
 rw[← hEC] at hrI hiI hZs
 obtain ⟨HEC,HI,HZS,HEO⟩:=zh4 hEC hiI hZs hEo
 have hiI2:(Tryz.prog.info? 47).map (·.size)=some EC.toArray.size:=by simpa using hiI
 have HI2:=hide hiI2
 clear hiI hZs hEo hEC hB4 hiI2
 go_wp2_with (first
  | (refine wpList_load_mid rfl 47 _ rfl (w.heap.size+1) 0 rfl EC _ hrI Tryz.underlying47 rfl (uh HI) ?_;clear hrI)
  | (refine wpList_store_row rfl 47 _ _ rfl w.heap.size EC.toArray rfl rfl _ _ hA4 (uh HI2) (uh HZS) (uh HEO) ?_))
 refine bodyPost_ret (results_cell_row rfl _ _ _ _ _ _ _ rfl (hA4.row EC) Tryz.underlying47 rfl (uh HI2)) rfl ?_
 have gF:=zaq (zab w4 (some w.heap.size)) EC.toArray (Or.inr rfl)
 exact ⟨by rw[uh HEC],hR4.keptTyp gF (fun x e=>by cases e;exact ⟨by omega,hA4.typ (by decide)⟩),zaq G4 _ (Or.inl (Nat.le_refl _))⟩
theorem za9 {P:Program} {Q:Exit→Act→World→Prop} {a:Act} {w:World} {id:Nat} {l:List Oper} (h:∀ O:Array Oper,O=l.toArray→wpList P O Q l a w):(Code.region id l.toArray false).wp P Q a w :=
 wp_region_lit (h _ rfl)
theorem zaa {P:Program} {ops:Array Oper} {rest:List Oper} {o:Oper} {a:Act} {w:World} {Q:Exit→Act→World→Prop} (hw:Region.wanted o (yielded ops a.tmps)=true) (v:Value)
  (hv:∀ K:Act→World→Prop,K (a.put o.dst v) w→o.wp P a w K Q) (h:wpList P ops Q rest (a.put o.dst v) w):wpList P ops Q (o::rest) a w :=
 wpList_step fun K hK=>by rw[if_pos hw];exact hv K (hK _ _ h)
theorem za1 {P:Program} {ops:Array Oper} {rest:List Oper} {o:Oper} {a:Act} {w:World} {Q:Exit→Act→World→Prop} (hw:Region.wanted o (yielded ops a.tmps)=true)
  (h:∀ K:Act→World→Prop,(∀ a w,wpList P ops Q rest a w→K a w)→o.wp P a w K Q):wpList P ops Q (o::rest) a w :=
 wpList_step fun K hK=>by rw[if_pos hw];exact h K hK
theorem zap {P:Program} {ops:Array Oper} {rest:List Oper} {o:Oper} {a:Act} {w:World} {Q:Exit→Act→World→Prop} (hw:Region.wanted o (yielded ops a.tmps)=false)
  (h:wpList P ops Q rest (a.put o.dst undef) w):wpList P ops Q (o::rest) a w :=
 wpList_step fun K hK=>by rw[hw,if_neg (by simp)];exact hK _ _ h
end Go.Proofs.YtegbbkgmiklhcaaGreatDoor
