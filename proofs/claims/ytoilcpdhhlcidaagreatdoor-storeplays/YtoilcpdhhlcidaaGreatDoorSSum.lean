/- Lemmas. -/
import Derived.Test.YtoilcpdhhlcidaaGreatDoorSHash
namespace Go.Proofs.YtoilcpdhhlcidaaGreatDoor
open Go.RowKit
set_option maxRecDepth 100000
def lenS:Value→Nat
 | .slice _ n _=>n
 | _=>0
theorem Blk.sized {w:World} {b:Nat} {t:TypeId} {pre post:List Value} {words:List W} {rest:List UInt8} {n:Nat} (h:Blk w b t (pre++(hc words rest n++post))) (h8:words.length=8) (h64:rest.length=64) (k:Nat) :
  Blk (w.setCell ⟨b,pre.length+72,none⟩ (.int .u64 (k:Int))) b t (pre++(hc words rest k++post)):=by
 have h1:Blk w b t ((pre++words.map wv++rest.map bv)++(.int .u64 (n:Int)::post)):=by simpa[hc,List.append_assoc] using h
 have h2:(pre++words.map wv++rest.map bv).length=pre.length+72:=by simp[h8,h64]
 have h3:=h1.set (pre.length+72) (.int .u64 (k:Int))
 rw[List.set_append_right _ _ (by omega),h2,Nat.sub_self,List.set_cons_zero] at h3
 simpa[hc,List.append_assoc] using h3
theorem Blk.worded {w:World} {b:Nat} {t:TypeId} {pre post:List Value} {words words' : List W} {rest:List UInt8} {n:Nat} (h:Blk w b t (pre++(hc words rest n++post))) (hl:words.length=words'.length) :
  Blk (w.setCells b pre.length (words'.map wv)) b t (pre++(hc words' rest n++post)):=by
 have h1:Blk w b t (pre++(words.map wv++(rest.map bv++(.int .u64 (n:Int)::post)))):=by simpa[hc,List.append_assoc] using h
 have h2:=Blk.setCells (words'.map wv) _ h1 (by simp[hl])
 simpa[hc,List.append_assoc] using h2
theorem Blk.sizeAt {w:World} {b:Nat} {t:TypeId} {pre post:List Value} {words:List W} {rest:List UInt8} {n:Nat} (h:Blk w b t (pre++(hc words rest n++post))) (h8:words.length=8) (h64:rest.length=64) :
  w.cell? ⟨b,pre.length+72,none⟩=some (.int .u64 (n:Int)):=by
 have h1:Blk w b t ((pre++words.map wv++rest.map bv)++(.int .u64 (n:Int)::post)):=by simpa[hc,List.append_assoc] using h
 have h2:(pre++words.map wv++rest.map bv).length=pre.length+72:=by simp[h8,h64]
 rw[h1.cell,List.getElem?_append_right (by omega),h2,Nat.sub_self];rfl
set_option maxHeartbeats 1000000 in
theorem zgd (w:World) (b:Nat) (t:TypeId) (pre post:List Value) (words:List W) (rest l:List UInt8) (hH:HAt w b t pre post words rest l) (hT:Tabs w) (hG:Glb b)
  (ao:Option Addr) (c:Nat) (x:List UInt8) (hx:Bts w ao c x) (hoff:0<x.length→Off ao b) (hlen:l.length+x.length<1152921504606846976) :
  Calls Tryz.prog 112 #[.pointer (some ⟨b,pre.length,none⟩),.slice ao x.length c] w fun e w'=>e = .returned (.tuple #[])∧(∃ words' rest',HAt w' b t pre post words' rest' (l++x))∧w.grownBy w' (some b):=by
 go_enter Tryz.func112,Tryz.ntmps112
 go_wp2
 go_loopw [1] (fun sv wr=>∃ (done left:List UInt8) (ao:Option Addr) (c:Nat) (words:List W) (rest:List UInt8),x=done++left∧sv = .slice ao left.length c∧Bts wr ao c left∧(0<left.length→Off ao b)∧HAt wr b t pre post words rest (l++done)∧w.grownBy wr (some b)) (fun sv _=>lenS sv)
 case atStart=>exact ⟨[],x,ao,c,words,rest,rfl,rfl,hx,hoff,by simpa using hH,zac _ _⟩
 case round =>
  clear hx hoff hH
  obtain ⟨done,left,ao,c,words,rest,hd,rfl,hx,hoff,hH,hg⟩:=hrel
  obtain ⟨o,ho⟩:∃ o,o=pre.length:=⟨_,rfl⟩
  rw[← ho]
  by_cases hlt:0<left.length
  ·have hoff:=hoff hlt
   have hz:=hH.size
   obtain ⟨n,hn⟩:∃ n,n=(l++done).length:=⟨_,rfl⟩
   have hnl:n+left.length<1152921504606846976:=by
    rw[hn,List.length_append]
    rw[hd,List.length_append] at hlen
    omega
   rw[← hn,← ho] at hz
   obtain ⟨at',hat⟩:∃ at',at'=n % 64:=⟨_,rfl⟩
   have hat1:at'<64:=by omega
   obtain ⟨ad,rfl⟩:∃ ad,ao=some ad:=by
    cases ao with
    | none=>have:=hx.zip rfl;omega
    | some ad=>exact ⟨ad,rfl⟩
   obtain ⟨m,hm⟩:∃ m,m=min left.length (64 - at'):=⟨_,rfl⟩
   have hm0:0<m:=by omega
   have hm1:m≤left.length:=by omega
   have hm2:at'+m≤64:=by omega
   have hm3:at'+m<64→m=left.length:=by omega
   have hsl:=zgp 167 5 64 Tryz.underlying167 za2 b (o+8) at' (at' : Int) rfl hat1
   have hnm:(n:Int) % 64=(at' : Int):=by omega
   have hT1:Tabs wr:=hT.kept hg (fun y e=>by cases e;exact hG)
   obtain ⟨cs,hcs⟩:∃ cs,cs=left.take m:=⟨_,rfl⟩
   have hcl:cs.length=m:=by rw[hcs,List.length_take];omega
   have hrb:=hH.rest
   have hol:(pre++words.map wv).length=o+8:=by rw[List.length_append,List.length_map,hH.took.w8,ho]
   have hr64:=hH.took.r64
   have hw8:=hH.took.w8
   have hsplit:rest.map bv=(rest.take at').map bv++(((rest.drop at').take m).map bv++(rest.drop (at'+m)).map bv):=by
    rw[← List.map_append,← List.map_append,← List.drop_drop,List.take_append_drop,List.take_append_drop]
   have hblk:Blk wr b t ((pre++words.map wv++(rest.take at').map bv)++(((rest.drop at').take m).map bv++((rest.drop (at'+m)).map bv++(.int .u64 (n:Int)::post)))):=by
    rw[hsplit,← hn] at hrb
    simpa[List.append_assoc] using hrb
   have hal:(pre++words.map wv++(rest.take at').map bv).length=o+8+at':=by
    rw[List.length_append,hol,List.length_map,List.length_take];omega
   have hvl:(((rest.drop at').take m).map bv).length=m:=by rw[List.length_map,List.length_take,List.length_drop];omega
   have hth:=hblk.thereIn
   rw[hal,hvl] at hth
   have hcp:(Builtin.copy_ #[53,53] 3 #[.slice (some ⟨b,o+8+at',none⟩) (64 - at') (64 - at'),.slice (some ad) left.length c]).run Tryz.prog wr = .ok (goInt (cs.map bv).length) (wr.setCells b (o+8+at') (cs.map bv)) :=
    run_copy_cells wr _ _ _ 5 b (o+8+at') _ _ ad _ _ (cs.map bv) Tryz.underlying53 (by kernel_rfl) (by rw[List.length_map,hcl,hm]) (by rw[hcs];exact (hx.take m hm1).news ad rfl) (fun j hj=>(hth j (by rw[List.length_map,hcl] at hj;exact hj)).1) (fun j hj=>(hth j (by rw[List.length_map,hcl] at hj;exact hj)).2) (zch _)
   rw[List.length_map,hcl] at hcp
   obtain ⟨W1,hW1⟩:∃ W1,W1=wr.setCells b (o+8+at') (cs.map bv):=⟨_,rfl⟩
   rw[← hW1] at hcp
   have hg1:w.grownBy W1 (some b):=by rw[hW1];exact za1 (Or.inr rfl) _ _ hg
   have hg0:wr.grownBy W1 (some b):=by rw[hW1];exact za1 (Or.inr rfl) _ _ (zac _ _)
   have hB1:Blk W1 b t (pre++(hc words (za3 rest at' cs) n++post)):=by
    have:=Blk.setCells (cs.map bv) _ hblk (by rw[hvl,List.length_map,hcl])
    rw[hal,← hW1] at this
    simpa[hc,za3,hcl,List.append_assoc] using this
   have hx1:Bts W1 (some ad) c left:=hx.kept hg0 (fun y e=>by cases e;exact hoff)
   have hfrom:=fun W=>zb1 (P:=Tryz.prog) W 53 5 Tryz.underlying53 za2 (some ad) left.length c m hm1
   have hT2:Tabs W1:=hT1.kept hg0 (fun y e=>by cases e;exact hG)
   have hsz1:W1.cell? ⟨b,o+72,none⟩=some (.int .u64 (n:Int)):=by
    have h1:Blk W1 b t ((pre++words.map wv++(za3 rest at' cs).map bv)++(.int .u64 (n:Int)::post)):=by simpa[hc,List.append_assoc] using hB1
    have h2:(pre++words.map wv++(za3 rest at' cs).map bv).length=o+72:=by
     rw[List.length_append,hol,List.length_map,zbi _ _ _ (by omega)];omega
    rw[h1.cell,List.getElem?_append_right (by omega),h2,Nat.sub_self];rfl
   have hfz1:=hB1.fz (o+72)
   have hadd:IntKind.u64.wrap ((n:Int)+(m:Int))=((n+m:Nat):Int):=by rw[IntKind.wrap_u64];omega
   obtain ⟨HD,HX,HH,HO,HN,HA⟩:=zh6 hd hx1 hH ho hn hat
   obtain ⟨HM,HCS,HCL,HB,HT,HW8⟩:=zh6 hm hcs hcl hB1 hT2 hw8
   obtain ⟨HR64,HOL⟩:=zh2 hr64 hol
   clear hd hx hx1 hH ho hn hat hlen hm hcs hcl hB1 hT2 hT1 hT hblk hsplit hal hvl hth hrb hW1 hg0 hw8 hr64 hol
   have hl0:(0:Int)<(left.length:Int):=by omega
   have hsl64:(za3 rest at' cs).length=64:=by
    rw[zbi _ _ _ (by rw[uh HR64,uh HCL];omega),uh HR64]
   have HS64:=hide hsl64
   clear hsl64
   have hfin:∀ (V:World) (words' : List W),Blk V b t (pre++(hc words' (za3 rest at' cs) n++post))→Took words' (za3 rest at' cs) (l++(done++cs))→W1.grownBy V (some b)→∀ z:Int,z=((n+m:Nat):Int) →
     ∃ (done' left' : List UInt8) (ao' : Option Addr) (c' : Nat) (words:List W) (rest:List UInt8),x=done'++left'∧Value.slice (cutA (some ad) c m) (left.length - m) (c - m) = .slice ao' left'.length c'∧Bts (V.setCell ⟨b,o+72,none⟩ (.int .u64 z)) ao' c' left'∧(0<left'.length→Off ao' b)∧HAt (V.setCell ⟨b,o+72,none⟩ (.int .u64 z)) b t pre post words rest (l++done')∧w.grownBy (V.setCell ⟨b,o+72,none⟩ (.int .u64 z)) (some b):=by
    intro V words' hBW htk hgW z hzz
    subst hzz
    refine ⟨done++cs,left.drop m,cutA (some ad) c m,c - m,words',za3 rest at' cs,?_,?_,?_,fun _=>zd6 hoff,⟨?_,htk⟩,?_⟩
    ·rw[uh HD,uh HCS,List.append_assoc,List.take_append_drop]
    ·rw[List.length_drop]
    ·exact (((uh HX).drop m hm1).kept hgW (fun y e=>by cases e;exact zd6 hoff)).kept (zbs V b (o+72) _) (fun y e=>by cases e;exact zd6 hoff)
    ·have:=hBW.sized htk.w8 (uh HS64) (n+m)
     rw[← uh HO,show n+m=(l++(done++cs)).length by rw[← List.append_assoc,List.length_append,uh HCL,uh HN]] at this
     rw[show n+m=(l++(done++cs)).length by rw[← List.append_assoc,List.length_append,uh HCL,uh HN]]
     exact this
    ·exact zam (zae hg1 hgW (fun y e=>by cases e;exact Or.inr rfl)) _ _ (Or.inr rfl)
   by_cases hful:at'+m=64
   ·have hf1:(at' : Int)+(m:Int)=64:=by omega
    obtain ⟨sf,hsf⟩:∃ sf,sf=zfe words n:=⟨_,rfl⟩
    have hsl8:sf.length=8:=by rw[hsf,uh HN];exact (uh HH).took.soFar_length
    obtain ⟨cw,hcw⟩:∃ cw,cw=comp sf (za3 rest at' cs):=⟨_,rfl⟩
    have hcw8:cw.length=8:=by rw[hcw];exact zc4 hsl8 _
    have hso:∀ W,W1.grownBy W none→Calls Tryz.prog 129 #[.pointer (some ⟨b,o,none⟩)] W fun e w'=>e = .returned (.agg (sf.map wv).toArray)∧W.grownBy w' none:=by
     intro W gW
     have hBW:=(uh HB).kept gW (by simp)
     have h1:Blk W b t (pre++(words.map wv++((za3 rest at' cs).map bv++(.int .u64 (n:Int)::post)))):=by simpa[hc,List.append_assoc] using hBW
     have h2:=h1.range
     rw[← uh HO] at h2
     rw[hsf]
     exact znt W b o n words (uh HW8) h2 (gW.cell hsz1 (by simp)) ((uh HT).kept0 gW)
    have htk:∀ W,W1.grownBy W none→Calls Tryz.prog 128 #[.agg (sf.map wv).toArray,.pointer (some ⟨b,o+8,none⟩)] W fun e w'=>e = .returned (.agg (cw.map wv).toArray)∧W.grownBy w' none:=by
     intro W gW
     have hBW:=(uh HB).kept gW (by simp)
     have h1:Blk W b t ((pre++words.map wv)++((za3 rest at' cs).map bv++(.int .u64 (n:Int)::post))):=by simpa[hc,List.append_assoc] using hBW
     have h2:=h1.range
     rw[uh HOL] at h2
     rw[hcw]
     exact znr W b (o+8) (za3 rest at' cs) sf hsl8 (uh HS64) h2 ((uh HT).kept0 gW)
    have hst:∀ V:World,W1.grownBy V none→(storeCells ⟨b,o,none⟩ (cw.map wv)).run Tryz.prog V = .ok () (V.setCells b o (cw.map wv)):=by
     intro V gW
     have hBW:=(uh HB).kept gW (by simp)
     have h1:Blk V b t (pre++(words.map wv++((za3 rest at' cs).map bv++(.int .u64 (n:Int)::post)))):=by simpa[hc,List.append_assoc] using hBW
     have h2:=h1.thereIn
     rw[← uh HO,List.length_map,uh HW8] at h2
     exact run_storeCells_cells (P:=Tryz.prog) b o (cw.map wv) 0 V (fun j hj=>(h2 j (by rw[List.length_map,hcw8] at hj;exact hj)).1) (fun j hj=>(h2 j (by rw[List.length_map,hcw8] at hj;exact hj)).2) (zi3 _)
    have hBW:∀ W,W1.grownBy W none→Blk (W.setCells b o (cw.map wv)) b t (pre++(hc cw (za3 rest at' cs) n++post)):=by
     intro W gW
     have hBW:=(uh HB).kept gW (by simp)
     have:=Blk.worded (words':=cw) hBW (by rw[uh HW8,hcw8])
     rw[← uh HO] at this
     exact this
    have hsz2:∀ W,W1.grownBy W none→(W.setCells b o (cw.map wv)).cell? ⟨b,o+72,none⟩=some (.int .u64 (n:Int)):=by
     intro W gW
     have:=(hBW W gW).sizeAt hcw8 (uh HS64)
     rw[← uh HO] at this
     exact this
    have hfz2:∀ W,W1.grownBy W none→(W.setCells b o (cw.map wv)).frozen? ⟨b,o+72,none⟩=false:=fun W gW=>(hBW W gW).fz _
    have hgr:=zac W1 none
    have htook:Took cw (za3 rest at' cs) (l++(done++cs)):=by
     have:=(uh HH).took.full cs (by rw[← uh HN,← uh HA,uh HCL];exact hful)
     rw[← uh HN,← uh HA,← hsf,← hcw,List.append_assoc] at this
     exact this
    obtain ⟨HTK,HF,HBW,HCW,HSF,HC8⟩:=zh6 htook hfin hBW hcw hsf hcw8
    have HS8:=hide hsl8
    clear htook hfin hBW hcw hsf hcw8 hsl8
    go_wp2
    go_region_with (first
     | (go_at_call 129;refine (hso _ ?_).mono ?_;(exact zaa (zac _ _));rintro e w2 ⟨rfl,g2⟩;have G2:W1.grownBy w2 none:=zae (zaa (zac _ _)) g2 (fun _ e=>by cases e))
     | (go_at_call 128;refine (htk _ ?_).mono ?_;(first | assumption | exact zaa (by assumption));rintro e w3 ⟨rfl,g3⟩;have G3:W1.grownBy w3 none:=zae G2 g3 (fun _ e=>by cases e)))
    have hs3:=hsz2 w3 G3
    have hf3:=hfz2 w3 G3
    clear hso htk hst hsz2 hfz2
    go_wp2
    go_roundw
    case rel=>exact uh HF (w3.setCells b o (cw.map wv)) cw (uh HBW w3 G3) (uh HTK) (za1 (Or.inr rfl) _ _ (zav _ G3)) _ (by omega)
    case measure=>simp[lenS];omega
   ·have hf1:((at' : Int)+(m:Int) == 64)=false:=by simp;omega
    have HF:=hide hfin
    clear hfin
    go_wp2
    go_roundw
    case rel =>
     exact uh HF W1 words (uh HB) (by
      have:=(uh HH).took.less cs (by rw[← uh HN,← uh HA,uh HCL];omega)
      rw[← uh HN,← uh HA,List.append_assoc] at this
      exact this) (zac _ _) _ (by omega)
    case measure=>simp[lenS];omega
  ·obtain rfl:left=[]:=List.length_eq_zero_iff.1 (by omega)
   rw[List.append_nil] at hd
   subst hd
   go_wp2
   go_end0
   exact ⟨rfl,⟨words,rest,hH⟩,hg⟩
theorem zge (w:World) (b p m c v:Nat) (z:Int) (hz:z=(v:Int)) (hm:m≤8) (ht:w.there b p m) :
  Calls Tryz.prog 131 #[.slice (some ⟨b,p,none⟩) m c,.int .u64 z] w fun e w'=>e = .returned (.tuple #[])∧w'=w.setCells b p ((be8 m v).map bv):=by
 subst hz
 exact zju w b p m c v hm ht
theorem zff {P:Program} (t e:TypeId) (n:Nat) (ht:P.underlying t=some (.array n e)) (hz:∀ w,(Go.sizeOf e).run P w = .ok 1 w) (b o hi:Nat) (zh:Int) (hh:zh=(hi:Int)) (h2:hi≤n) (h3:0<n) (W:World) :
  (Instr.sliceAt t (.pointer (some ⟨b,o,none⟩)) none (some (.int .i64 zh)) none).run P W = .ok (.slice (some ⟨b,o,none⟩) hi n) W:=by
 subst hh
 have ea:P.arrayLen t=n:=by simp[Program.arrayLen,ht]
 have ee:P.elem t=e:=by simp[Program.elem,ht]
 rw[run_sliceAt_array_h W t ⟨b,o,none⟩ (by rw[ea,ee];exact ht) .i64 _ (by omega) (by omega),ea,ee,hz]
 simp only[Result.andThen_ok,slicedAt,Int.toNat_natCast,Nat.zero_mul,Nat.sub_zero]
 rw[if_neg (by omega),Addr.add_mid]
 rfl
theorem znu {w:World} {b:Nat} {t:TypeId} {A C:List Value} {l:List UInt8} (h:Blk w b t (A++(l.map bv++C))) (c:Nat) (hc:l.length≤c) (hm:c≤maxLen):Bts w (some ⟨b,A.length,none⟩) c l:=by
 refine ⟨(fun e=>by cases e),hc,hm,(fun ad e _=>by cases e;rfl),(fun ad e i hi => ?_)⟩
 cases e
 exact h.range i (bv l[i]) (by simp[hi])
theorem znv (w:World):(zeroValue 195).run Tryz.prog w = .ok (.agg (Array.replicate 72 (.int .u8 0))) w:=by kernel_rfl
theorem zg2 (z m:Nat) (hz:z+9=m) (hm:m≤72):(128::List.replicate 71 (0:UInt8)).map bv=(128::List.replicate z (0:UInt8)).map bv++((List.replicate 8 (0:UInt8)).map bv++(List.replicate (72 - m) (0:UInt8)).map bv):=by
 rw[← List.map_append,← List.map_append]
 congr 1
 rw[List.replicate_append_replicate,List.cons_append,List.replicate_append_replicate]
 congr 2
 omega
set_option maxHeartbeats 1000000 in
theorem zri (w:World) (b:Nat) (t:TypeId) (pre post:List Value) (words:List W) (rest l:List UInt8) (hH:HAt w b t pre post words rest l) (hT:Tabs w) (hG:Glb b) (hlen:l.length<576460752303423488) :
  Calls Tryz.prog 130 #[.pointer (some ⟨b,pre.length,none⟩)] w fun e w'=>e = .returned (.tuple #[])∧(∃ words' rest',HAt w' b t pre post words' rest' (padL l))∧w.grownBy w' (some b):=by
 obtain ⟨o,ho⟩:∃ o,o=pre.length:=⟨_,rfl⟩
 obtain ⟨n,hn⟩:∃ n,n=l.length:=⟨_,rfl⟩
 obtain ⟨f,hf⟩:∃ f,f=n % 64:=⟨_,rfl⟩
 have hz:=hH.size
 rw[← ho,← hn] at hz
 rw[← hn] at hlen
 have hb:=hH.lt
 have hf64:f<64:=by omega
 have hnm:(n:Int) % 64=(f:Int):=by omega
 obtain ⟨Z,hZ⟩:∃ Z:Array Value,Z=Array.replicate 72 (.int .u8 0):=⟨_,rfl⟩
 have hzv:=znv
 rw[← hZ] at hzv
 have hZ0:Z[0]? = some (.int .u8 0):=by rw[hZ];rfl
 have hZs:Z.size=72:=by rw[hZ];simp
 obtain ⟨HZ,HH,HT,HO,HN,HF⟩:=zh6 hZ hH hT ho hn hf
 clear hZ hH hT hn hf
 rw[← ho]
 clear ho
 go_enter Tryz.func130,Tryz.ntmps130
 go_wp2
 ·obtain ⟨m,hm⟩:∃ m:Nat,m=zcj n+9:=⟨_,rfl⟩
  have hfn:=uh HF
  have hme:(64 - (f:Int)+64:Int)=(m:Int):=by rw[hm];unfold zcj;omega
  have hm9:9≤m:=by omega
  have hm72:m≤72:=by rw[hm];unfold zcj;omega
  rw[hme]
  obtain ⟨W1,hW1⟩:∃ W1,W1=w.alloc (.cells (Z.setIfInBounds 0 (.int .u8 128)) 195):=⟨_,rfl⟩
  rw[← hW1]
  have hB0:Blk W1 w.heap.size 195 ((128::List.replicate 71 (0:UInt8)).map bv):=by
   have:Z.setIfInBounds 0 (.int .u8 128)=((128::List.replicate 71 (0:UInt8)).map bv).toArray:=by rw[uh HZ];rfl
   rw[hW1,this]
   exact Blk.new w _ _
  rw[zg2 (zcj n) m hm.symm hm72] at hB0
  have hg1:w.grownBy W1 none:=by rw[hW1];exact zaf (zac _ _) _
  have hz1:W1.cell? ⟨b,o+72,none⟩=some (.int .u64 (n:Int)):=hg1.cell hz (by simp)
  have hsl:=zd7 195 5 72 Tryz.underlying195 za2 w.heap.size 0 (m - 8) m (IntKind.i64.wrap ((m:Int) - 8)) (m:Int) (by rw[IntKind.wrap_i64];omega) rfl (by omega) (by omega) (by omega)
  rw[show m - (m - 8)=8 by omega,Nat.zero_add] at hsl
  have hto:=zff 195 5 72 Tryz.underlying195 za2 w.heap.size 0 m (m:Int) rfl (by omega) (by omega)
  have hal:((128::List.replicate (zcj n) (0:UInt8)).map bv).length=m - 8:=by simp;omega
  have hth:=hB0.thereIn
  rw[hal,List.length_map,List.length_replicate] at hth
  have hthd:W1.drew.there w.heap.size (m - 8) 8:=by simpa using hth
  obtain ⟨HB0,HAL,HM,HW1⟩:=zh4 hB0 hal hm hW1
  clear hB0 hal hm hme hW1 hfn
  go_region_with (first | (go_at_call 131;refine (zge _ w.heap.size (m - 8) 8 _ (n*8) _ ?_ ?_ ?_).mono ?_;(first | omega | (rw[IntKind.wrap_u64];omega));(omega);(first | exact hthd | exact hth);rintro e w2 ⟨rfl,rfl⟩))
  obtain ⟨W2,hW2⟩:∃ W2,W2=W1.drew.setCells w.heap.size (m - 8) ((be8 8 (n*8)).map bv):=⟨_,rfl⟩
  rw[← hW2]
  have hB2:Blk W2 w.heap.size 195 ([]++((zga n).map bv++(List.replicate (72 - m) (0:UInt8)).map bv)):=by
   have:=Blk.setCells ((be8 8 (n*8)).map bv) _ ((uh HB0).drew) (by simp[zbo])
   rw[uh HAL,← hW2] at this
   simpa[zga,List.append_assoc] using this
  have hg2:w.grownBy W2 none:=by
   rw[hW2];exact za1 (Or.inl (Nat.le_refl _)) _ _ (zaa hg1)
  have htl:(zga n).length=m:=by rw[zdk,uh HM]
  have hbt:=znu hB2 72 (by omega) (by unfold maxLen;omega)
  have hH2:=(uh HH).kept hg2 (by simp)
  have hwr:=zgd W2 b t pre post words rest l hH2 ((uh HT).kept0 hg2) hG _ 72 (zga n) hbt (by intro _ ad e;cases e;simp;omega) (by rw[← uh HN];omega)
  rw[htl,← uh HO,show ([]:List Value).length=0 from rfl] at hwr
  have HT2:=hide htl
  clear hB2 hbt hH2 htl hW2
  go_wp2_with (go_at_call 112;refine hwr.mono ?_;rintro e w3 ⟨rfl,⟨wo,re,hH3⟩,g3⟩)
  go_end0
  rw[uh HN] at hH3
  exact ⟨rfl,⟨wo,re,hH3⟩,zae (zav _ hg2) g3 (fun y e=>by cases e;exact Or.inr rfl)⟩
 ·obtain ⟨m,hm⟩:∃ m:Nat,m=zcj n+9:=⟨_,rfl⟩
  have hfn:=uh HF
  have hme:(64 - (f:Int):Int)=(m:Int):=by rw[hm];unfold zcj;omega
  have hm9:9≤m:=by omega
  have hm72:m≤72:=by rw[hm];unfold zcj;omega
  rw[hme]
  obtain ⟨W1,hW1⟩:∃ W1,W1=w.alloc (.cells (Z.setIfInBounds 0 (.int .u8 128)) 195):=⟨_,rfl⟩
  rw[← hW1]
  have hB0:Blk W1 w.heap.size 195 ((128::List.replicate 71 (0:UInt8)).map bv):=by
   have:Z.setIfInBounds 0 (.int .u8 128)=((128::List.replicate 71 (0:UInt8)).map bv).toArray:=by rw[uh HZ];rfl
   rw[hW1,this]
   exact Blk.new w _ _
  rw[zg2 (zcj n) m hm.symm hm72] at hB0
  have hg1:w.grownBy W1 none:=by rw[hW1];exact zaf (zac _ _) _
  have hz1:W1.cell? ⟨b,o+72,none⟩=some (.int .u64 (n:Int)):=hg1.cell hz (by simp)
  have hsl:=zd7 195 5 72 Tryz.underlying195 za2 w.heap.size 0 (m - 8) m (IntKind.i64.wrap ((m:Int) - 8)) (m:Int) (by rw[IntKind.wrap_i64];omega) rfl (by omega) (by omega) (by omega)
  rw[show m - (m - 8)=8 by omega,Nat.zero_add] at hsl
  have hto:=zff 195 5 72 Tryz.underlying195 za2 w.heap.size 0 m (m:Int) rfl (by omega) (by omega)
  have hal:((128::List.replicate (zcj n) (0:UInt8)).map bv).length=m - 8:=by simp;omega
  have hth:=hB0.thereIn
  rw[hal,List.length_map,List.length_replicate] at hth
  have hthd:W1.drew.there w.heap.size (m - 8) 8:=by simpa using hth
  obtain ⟨HB0,HAL,HM,HW1⟩:=zh4 hB0 hal hm hW1
  clear hB0 hal hm hme hW1 hfn
  go_region_with (first | (go_at_call 131;refine (zge _ w.heap.size (m - 8) 8 _ (n*8) _ ?_ ?_ ?_).mono ?_;(first | omega | (rw[IntKind.wrap_u64];omega));(omega);(first | exact hthd | exact hth);rintro e w2 ⟨rfl,rfl⟩))
  obtain ⟨W2,hW2⟩:∃ W2,W2=W1.drew.setCells w.heap.size (m - 8) ((be8 8 (n*8)).map bv):=⟨_,rfl⟩
  rw[← hW2]
  have hB2:Blk W2 w.heap.size 195 ([]++((zga n).map bv++(List.replicate (72 - m) (0:UInt8)).map bv)):=by
   have:=Blk.setCells ((be8 8 (n*8)).map bv) _ ((uh HB0).drew) (by simp[zbo])
   rw[uh HAL,← hW2] at this
   simpa[zga,List.append_assoc] using this
  have hg2:w.grownBy W2 none:=by
   rw[hW2];exact za1 (Or.inl (Nat.le_refl _)) _ _ (zaa hg1)
  have htl:(zga n).length=m:=by rw[zdk,uh HM]
  have hbt:=znu hB2 72 (by omega) (by unfold maxLen;omega)
  have hH2:=(uh HH).kept hg2 (by simp)
  have hwr:=zgd W2 b t pre post words rest l hH2 ((uh HT).kept0 hg2) hG _ 72 (zga n) hbt (by intro _ ad e;cases e;simp;omega) (by rw[← uh HN];omega)
  rw[htl,← uh HO,show ([]:List Value).length=0 from rfl] at hwr
  have HT2:=hide htl
  clear hB2 hbt hH2 htl hW2
  go_wp2_with (go_at_call 112;refine hwr.mono ?_;rintro e w3 ⟨rfl,⟨wo,re,hH3⟩,g3⟩)
  go_end0
  rw[uh HN] at hH3
  exact ⟨rfl,⟨wo,re,hH3⟩,zae (zav _ hg2) g3 (fun y e=>by cases e;exact Or.inr rfl)⟩
theorem zi4 (w:World):(zeroValue 169).run Tryz.prog w = .ok (.agg (hc (List.replicate 8 0) (List.replicate 64 0) 0).toArray) w:=by kernel_rfl
theorem zqq (x:W):wz x=((x.toNat:Nat):Int):=rfl
theorem znw (x:W):IntKind.u64.wrap (wz x)=((x.toNat:Nat):Int):=by
 have:=zsk x
 have:=zsl x
 rw[IntKind.wrap_u64,← zqq];omega
theorem zi5 (ws:List W) (k:Nat) (h:k<ws.length):(zbg ws).take (4*(k+1))=(zbg ws).take (4*k)++be8 4 (ws[k].toNat):=by
 induction ws generalizing k with
 | nil=>simp at h
 | cons x ws ih =>
   have e:zbg (x::ws)=be8 4 x.toNat++zbg ws:=rfl
   have hl:(be8 4 x.toNat).length=4:=zbo _ _
   cases k with
   | zero =>
     rw[e,show 4*(0+1)=(be8 4 x.toNat).length from hl.symm,List.take_left]
     rfl
   | succ k =>
     rw[e,show 4*(k+1+1)=(be8 4 x.toNat).length+4*(k+1) by omega,List.take_length_add_append,show 4*(k+1)=(be8 4 x.toNat).length+4*k by omega,List.take_length_add_append,← show 4*(k+1)=(be8 4 x.toNat).length+4*k by omega,ih k (by simpa using h),List.append_assoc]
     rfl
theorem zly (ws:List W) (k:Nat) (h:k<8):((zbg ws).take (4*k)++List.replicate (32 - 4*k) (0:UInt8)).map bv=((zbg ws).take (4*k)).map bv++((List.replicate 4 (0:UInt8)).map bv++(List.replicate (32 - 4*(k+1)) (0:UInt8)).map bv):=by
 rw[List.map_append]
 congr 1
 rw[← List.map_append,List.replicate_append_replicate]
 congr 2
 omega
set_option maxHeartbeats 1000000 in
theorem zrj (w:World) (b:Nat) (t:TypeId) (pre post:List Value) (words:List W) (rest l:List UInt8) (hH:HAt w b t pre post words rest l) (hT:Tabs w) (hlen:l.length<576460752303423488) :
  Calls Tryz.prog 113 #[.pointer (some ⟨b,pre.length,none⟩)] w fun e w'=>e = .returned (.agg ((shaL l).map bv).toArray)∧w.grownBy w' none:=by
 obtain ⟨o,ho⟩:∃ o,o=pre.length:=⟨_,rfl⟩
 rw[← ho]
 have hi8:(Tryz.prog.info? 166).map (·.size)=some 8:=by kernel_rfl
 have hi32:(Tryz.prog.info? 102).map (·.size)=some 32:=by kernel_rfl
 have hi73:(Tryz.prog.info? 169).map (·.size)=some 73:=by kernel_rfl
 obtain ⟨Z,hZ⟩:∃ Z:Array Value,Z=(hc (List.replicate 8 0) (List.replicate 64 0) 0).toArray:=⟨_,rfl⟩
 have hzv:=zi4
 rw[← hZ] at hzv
 obtain ⟨W1,hW1⟩:∃ W1,W1=(w.alloc (.cells #[.int .u8 0,.int .u8 0,.int .u8 0,.int .u8 0,.int .u8 0,.int .u8 0,.int .u8 0,.int .u8 0,.int .u8 0,.int .u8 0,.int .u8 0,.int .u8 0,.int .u8 0,.int .u8 0,.int .u8 0,.int .u8 0,.int .u8 0,.int .u8 0,.int .u8 0,.int .u8 0,.int .u8 0,.int .u8 0,.int .u8 0,.int .u8 0,.int .u8 0,.int .u8 0,.int .u8 0,.int .u8 0,.int .u8 0,.int .u8 0,.int .u8 0,.int .u8 0] 102)).alloc (.cells Z 169):=⟨_,rfl⟩
 have hR1:Blk W1 w.heap.size 102 ((List.replicate 32 (0:UInt8)).map bv):=by
  rw[hW1];exact (Blk.new w 102 ((List.replicate 32 (0:UInt8)).map bv)).alloc _
 have hZ1:Blk W1 (w.heap.size+1) 169 (hc (List.replicate 8 0) (List.replicate 64 0) 0):=by
  have:=Blk.new (w.alloc (.cells ((List.replicate 32 (0:UInt8)).map bv).toArray 102)) 169 (hc (List.replicate 8 0) (List.replicate 64 0) 0)
  rw[World.size_alloc] at this
  rw[hW1,hZ];exact this
 have hg1:w.grownBy W1 none:=by rw[hW1];exact zaf (zaf (zac _ _) _) _
 have hHr:W1.rangeAt b o (hc words rest l.length):=by
  have:=(hH.kept hg1 (by simp)).blk.range
  rw[← ho] at this
  exact this
 have hl73:(hc words rest l.length).length=73:=zns _ _ _ hH.took.w8 hH.took.r64
 obtain ⟨cells,hcells⟩:∃ cells,cells=hc words rest l.length:=⟨_,rfl⟩
 rw[← hcells] at hHr hl73
 have hs73:cells.toArray.size=73:=by simpa using hl73
 have hone:cells.toArray.all (·.oneCell')=true:=by
  rw[hcells]
  refine all_oneCell_toArray (fun v hv => ?_)
  rcases List.mem_append.1 hv with h | h
  ·exact zi3 _ v h
  ·rcases List.mem_append.1 h with h | h
   ·exact zch _ v h
   ·simp at h;subst h;rfl
 obtain ⟨W2,hW2⟩:∃ W2,W2=W1.setRow (w.heap.size+1) cells.toArray:=⟨_,rfl⟩
 have hB2:Blk W2 (w.heap.size+1) 169 ([]++(hc words rest l.length++[])):=by
  rw[hW2,hcells];simpa using hZ1.row (hc words rest l.length)
 have hR2:Blk W2 w.heap.size 102 ((List.replicate 32 (0:UInt8)).map bv):=by rw[hW2];exact hR1.row_other _ _ (by omega)
 have hg2:w.grownBy W2 none:=by rw[hW2];exact zaj hg1 _ (Or.inl (by omega))
 have hT2:=hT.kept0 hg2
 have hend:=zri W2 (w.heap.size+1) 169 [] [] words rest l ⟨hB2,hH.took⟩ hT2 (hT.glb (by omega)) hlen
 have hZs:Z.size=73:=by rw[hZ];rfl
 have hZ1' : W1.heap[w.heap.size+1]? = some (.cells Z 169 (0,0)):=by rw[hZ];exact hZ1
 rw[show ([]:List Value).length=0 from rfl] at hend
 rw[hW2] at hend
 have HW1:=hide hW1
 clear hW1
 obtain ⟨HR2,HZ,HW2⟩:=zh3 hR2 hZ hW2
 clear hR2 hZ hB2 hT hT2 hR1 hZ1 hW2 hH hlen hcells ho
 go_enter Tryz.func113,Tryz.ntmps113
 go_wp2_with (first
  | (rw[← uh HW1];refine wpList_load_mid rfl 169 _ rfl b o rfl _ _ hHr Tryz.underlying169 rfl ?_ ?_;(rw[hl73];exact hi73))
  | (refine wpList_store_row rfl 169 _ _ rfl (w.heap.size+1) _ rfl rfl _ _ hZ1' ?_ ?_ hone ?_;(rw[hs73];exact hi73);(rw[hZs,hs73]))
  | (go_at_call 130;refine hend.mono ?_;rintro e w3 ⟨rfl,⟨wo,re,hH3⟩,g3⟩;rw[← uh HW2] at g3;have hr3:w3.rangeAt (w.heap.size+1) 0 (wo.map wv):=hH3.words.range;have hw8:(wo.map wv).length=8:=by rw[List.length_map];exact hH3.took.w8)
  | (refine wpList_load_mid rfl 166 _ rfl (w.heap.size+1) 0 rfl _ _ (World.rangeAt_alloc hr3 _) Tryz.underlying166 rfl ?_ ?_;(rw[hw8];exact hi8)))
 have hwo:wo=shaW l:=hH3.took.ended
 obtain ⟨W3,hW3⟩:∃ W3,W3=w3.alloc (.cells #[.int .u8 0,.int .u8 0,.int .u8 0,.int .u8 0,.int .u8 0,.int .u8 0,.int .u8 0,.int .u8 0,.int .u8 0,.int .u8 0,.int .u8 0,.int .u8 0,.int .u8 0,.int .u8 0,.int .u8 0,.int .u8 0,.int .u8 0,.int .u8 0,.int .u8 0,.int .u8 0,.int .u8 0,.int .u8 0,.int .u8 0,.int .u8 0,.int .u8 0,.int .u8 0,.int .u8 0,.int .u8 0,.int .u8 0,.int .u8 0,.int .u8 0,.int .u8 0] 102):=⟨_,rfl⟩
 rw[← hW3]
 have hN3:Blk W3 w3.heap.size 102 ((List.replicate 32 (0:UInt8)).map bv):=by rw[hW3];exact Blk.new w3 _ _
 have hg3:w.grownBy w3 none:=zae hg2 g3 (fun y e=>by cases e;exact Or.inl (by omega))
 have hgW3:w.grownBy W3 none:=by rw[hW3];exact zaf hg3 _
 have hR3:Blk W3 w.heap.size 102 ((List.replicate 32 (0:UInt8)).map bv):=by
  rw[hW3];exact ((uh HR2).kept g3 (by simp)).alloc _
 have hsz3:=hg3.size
 have hlt3:w.heap.size<w3.heap.size:=Nat.lt_of_lt_of_le (uh HR2).lt g3.size
 obtain ⟨N,hN⟩:∃ N,N=w3.heap.size:=⟨_,rfl⟩
 rw[← hN] at hN3 hlt3 ⊢
 have hw8' : wo.length=8:=by simpa using hw8
 have HW8:=hide hw8'
 have HWO:=hide hwo
 clear hH3 hr3 hw8 hwo hend hW3 hg3 hg2 g3 hsz3 hN hw8'
 go_loopw [15] (fun i wr=>∃ k:Nat,k≤8∧i = .int .i64 k∧Blk wr N 102 (((zbg wo).take (4*k)++List.replicate (32 - 4*k) (0:UInt8)).map bv)∧Blk wr w.heap.size 102 ((List.replicate 32 (0:UInt8)).map bv)∧w.grownBy wr none) (fun i _=>8 - (intOf i).toNat)
 case atStart=>exact ⟨0,Nat.zero_le _,rfl,hN3,hR3,hgW3⟩
 case round =>
  clear hN3 hR3 hgW3
  obtain ⟨k,hk,rfl,hB,hR,hg⟩:=hrel
  by_cases hlt:k<8
  ·have hq0:(0:Int)≤(k:Int):=by omega
   have hkw:k<wo.length:=by rw[uh HW8];exact hlt
   obtain ⟨xk,hxk⟩:∃ xk,xk=wo[k]:=⟨_,rfl⟩
   have hidx:=zfv 166 165 8 (wo.map wv) k (.int .u32 (wz xk)) Tryz.underlying166 zgc zhx hlt (by
    rw[List.getElem?_map,List.getElem?_eq_getElem hkw,hxk];rfl)
   have hsl:=zd7 102 5 32 Tryz.underlying102 za2 N 0 (4*k) (4*k+4) ((k:Int)*4) (((k:Int)+1)*4) (by omega) (by omega) (by omega) (by omega) (by omega)
   rw[show 4*k+4 - 4*k=4 by omega,Nat.zero_add] at hsl
   have hal:(((zbg wo).take (4*k)).map bv).length=4*k:=by rw[List.length_map,List.length_take,zcl,uh HW8];omega
   rw[zly wo k hlt] at hB
   have hth:=hB.thereIn
   rw[hal,List.length_map,List.length_replicate] at hth
   obtain ⟨HX,HB,HR,HAL⟩:=zh4 hxk hB hR hal
   clear hxk hB hR hal
   go_wp2_with (go_at_call 131;refine (zge _ N (4*k) 4 _ xk.toNat _ ?_ ?_ hth).mono ?_;(first | rw[znw] | exact zqq xk);(omega);rintro e w4 ⟨rfl,rfl⟩)
   go_roundw
   case rel =>
    have hS:=Blk.setCells ((be8 4 xk.toNat).map bv) _ (uh HB) (by simp[zbo])
    rw[uh HAL] at hS
    refine ⟨k+1,by omega,by go_num,?_,(uh HR).setCells_other (by omega) _ _,za1 (Or.inl (by omega)) _ _ hg⟩
    rw[zi5 wo k hkw,List.map_append,List.map_append,List.append_assoc,← uh HX]
    exact hS
   case measure=>simp[intOf];omega
  ·obtain rfl:k=8:=by omega
   have hbl:(zbg wo).length=32:=by rw[zcl,uh HW8]
   rw[List.take_of_length_le (by omega),show 32 - 4*8=0 from rfl,List.replicate_zero,List.append_nil] at hB
   have hsz:(((zbg wo).map bv).toArray).size=32:=by simp[hbl]
   have HSZ:=hide hsz
   clear hsz hbl
   go_wp2_with (first | (refine wpList_load_row rfl 102 _ rfl N rfl _ _ _ _ hB Tryz.underlying102 rfl ?_ ?_;(rw[uh HSZ];exact hi32)) | (refine wpList_store_row rfl 102 _ _ rfl w.heap.size _ rfl rfl _ _ hR ?_ ?_ ?_ ?_;(rw[uh HSZ];exact hi32);(rw[uh HSZ];rfl);(exact all_oneCell_toArray (zch _))))
   have hS:=hR.row ((zbg wo).map bv)
   have hG:w.grownBy (wr.setRow w.heap.size ((zbg wo).map bv).toArray) none:=zaj hg _ (Or.inl (Nat.le_refl _))
   refine bodyPost_ret (v := .agg ((zbg wo).map bv).toArray) (results_cell_row (g:=w.heap.size) rfl _ _ _ _ _ _ ?_ hS Tryz.underlying102 rfl ?_) rfl ⟨?_,hG⟩
   ·rfl
   ·rw[uh HSZ];exact hi32
   ·rw[uh HWO];rfl
end Go.Proofs.YtoilcpdhhlcidaaGreatDoor
