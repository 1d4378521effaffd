/- Lemmas. -/
import Derived.WalkKit
import Derived.WalkSpells
import Derived.WalkLawsBesides
import Derived.LaidEql
import Derived.Stop.Asserts
import Derived.RowKitTokens
import Derived.Test.YtoilcpdhhlcidaaGreatDoorDFrs
import Derived.Laws.AppendOwnNone
namespace Go.Proofs.YtoilcpdhhlcidaaGreatDoor
open Go.RowKit Go.Extern
set_option maxRecDepth 100000
theorem zdi {P:Program} (w:World) (d:Nat) {ti tn:TypeId} {ms:Array (String × TypeId)} {i:TypeInfo} {k:IntKind} (a b:Int)
  (hi:P.underlying ti=some (.interface ms)) (hn:P.underlying tn=some (.int k)) (hinfo:P.info? tn=some i) (hcomp:i.comparable=true) :
  (Op.equalIn (d+2) ti (.iface tn (.int k a)) (.iface tn (.int k b))).run P w = .ok (a == b) w:=by
 simp[Op.equalIn,run_underlying hi,run_underlying hn,typeInfo,hinfo,hcomp]
theorem zcr {P:Program} (w:World) {ti tn:TypeId} {ms:Array (String × TypeId)} {i:TypeInfo} {k:IntKind} (a b:Int)
  (hi:P.underlying ti=some (.interface ms)) (hn:P.underlying tn=some (.int k)) (hinfo:P.info? tn=some i) (hcomp:i.comparable=true) :
  (binOp .eql ti (.iface tn (.int k a)) (.iface tn (.int k b))).run P w = .ok (.bool (a == b)) w:=by
 simp only[binOp]
 simp[Op.equal,Op.maxDepth,zdi w 9998 a b hi hn hinfo hcomp]
theorem zkv (v:Value) (w:World):(Extern.ReflectliteType.typeOf #[.iface 24 v]).run Tryz.prog w = .ok (.iface 206 (.agg #[.pointer (some ⟨2,24,none⟩)])) w:=by kernel_rfl
def zht (t:TypeId):Sem Value:=do Extern.Rtype.noPackHeld "Comparable" t;pure (.bool (← typeInfo t).comparable)
theorem zfa (w:World):((Extern.ReflectliteType.method zht) #[.agg #[.pointer (some ⟨2,24,none⟩)]]).run Tryz.prog w = .ok (.bool true) w:=by kernel_rfl
theorem zci (v:Value) (w:World):(Go.method 347 206 v "Comparable").run Tryz.prog w = .ok (166,v) w:=by kernel_rfl
theorem zqo:(Tryz.prog.info? 24).map (·.comparable)=some true:=by kernel_rfl
theorem zsi (v:Value) (xT:TypeId) (w:World):(Instr.typeAssert (.iface 24 v) xT 208 true).run Tryz.prog w = .ok (.tuple #[.nilIface,.bool false]) w:=run_typeAssert_lacksB Tryz.underlying208 (by kernel_rfl) (by kernel_rfl) v xT w
theorem zng (v:Value) (xT:TypeId) (w:World):(Instr.typeAssert (.iface 24 v) xT 211 true).run Tryz.prog w = .ok (.tuple #[.nilIface,.bool false]) w:=run_typeAssert_lacksB Tryz.underlying211 (by kernel_rfl) (by kernel_rfl) v xT w
theorem zlt (v:Value) (xT:TypeId) (w:World):(Instr.typeAssert (.iface 24 v) xT 213 true).run Tryz.prog w = .ok (.tuple #[.nilIface,.bool false]) w:=run_typeAssert_lacksB Tryz.underlying213 (by kernel_rfl) (by kernel_rfl) v xT w
theorem zq5 (a:Int) (w:World) :
  Calls Tryz.prog 138 #[.iface 24 (.int .i64 a),.iface 24 (.int .i64 a)] w fun e w'=>e = .returned (.bool true)∧w'=w:=by
 obtain ⟨i,hi,hcmp⟩:=Option.map_eq_some_iff.1 zqo
 have h8 := @run_callFunc_extern Tryz.prog 143 _ Extern.ReflectliteType.typeOf Tryz.func143 (by kernel_rfl) (by kernel_rfl) (by kernel_rfl) (by kernel_rfl)
 have h32 := @run_callFunc_extern Tryz.prog 166 _ (Extern.ReflectliteType.method zht) Tryz.func166 (by kernel_rfl) (by kernel_rfl) (by kernel_rfl) (by kernel_rfl)
 have tT:=zkv
 have cT:=zfa
 have mR:=zci
 have heq:=zcr (P:=Tryz.prog) w a a Tryz.underlying200 Tryz.underlying24 hi hcmp
 simp only[beq_self_eq_true] at heq
 go_enter Tryz.func138,Tryz.ntmps138
 go_wp2
 refine wp_loop_rounds 1 ?_
 rw[rounds_succ]
 go_wp2
 go_ret
 exact ⟨rfl,rfl⟩
theorem zpn (a b:Int) (hab:(a == b)=false) (w:World) :
  Calls Tryz.prog 138 #[.iface 24 (.int .i64 a),.iface 24 (.int .i64 b)] w fun e w'=>e = .returned (.bool false)∧w'=w:=by
 obtain ⟨i,hi,hcmp⟩:=Option.map_eq_some_iff.1 zqo
 have h8 := @run_callFunc_extern Tryz.prog 143 _ Extern.ReflectliteType.typeOf Tryz.func143 (by kernel_rfl) (by kernel_rfl) (by kernel_rfl) (by kernel_rfl)
 have h32 := @run_callFunc_extern Tryz.prog 166 _ (Extern.ReflectliteType.method zht) Tryz.func166 (by kernel_rfl) (by kernel_rfl) (by kernel_rfl) (by kernel_rfl)
 have tT:=zkv
 have cT:=zfa
 have mR:=zci
 have nE:=zsi
 have uE:=zng
 have vE:=zlt
 have heq:=zcr (P:=Tryz.prog) w a b Tryz.underlying200 Tryz.underlying24 hi hcmp
 rw[hab] at heq
 go_enter Tryz.func138,Tryz.ntmps138
 go_wp2
 refine wp_loop_rounds 1 ?_
 rw[rounds_succ]
 go_wp2
 go_ret
 exact ⟨rfl,rfl⟩
end Go.Proofs.YtoilcpdhhlcidaaGreatDoor

/- Lemmas. -/
namespace Go.Proofs.YtoilcpdhhlcidaaGreatDoor
open Go.RowKit
set_option maxRecDepth 100000
theorem zkw (w:World) (rb:Nat) (e:Int) (h:w.cell? ⟨rb,1,none⟩=some (.int .i64 e)) :
  Calls Tryz.prog 139 #[.pointer (some ⟨rb,0,none⟩)] w fun x w'=>x = .returned (.int .i64 e)∧w'=w:=by
 go_enter Tryz.func139,Tryz.ntmps139
 go_wp2
 go_ret
 exact ⟨rfl,rfl⟩
theorem zfp (w:World) (rb:Nat) (h:w.cell? ⟨rb,1,none⟩=some (.int .i64 0)) :
  Calls Tryz.prog 126 #[.pointer (some ⟨rb,0,none⟩),.int .i64 0] w fun e w'=>e = .returned (.bool true)∧w'=w:=by
 go_enter Tryz.func126,Tryz.ntmps126
 go_wp2_with fail
 refine (zkw _ _ _ h).mono ?_
 rintro e w' ⟨rfl,rfl⟩
 go_wp2_with fail
 refine (zq5 _ _).mono ?_
 rintro e w' ⟨rfl,rfl⟩
 go_wp2
 go_ret
 exact ⟨rfl,rfl⟩
theorem zq6 (w:World) (rb:Nat) (k:Int) (hk:(k == 0)=false) (h:w.cell? ⟨rb,1,none⟩=some (.int .i64 k)) :
  Calls Tryz.prog 126 #[.pointer (some ⟨rb,0,none⟩),.int .i64 0] w fun e w'=>e = .returned (.bool false)∧w'=w:=by
 go_enter Tryz.func126,Tryz.ntmps126
 go_wp2_with fail
 refine (zkw _ _ _ h).mono ?_
 rintro e w' ⟨rfl,rfl⟩
 go_wp2_with fail
 refine (zpn _ _ hk _).mono ?_
 rintro e w' ⟨rfl,rfl⟩
 go_wp2
 go_ret
 exact ⟨rfl,rfl⟩
theorem zkx (w:World) (rb:Nat) (v:Value) (k:Int) (h:w.cell? ⟨rb,1,none⟩=some (.int .i64 0)) (h0:w.cell? ⟨rb,0,none⟩=some v)
  (f0:w.frozen? ⟨rb,0,none⟩=false) (f1:w.frozen? ⟨rb,1,none⟩=false) :
  Calls Tryz.prog 109 #[.pointer (some ⟨rb,0,none⟩),.int .i64 k] w fun e w'=>e = .returned (.tuple #[]) ∧
   w'=(w.setCell ⟨rb,1,none⟩ (.int .i64 k)).setCell ⟨rb,0,none⟩ (.slice none 0 0):=by
 go_enter Tryz.func109,Tryz.ntmps109
 go_wp2_with fail
 refine (zfp _ _ h).mono ?_
 rintro e w' ⟨rfl,rfl⟩
 go_wp2
 go_end0
 exact ⟨rfl,rfl⟩
theorem zq7 {k:IntKind} {a b:Int} (h:a=b):Ending.returned (.int k a) = .returned (.int k b):=by rw[h]
theorem zfq (n:Int) (w:World):Calls Tryz.prog 96 #[.int .i64 n] w fun e w'=>e = .returned (.int .i64 (min (max n 0) 8))∧w'=w:=by
 go_enter Tryz.func96,Tryz.ntmps96
 go_wp2
 all_goals (go_ret;exact ⟨zq7 (by omega),rfl⟩)
def nb (n:Int):Nat:=(min (max n 0) 8).toNat
def numS (l:List UInt8) (e n:Int):Nat × List UInt8 × Int:=if e=0 then (if l.length<nb n then (0,[],10) else (be (l.take (nb n)),l.drop (nb n),0)) else (0,l,e)
def rawS (l:List UInt8) (e n:Int):List UInt8 × List UInt8 × Int:=if e=0 then (if l.length<n.toNat then ([],[],10) else (l.take n.toNat,l.drop n.toNat,0)) else ([],l,e)
def zba (l:List UInt8) (e:Int):List UInt8 × List UInt8 × Int :=
 if e=0 then (if l.length<4 then ([],[],10) else if 65536<be (l.take 4) then ([],[],3) else if l.length<4+be (l.take 4) then ([],[],10) else ((l.drop 4).take (be (l.take 4)),(l.drop 4).drop (be (l.take 4)),0)) else ([],l,e)
theorem zlu (l:List UInt8) (k:Nat) (hk:k<8):be (l.take k)<72057594037927936:=by
 have h1:=zr1 (l.take k)
 have h2:256 ^ (l.take k).length≤256 ^ 7:=Nat.pow_le_pow_right (by omega) (by simp;omega)
 omega
theorem or8 (a x:Nat) (ha:a<72057594037927936) (hx:x<256):bits .or .u64 (IntKind.u64.wrap ((a:Int)*256)) (x:Int)=((a*256+x:Nat):Int):=by
 have h1:IntKind.u64.wrap ((a:Int)*256)=((a*256:Nat):Int):=by
  unfold IntKind.wrap
  simp[IntKind.bits,IntKind.signed]
  omega
 rw[h1,u64_or_nat _ _ (by omega) (by omega)]
 have h2:=Nat.shiftLeft_add_eq_or_of_lt (b:=x) (i:=8) (by omega) a
 rw[Nat.shiftLeft_eq,show (2:Nat) ^ 8=256 from rfl] at h2
 rw[← h2]
set_option maxHeartbeats 400000 in
theorem zpo (w:World) (ao:Option Addr) (c:Nat) (l:List UInt8) (vb:Nat) (hb:Bts w ao c l) (hl:l.length≤8) (ho:Off ao vb) (hv:w.cell? ⟨vb,0,none⟩=some (.int .u64 0)) (hf:w.frozen? ⟨vb,0,none⟩=false) :
  Calls Tryz.prog 108 #[.slice ao l.length c,.pointer (some ⟨vb,0,none⟩)] w fun e w'=>e = .returned (.tuple #[]) ∧
   w'.cell? ⟨vb,0,none⟩=some (.int .u64 (be l:Int))∧w.grownBy w' (some vb):=by
 go_enter Tryz.func108,Tryz.ntmps108
 go_wp2
 go_loopw [7] (fun i wr=>∃ k:Nat,k≤l.length∧i = .int .i64 k∧wr.cell? ⟨vb,0,none⟩=some (.int .u64 (be (l.take k):Int))∧wr.frozen? ⟨vb,0,none⟩=false∧w.grownBy wr (some vb)) (fun i _=>l.length - (intOf i).toNat)
 case atStart=>exact ⟨0,Nat.zero_le _,rfl,hv,hf,zac _ _⟩
 case round =>
  obtain ⟨k,hk,rfl,hvr,hfr,hg⟩:=hrel
  by_cases hlt:k<l.length
  ·obtain ⟨ad,rfl⟩:∃ ad,ao=some ad:=by
    cases ao with
    | none=>have:=hb.zip rfl;omega
    | some ad=>exact ⟨ad,rfl⟩
   have hc:=(hb.kept hg (fun x e=>by cases e;exact ho)).cell ad rfl k hlt
   have hs:=hb.shape ad rfl (by omega)
   obtain ⟨b,o,s⟩:=ad
   simp only at hs hc
   subst hs
   have hx:=(l[k]).toNat_lt
   go_wp2
   go_roundw
   case rel =>
    refine ⟨k+1,by omega,by go_num,?_,?_,?_⟩
    ·rw[zfs hlt,zjq,← or8 _ _ (zlu l k (by omega)) hx]
     exact World.cell?_setCell_same _ _ _ hvr
    ·simp[hfr]
    ·exact zam hg _ _ (Or.inr rfl)
   case measure=>simp[intOf];omega
  ·go_wp2
   go_end0
   have hkl:k=l.length:=by omega
   subst hkl
   rw[List.take_length] at hvr
   exact ⟨rfl,hvr,hg⟩
theorem zky (w:World) (rb:Nat) (e k:Int) (fv:Value) (he:(e == 0)=false) (h:w.cell? ⟨rb,1,none⟩=some (.int .i64 e)) :
  Calls Tryz.prog 106 #[.pointer (some ⟨rb,0,none⟩),.int .i64 k,fv] w fun e w'=>e = .returned (.tuple #[])∧w'=w:=by
 go_enter Tryz.func106,Tryz.ntmps106
 go_wp2_with fail
 refine (zq6 _ _ _ he h).mono ?_
 rintro e w' ⟨rfl,rfl⟩
 go_wp2
 refine bodyPost_ret (results_none rfl _ _ _) rfl ?_
 exact ⟨rfl,rfl⟩
theorem zkz (w:World) (rb:Nat) (ao:Option Addr) (n c:Nat) (k:Int) (fv:Value) (hk:(n:Int)<k) (h0:w.cell? ⟨rb,0,none⟩=some (.slice ao n c)) (h1:w.cell? ⟨rb,1,none⟩=some (.int .i64 0))
  (f0:w.frozen? ⟨rb,0,none⟩=false) (f1:w.frozen? ⟨rb,1,none⟩=false) :
  Calls Tryz.prog 106 #[.pointer (some ⟨rb,0,none⟩),.int .i64 k,fv] w fun e w'=>e = .returned (.tuple #[]) ∧
   w'=(w.setCell ⟨rb,1,none⟩ (.int .i64 10)).setCell ⟨rb,0,none⟩ (.slice none 0 0):=by
 go_enter Tryz.func106,Tryz.ntmps106
 go_wp2_with fail
 refine (zfp _ _ h1).mono ?_
 rintro e w' ⟨rfl,rfl⟩
 go_wp2_with fail
 refine (zkx _ _ _ _ h1 h0 f0 f1).mono ?_
 rintro e w' ⟨rfl,rfl⟩
 go_wp2
 refine bodyPost_ret (results_none rfl _ _ _) rfl ?_
 exact ⟨rfl,rfl⟩
set_option maxHeartbeats 400000 in
theorem ziz (w:World) (rb:Nat) (ao:Option Addr) (c n k vb:Nat) (R:World→Prop) (hk:k≤n) (hn:n≤c) (h0:w.cell? ⟨rb,0,none⟩=some (.slice ao n c)) (h1:w.cell? ⟨rb,1,none⟩=some (.int .i64 0))
  (hf:Calls Tryz.prog 108 #[.slice ao k c,.pointer (some ⟨vb,0,none⟩)] w fun e w'=>e = .returned (.tuple #[])∧w'.cell? ⟨rb,0,none⟩=some (.slice ao n c)∧w'.frozen? ⟨rb,0,none⟩=false∧R w') :
  Calls Tryz.prog 106 #[.pointer (some ⟨rb,0,none⟩),.int .i64 k,.func (.func 108) #[] #[.pointer (some ⟨vb,0,none⟩)]] w fun e w'=>e = .returned (.tuple #[]) ∧
   ∃ w1,R w1∧w'=w1.setCell ⟨rb,0,none⟩ (.slice (cutA ao c k) (n - k) (c - k)):=by
 have s1:=fun W=>zkc (P:=Tryz.prog) W 53 5 Tryz.underlying53 za2 ao n c k (by omega)
 have s2:=fun W=>zb1 (P:=Tryz.prog) W 53 5 Tryz.underlying53 za2 ao n c k (by omega)
 have H:=hf
 go_enter Tryz.func106,Tryz.ntmps106
 go_wp2_with fail
 refine (zfp _ _ h1).mono ?_
 rintro e w' ⟨rfl,rfl⟩
 go_wp2_with fail
 refine H.mono ?_
 rintro e w1 ⟨rfl,hc1,hf1,hR⟩
 clear h0 h1
 go_wp2
 go_end0
 exact ⟨rfl,w1,hR,rfl⟩
theorem zq8 (w:World) (rb:Nat) (l:List UInt8) (k n:Int) (hk:(k == 0)=false) (h:Rd w rb l k) :
  Calls Tryz.prog 91 #[.pointer (some ⟨rb,0,none⟩),.int .i64 n] w fun e w'=>e = .returned (.int .u64 0)∧Rd w' rb l k∧w.grownBy w' none:=by
 have hR:=h.kept (World.grownBy_alloc w (.cells #[.int .u64 0] 45) none) (Or.inl rfl)
 obtain ⟨ao,c,h1,h2,h3⟩:=h
 go_enter Tryz.func91,Tryz.ntmps91
 go_wp2_with fail
 refine (zfq _ _).mono ?_
 rintro e w' ⟨rfl,rfl⟩
 go_wp2_with fail
 refine (zky _ _ _ _ _ hk (h1.alloc _).c1).mono ?_
 rintro e w' ⟨rfl,rfl⟩
 go_wp2
 go_ret
 exact ⟨rfl,hR,zaf (zac _ _) _⟩
theorem zq9 (w:World) (rb:Nat) (l:List UInt8) (n:Int) (hn:(l.length:Int)<min (max n 0) 8) (h:Rd w rb l 0) :
  Calls Tryz.prog 91 #[.pointer (some ⟨rb,0,none⟩),.int .i64 n] w fun e w'=>e = .returned (.int .u64 0)∧Rd w' rb [] 10∧w.grownBy w' (some rb):=by
 obtain ⟨ao,c,h1,h2,h3⟩:=h
 have hlt:=h1.lt
 have hR:=(Rd.failed h1 10).kept (World.grownBy_alloc _ (.cells #[.int .u64 0] 45) none) (Or.inl rfl)
 have hG:=zaf (zft w rb 10) (.cells #[.int .u64 0] 45)
 go_enter Tryz.func91,Tryz.ntmps91
 go_wp2_with fail
 refine (zfq _ _).mono ?_
 rintro e w' ⟨rfl,rfl⟩
 go_wp2_with fail
 refine (zkz _ _ _ _ _ _ _ hn (h1.alloc _).c0 (h1.alloc _).c1 ((h1.alloc _).fz _) ((h1.alloc _).fz _)).mono ?_
 rintro e w' ⟨rfl,rfl⟩
 go_wp2
 go_ret
 exact ⟨rfl,hR,hG⟩
theorem zpp {w w1:World} {rb:Nat} {ao:Option Addr} {c k:Nat} {l:List UInt8} {x:Int} (h1:RdAt w rb (.slice ao l.length c) 0) (h2:Bts w ao c l) (h3:Inb w ao rb) (hk:k≤l.length)
  (q1:w1.cell? ⟨w.heap.size,0,none⟩=some (.int .u64 x)) (q2:(w.alloc (.cells #[.int .u64 0] 45)).grownBy w1 (some w.heap.size)) :
  (w1.setCell ⟨rb,0,none⟩ (.slice (cutA ao c k) (l.length - k) (c - k))).cell? ⟨w.heap.size,0,none⟩=some (.int .u64 x) ∧
  Rd (w1.setCell ⟨rb,0,none⟩ (.slice (cutA ao c k) (l.length - k) (c - k))) rb (l.drop k) 0 ∧
  w.grownBy (w1.setCell ⟨rb,0,none⟩ (.slice (cutA ao c k) (l.length - k) (c - k))) (some rb):=by
 have hlt:=h1.lt
 have g1:w.grownBy w1 none:=zae (World.grownBy_alloc w _ none) q2 (fun x e=>by cases e;exact Or.inl (Nat.le_refl _))
 have g2:=zbs w1 rb 0 (.slice (cutA ao c k) (l.length - k) (c - k))
 refine ⟨?_,Rd.read (h1.kept g1 (by simp)) (h2.kept g1 (fun _ e=>by cases e)) (h3.kept g1 (fun _ e=>by cases e)) hk,zae (zav _ g1) g2 (fun x e=>Or.inr e)⟩
 exact g2.cell q1 (by simp;omega)
set_option maxHeartbeats 400000 in
theorem zra (w:World) (rb:Nat) (l:List UInt8) (n:Int) (k:Nat) (hk:min (max n 0) 8=(k:Int)) (hkl:k≤l.length) (h:Rd w rb l 0) :
  Calls Tryz.prog 91 #[.pointer (some ⟨rb,0,none⟩),.int .i64 n] w fun e w'=>e = .returned (.int .u64 (be (l.take k):Int))∧Rd w' rb (l.drop k) 0∧w.grownBy w' (some rb):=by
 obtain ⟨ao,c,h1,h2,h3⟩:=h
 have hlt:=h1.lt
 have H:Hid (min (max n 0) 8=(k:Int)):=hk
 have h1a:=h1.alloc (.cells #[.int .u64 0] 45)
 have h2a:Bts (w.alloc (.cells #[.int .u64 0] 45)) ao c (l.take k):=(h2.take k hkl).kept (World.grownBy_alloc w _ none) (fun _ e=>by cases e)
 have hc1:=zpo _ ao c (l.take k) w.heap.size h2a (by simp;omega) (h3.off_new (Nat.le_refl _)) (by simp) (by simp)
 rw[List.length_take,Nat.min_eq_left hkl] at hc1
 have hnx:=ziz (w.alloc (.cells #[.int .u64 0] 45)) rb ao c l.length k w.heap.size (fun w1=>w1.cell? ⟨w.heap.size,0,none⟩=some (.int .u64 (be (l.take k):Int))∧(w.alloc (.cells #[.int .u64 0] 45)).grownBy w1 (some w.heap.size)) hkl h2.fits h1a.c0 h1a.c1 (by
  refine hc1.mono ?_
  rintro e w1 ⟨rfl,q1,q2⟩
  have h1b:=h1a.kept q2 (by simp;omega)
  exact ⟨rfl,h1b.c0,h1b.fz _,q1,q2⟩)
 clear hk hc1 h2a h1a
 go_enter Tryz.func91,Tryz.ntmps91
 go_wp2_with fail
 refine (zfq _ _).mono ?_
 rintro e w' ⟨rfl,rfl⟩
 rw[H.out]
 go_wp2_with fail
 refine hnx.mono ?_
 rintro e w2 ⟨rfl,w1,⟨q1,q2⟩,rfl⟩
 obtain ⟨p1,p2,p3⟩:=zpp h1 h2 h3 hkl q1 q2
 clear hnx h1 h2 h3 q1 q2
 go_wp2
 go_ret
 exact ⟨rfl,p2,p3⟩
set_option maxHeartbeats 400000 in
theorem zi0 (w:World) (rb:Nat) (ao:Option Addr) (c n k vb:Nat) (R:World→Prop) (hk:k≤n) (hn:n≤c) (h0:w.cell? ⟨rb,0,none⟩=some (.slice ao n c)) (h1:w.cell? ⟨rb,1,none⟩=some (.int .i64 0))
  (hf:Calls Tryz.prog 107 #[.slice ao k c,.pointer (some ⟨vb,0,none⟩)] w fun e w'=>e = .returned (.tuple #[])∧w'.cell? ⟨rb,0,none⟩=some (.slice ao n c)∧w'.frozen? ⟨rb,0,none⟩=false∧R w') :
  Calls Tryz.prog 106 #[.pointer (some ⟨rb,0,none⟩),.int .i64 k,.func (.func 107) #[] #[.pointer (some ⟨vb,0,none⟩)]] w fun e w'=>e = .returned (.tuple #[]) ∧
   ∃ w1,R w1∧w'=w1.setCell ⟨rb,0,none⟩ (.slice (cutA ao c k) (n - k) (c - k)):=by
 have s1:=fun W=>zkc (P:=Tryz.prog) W 53 5 Tryz.underlying53 za2 ao n c k (by omega)
 have s2:=fun W=>zb1 (P:=Tryz.prog) W 53 5 Tryz.underlying53 za2 ao n c k (by omega)
 have H:=hf
 go_enter Tryz.func106,Tryz.ntmps106
 go_wp2_with fail
 refine (zfp _ _ h1).mono ?_
 rintro e w' ⟨rfl,rfl⟩
 go_wp2_with fail
 refine H.mono ?_
 rintro e w1 ⟨rfl,hc1,hf1,hR⟩
 clear h0 h1
 go_wp2
 go_end0
 exact ⟨rfl,w1,hR,rfl⟩
theorem zg0 (w:World) (ao:Option Addr) (c:Nat) (l:List UInt8) (hb:Bts w ao c l) (hr:l.length≤70368744177664) :
  Calls Tryz.prog 98 #[.slice ao l.length c,.int .i64 0] w fun e w'=>e = .returned (.slice (some ⟨w.heap.size,0,none⟩) l.length l.length) ∧
   Bts w' (some ⟨w.heap.size,0,none⟩) l.length l∧w.grownBy w' none∧Typ w' w.heap.size:=by
 refine (zfu w ao c l 0 hb (by omega)).mono ?_
 rintro e w' ⟨rfl,h1,h2⟩
 obtain ⟨_,_,h4⟩:=Bts.own h1
 exact ⟨rfl,h4,h2,Typ.own h1⟩
theorem znh (w:World) (ao:Option Addr) (c:Nat) (l:List UInt8) (hb:Bts w ao c l) (hl:l.length≤70368744177664) :
  Calls Tryz.prog 89 #[.slice ao l.length c] w fun e w'=>∃ rb,e = .returned (.pointer (some ⟨rb,0,none⟩))∧w.heap.size≤rb∧Rd w' rb l 0∧w.grownBy w' none:=by
 go_enter Tryz.func89,Tryz.ntmps89
 go_wp2_with fail
 refine (zg0 _ _ _ _ hb hl).mono ?_
 rintro e w1 ⟨rfl,h1,h2,h3⟩
 go_wp2
 go_ret
 have g:=World.grownBy_alloc w1 (.cells #[.slice (some ⟨w.heap.size,0,none⟩) l.length l.length,.int .i64 0] 159) none
 have hsz:=h2.size
 have hlt:=h3.lt
 exact ⟨w1.heap.size,rfl,hsz,⟨some ⟨w.heap.size,0,none⟩,l.length,heap_alloc_new w1 _,h1.kept g (fun _ e=>by cases e),fun ad e=>by cases e;exact ⟨h3.kept g (by simp),by simp only;omega⟩⟩,zaf h2 _⟩
theorem zni {w w1:World} {vb:Nat} {l:List UInt8} {c:Nat} (hv:vb<w.heap.size) (h4:Bts w1 (some ⟨w.heap.size,0,none⟩) c l) (h2:w.grownBy w1 none) (h3:Typ w1 w.heap.size) (v:Value) :
  Bts (w1.setCell ⟨vb,0,none⟩ v) (some ⟨w.heap.size,0,none⟩) c l∧w.grownBy (w1.setCell ⟨vb,0,none⟩ v) (some vb)∧Typ (w1.setCell ⟨vb,0,none⟩ v) w.heap.size:=by
 have g:=zbs w1 vb 0 v
 exact ⟨h4.kept g (fun x e=>by cases e;intro ad e;cases e;simp;omega),zae (zav _ h2) g (fun x e=>Or.inr e),h3.kept g (by simp;omega)⟩
set_option maxHeartbeats 400000 in
theorem zpq (w:World) (ao:Option Addr) (c:Nat) (l:List UInt8) (vb:Nat) (v:Value) (hb:Bts w ao c l) (hl:l.length≤70368744177664) (hv:w.cell? ⟨vb,0,none⟩=some v) (hf:w.frozen? ⟨vb,0,none⟩=false) :
  Calls Tryz.prog 107 #[.slice ao l.length c,.pointer (some ⟨vb,0,none⟩)] w fun e w'=>e = .returned (.tuple #[]) ∧
   w'.cell? ⟨vb,0,none⟩=some (.slice (some ⟨w.heap.size,0,none⟩) l.length l.length)∧Bts w' (some ⟨w.heap.size,0,none⟩) l.length l∧w.grownBy w' (some vb)∧Typ w' w.heap.size:=by
 have hlt:=World.block_lt_of_cell? w _ hv
 simp only at hlt
 go_enter Tryz.func107,Tryz.ntmps107
 go_wp2_with fail
 refine (zg0 _ _ _ _ hb hl).mono ?_
 rintro e w1 ⟨rfl,h1,h2,h3⟩
 have hv1:=h2.cell hv (by simp)
 have hf1:w1.frozen? ⟨vb,0,none⟩=false:=by rw[(zdp h2).frozen hlt];exact hf
 obtain ⟨p1,p2,p4⟩:=zni hlt h1 h2 h3 (.slice (some ⟨w.heap.size,0,none⟩) l.length l.length)
 have p3:=World.cell?_setCell_same w1 ⟨vb,0,none⟩ (.slice (some ⟨w.heap.size,0,none⟩) l.length l.length) hv1
 clear hb
 go_wp2
 go_end0
 exact ⟨rfl,p3,p1,p2,p4⟩
theorem zrb (w:World) (rb:Nat) (l:List UInt8) (k n:Int) (hk:(k == 0)=false) (h:Rd w rb l k) :
  Calls Tryz.prog 90 #[.pointer (some ⟨rb,0,none⟩),.int .i64 n] w fun e w'=>e = .returned (.slice none 0 0)∧Rd w' rb l k∧w.grownBy w' none:=by
 have hR:=h.kept (World.grownBy_alloc w (.cells #[.slice none 0 0] 53) none) (Or.inl rfl)
 obtain ⟨ao,c,h1,h2,h3⟩:=h
 by_cases hn:0≤n
 all_goals
  go_enter Tryz.func90,Tryz.ntmps90
  go_wp2_with fail
  refine (zky _ _ _ _ _ hk (h1.alloc _).c1).mono ?_
  rintro e w' ⟨rfl,rfl⟩
  go_wp2
  go_ret
  exact ⟨rfl,hR,zaf (zac _ _) _⟩
theorem zrc (w:World) (rb:Nat) (l:List UInt8) (n:Int) (hn:(l.length:Int)<n) (h:Rd w rb l 0) :
  Calls Tryz.prog 90 #[.pointer (some ⟨rb,0,none⟩),.int .i64 n] w fun e w'=>e = .returned (.slice none 0 0)∧Rd w' rb [] 10∧w.grownBy w' (some rb):=by
 obtain ⟨ao,c,h1,h2,h3⟩:=h
 have hlt:=h1.lt
 have hn0:0≤n:=by omega
 have hR:=(Rd.failed h1 10).kept (World.grownBy_alloc _ (.cells #[.slice none 0 0] 53) none) (Or.inl rfl)
 have hG:=zaf (zft w rb 10) (.cells #[.slice none 0 0] 53)
 go_enter Tryz.func90,Tryz.ntmps90
 go_wp2_with fail
 refine (zkz _ _ _ _ _ _ _ hn (h1.alloc _).c0 (h1.alloc _).c1 ((h1.alloc _).fz _) ((h1.alloc _).fz _)).mono ?_
 rintro e w' ⟨rfl,rfl⟩
 go_wp2
 go_ret
 exact ⟨rfl,hR,hG⟩
theorem zk0 {w w1:World} {rb:Nat} {ao:Option Addr} {c k:Nat} {l:List UInt8} {v:Value} (h1:RdAt w rb (.slice ao l.length c) 0) (h2:Bts w ao c l) (h3:Inb w ao rb) (hk:k≤l.length)
  (q1:w1.cell? ⟨w.heap.size,0,none⟩=some v) (q2:(w.alloc (.cells #[.slice none 0 0] 53)).grownBy w1 (some w.heap.size)) (q4:Bts w1 (some ⟨w.heap.size+1,0,none⟩) k (l.take k)) (q5:Typ w1 (w.heap.size+1)) :
  (w1.setCell ⟨rb,0,none⟩ (.slice (cutA ao c k) (l.length - k) (c - k))).cell? ⟨w.heap.size,0,none⟩=some v ∧
  Rd (w1.setCell ⟨rb,0,none⟩ (.slice (cutA ao c k) (l.length - k) (c - k))) rb (l.drop k) 0 ∧
  w.grownBy (w1.setCell ⟨rb,0,none⟩ (.slice (cutA ao c k) (l.length - k) (c - k))) (some rb) ∧
  NewB w (w1.setCell ⟨rb,0,none⟩ (.slice (cutA ao c k) (l.length - k) (c - k))) (.slice (some ⟨w.heap.size+1,0,none⟩) k k) (l.take k):=by
 have hlt:=h1.lt
 have g1:w.grownBy w1 none:=zae (World.grownBy_alloc w _ none) q2 (fun x e=>by cases e;exact Or.inl (Nat.le_refl _))
 have g2:=zbs w1 rb 0 (.slice (cutA ao c k) (l.length - k) (c - k))
 refine ⟨?_,Rd.read (h1.kept g1 (by simp)) (h2.kept g1 (fun _ e=>by cases e)) (h3.kept g1 (fun _ e=>by cases e)) hk,zae (zav _ g1) g2 (fun x e=>Or.inr e),⟨some ⟨w.heap.size+1,0,none⟩,k,?_,q4.kept g2 ?_,?_⟩⟩
 ·exact g2.cell q1 (by simp;omega)
 ·rw[List.length_take,Nat.min_eq_left hk]
 ·intro x e;cases e;intro ad e;cases e;simp;omega
 ·intro ad e;cases e;exact ⟨by simp,q5.kept g2 (by simp;omega)⟩
set_option maxHeartbeats 400000 in
theorem zrd (w:World) (rb:Nat) (l:List UInt8) (n:Int) (k:Nat) (hk:max n 0=(k:Int)) (hkl:k≤l.length) (hkb:k≤70368744177664) (h:Rd w rb l 0) :
  Calls Tryz.prog 90 #[.pointer (some ⟨rb,0,none⟩),.int .i64 n] w fun e w'=>∃ v,e = .returned v∧NewB w w' v (l.take k)∧Rd w' rb (l.drop k) 0∧w.grownBy w' (some rb):=by
 obtain ⟨ao,c,h1,h2,h3⟩:=h
 have hlt:=h1.lt
 have h1a:=h1.alloc (.cells #[.slice none 0 0] 53)
 have h2a:Bts (w.alloc (.cells #[.slice none 0 0] 53)) ao c (l.take k):=(h2.take k hkl).kept (World.grownBy_alloc w _ none) (fun _ e=>by cases e)
 have hc1:=zpq _ ao c (l.take k) w.heap.size (.slice none 0 0) h2a (by simp;omega) (by simp) (by simp)
 rw[List.length_take,Nat.min_eq_left hkl] at hc1
 have hnx:=zi0 (w.alloc (.cells #[.slice none 0 0] 53)) rb ao c l.length k w.heap.size (fun w1=>w1.cell? ⟨w.heap.size,0,none⟩=some (.slice (some ⟨w.heap.size+1,0,none⟩) k k)∧(w.alloc (.cells #[.slice none 0 0] 53)).grownBy w1 (some w.heap.size) ∧
   Bts w1 (some ⟨w.heap.size+1,0,none⟩) k (l.take k)∧Typ w1 (w.heap.size+1)) hkl h2.fits h1a.c0 h1a.c1 (by
  refine hc1.mono ?_
  rintro e w1 ⟨rfl,q1,q4,q2,q5⟩
  have h1b:=h1a.kept q2 (by simp;omega)
  simp only[World.size_alloc] at q1 q4 q5
  exact ⟨rfl,h1b.c0,h1b.fz _,q1,q2,q4,q5⟩)
 clear hc1 h2a h1a
 by_cases hn:0≤n
 ·have hnk:n=(k:Int):=by omega
  subst hnk
  clear hk
  go_enter Tryz.func90,Tryz.ntmps90
  go_wp2_with fail
  refine hnx.mono ?_
  rintro e w2 ⟨rfl,w1,⟨q1,q2,q4,q5⟩,rfl⟩
  obtain ⟨p1,p2,p3,p4⟩:=zk0 h1 h2 h3 hkl q1 q2 q4 q5
  clear hnx h1 h2 h3 q1 q2 q4 q5
  go_wp2
  go_ret
  exact ⟨_,rfl,p4,p2,p3⟩
 ·have hnk:k=0:=by omega
  subst hnk
  clear hk
  go_enter Tryz.func90,Tryz.ntmps90
  go_wp2_with fail
  refine hnx.mono ?_
  rintro e w2 ⟨rfl,w1,⟨q1,q2,q4,q5⟩,rfl⟩
  obtain ⟨p1,p2,p3,p4⟩:=zk0 h1 h2 h3 hkl q1 q2 q4 q5
  simp only[Nat.sub_zero] at p1 p2 p3 p4
  clear hnx h1 h2 h3 q1 q2 q4 q5
  go_wp2
  go_ret
  exact ⟨_,rfl,p4,p2,p3⟩
theorem zf7 (w:World) (rb:Nat) (l:List UInt8) (k n:Int) (h:Rd w rb l k) :
  Calls Tryz.prog 91 #[.pointer (some ⟨rb,0,none⟩),.int .i64 n] w fun e w'=>e = .returned (.int .u64 ((numS l k n).1:Int))∧Rd w' rb (numS l k n).2.1 (numS l k n).2.2∧w.grownBy w' (some rb):=by
 by_cases hk:k=0
 ·subst hk
  by_cases hn:l.length<nb n
  ·have e1:numS l 0 n=(0,[],10):=by simp[numS,hn]
   rw[e1]
   exact zq9 w rb l n (by unfold nb at hn;omega) h
  ·have e1:numS l 0 n=(be (l.take (nb n)),l.drop (nb n),0):=by simp[numS,hn]
   rw[e1]
   exact zra w rb l n (nb n) (by unfold nb;omega) (by omega) h
 ·have e1:numS l k n=(0,l,k):=by simp[numS,hk]
  rw[e1]
  refine (zq8 w rb l k n (by simpa using hk) h).mono ?_
  rintro e w' ⟨rfl,h1,h2⟩
  exact ⟨rfl,h1,zav _ h2⟩
theorem zqp (w:World) (rb:Nat) (l:List UInt8) (k n:Int) (hl:l.length≤70368744177664) (h:Rd w rb l k) :
  Calls Tryz.prog 90 #[.pointer (some ⟨rb,0,none⟩),.int .i64 n] w fun e w'=>∃ v,e = .returned v∧NewB w w' v (rawS l k n).1∧Rd w' rb (rawS l k n).2.1 (rawS l k n).2.2∧w.grownBy w' (some rb):=by
 by_cases hk:k=0
 ·subst hk
  by_cases hn:l.length<n.toNat
  ·have e1:rawS l 0 n=([],[],10):=by simp[rawS,hn]
   rw[e1]
   refine (zrc w rb l n (by omega) h).mono ?_
   rintro e w' ⟨rfl,h1,h2⟩
   exact ⟨_,rfl,NewB.nil _ _,h1,h2⟩
  ·have e1:rawS l 0 n=(l.take n.toNat,l.drop n.toNat,0):=by simp[rawS,hn]
   rw[e1]
   exact zrd w rb l n n.toNat (by omega) (by omega) (by omega) h
 ·have e1:rawS l k n=([],l,k):=by simp[rawS,hk]
  rw[e1]
  refine (zrb w rb l k n (by simpa using hk) h).mono ?_
  rintro e w' ⟨rfl,h1,h2⟩
  exact ⟨_,rfl,NewB.nil _ _,h1,zav _ h2⟩
theorem NewB.later {w0 w w' : World} {v:Value} {x:List UInt8} (h:NewB w w' v x) (hs:w0.heap.size≤w.heap.size):NewB w0 w' v x:=by
 obtain ⟨ao,c,h1,h2,h3⟩:=h
 exact ⟨ao,c,h1,h2,fun ad e=>⟨Nat.le_trans hs (h3 ad e).1,(h3 ad e).2⟩⟩
set_option maxHeartbeats 400000 in
theorem zhu (w:World) (rb:Nat) (l:List UInt8) (k:Int) (v:Nat) (l1:List UInt8) (k1:Int) (hn:numS l k 4=(v,l1,k1)) (hv:v≤65536) (hl:l1.length≤70368744177664) (h:Rd w rb l k) :
  Calls Tryz.prog 92 #[.pointer (some ⟨rb,0,none⟩)] w fun e w'=>∃ v',e = .returned v'∧NewB w w' v' (rawS l1 k1 v).1∧Rd w' rb (rawS l1 k1 v).2.1 (rawS l1 k1 v).2.2∧w.grownBy w' (some rb):=by
 have h1:=zf7 w rb l k 4 h
 rw[hn] at h1
 clear hn
 simp only at h1
 go_enter Tryz.func92,Tryz.ntmps92
 go_wp2_with fail
 refine h1.mono ?_
 rintro e w1 ⟨rfl,r1,g1⟩
 clear h1
 go_wp2_with fail
 refine (zqp _ _ _ _ _ hl r1).mono ?_
 rintro e w2 ⟨u,rfl,b2,r2,g2⟩
 go_wp2
 go_ret
 exact ⟨_,rfl,b2.later g1.size,r2,zae g1 g2 (fun x e=>Or.inr e)⟩
set_option maxHeartbeats 400000 in
theorem znj (w:World) (rb:Nat) (l:List UInt8) (v:Nat) (l1:List UInt8) (hn:numS l 0 4=(v,l1,0)) (hv:65536<v) (h:Rd w rb l 0) :
  Calls Tryz.prog 92 #[.pointer (some ⟨rb,0,none⟩)] w fun e w'=>e = .returned (.slice none 0 0)∧Rd w' rb [] 3∧w.grownBy w' (some rb):=by
 have h1:=zf7 w rb l 0 4 h
 rw[hn] at h1
 clear hn
 simp only at h1
 go_enter Tryz.func92,Tryz.ntmps92
 go_wp2_with fail
 refine h1.mono ?_
 rintro e w1 ⟨rfl,⟨ao,c,r1,r2,r3⟩,g1⟩
 clear h1
 go_wp2_with fail
 refine (zkx _ _ _ _ r1.c1 r1.c0 (r1.fz _) (r1.fz _)).mono ?_
 rintro e w2 ⟨rfl,rfl⟩
 have p1:=Rd.failed r1 3
 have p2:=zae g1 (zft w1 rb 3) (fun x e=>Or.inr e)
 clear r1 r2 r3 g1
 go_wp2
 go_ret
 exact ⟨rfl,p1,p2⟩
theorem zk1 (w:World) (rb:Nat) (l:List UInt8) (k:Int) (hl:l.length≤70368744177664) (h:Rd w rb l k) :
  Calls Tryz.prog 92 #[.pointer (some ⟨rb,0,none⟩)] w fun e w'=>∃ v,e = .returned v∧NewB w w' v (zba l k).1∧Rd w' rb (zba l k).2.1 (zba l k).2.2∧w.grownBy w' (some rb):=by
 have hnb:nb 4=4:=by decide
 by_cases hk:k=0
 ·subst hk
  by_cases h4:l.length<4
  ·have e1:numS l 0 4=(0,[],10):=by simp[numS,hnb,h4]
   have e2:zba l 0=rawS [] 10 ((0:Nat):Int):=by simp[zba,rawS,h4]
   rw[e2]
   exact zhu w rb l 0 0 [] 10 e1 (by omega) (by simp) h
  ·have e1:numS l 0 4=(be (l.take 4),l.drop 4,0):=by simp[numS,hnb,h4]
   by_cases hb:65536<be (l.take 4)
   ·have e2:zba l 0=([],[],3):=by simp[zba,h4,hb]
    rw[e2]
    refine (znj w rb l _ _ e1 hb h).mono ?_
    rintro e w' ⟨rfl,h1,h2⟩
    exact ⟨_,rfl,NewB.nil _ _,h1,h2⟩
   ·have e2:zba l 0=rawS (l.drop 4) 0 ((be (l.take 4):Nat):Int):=by
     by_cases hr:l.length<4+be (l.take 4)
     ·simp only[zba,rawS,Int.toNat_natCast,List.length_drop,if_true,if_neg h4,if_neg hb,if_pos hr]
      rw[if_pos (by omega)]
     ·simp only[zba,rawS,Int.toNat_natCast,List.length_drop,if_true,if_neg h4,if_neg hb,if_neg hr]
      rw[if_neg (by omega)]
    rw[e2]
    exact zhu w rb l 0 _ _ 0 e1 (by omega) (by simp;omega) h
 ·have e1:numS l k 4=(0,l,k):=by simp[numS,hk]
  have e2:zba l k=rawS l k ((0:Nat):Int):=by simp[zba,rawS,hk]
  rw[e2]
  exact zhu w rb l k 0 l k e1 (by omega) hl h
def doneS (l:List UInt8) (e:Int):Int:=if e=0 then (if l=[] then 0 else 11) else e
def lb (v n:Nat):List UInt8:=(List.range n).map fun i=>UInt8.ofNat (v / 256 ^ (n - 1 - i))
theorem zb6 (v n:Nat):(lb v n).length=n:=by simp[lb]
theorem zsj (v n k:Nat) (h:k<(lb v n).length):Value.int .u8 ((v:Int) / 2 ^ (8*(n - 1 - k)) % 256)=bv (lb v n)[k]:=by
 have e:(lb v n)[k]=UInt8.ofNat (v / 256 ^ (n - 1 - k)):=by simp[lb]
 unfold bv
 rw[e,UInt8.toNat_ofNat']
 congr 1
 rw[show (256:Nat)=2 ^ 8 from rfl,← Nat.pow_mul]
 rfl
set_option maxHeartbeats 400000 in
theorem znk (w:World) (base:Nat) (own:Value) (xs:List UInt8) (v n:Nat) (hn:n≤8) (hown:w.ownsRow base 5 1 own xs.length (xs.map bv)) (hbase:base≤w.heap.size) (hlen:xs.length+8≤70368744177664) :
  Calls Tryz.prog 97 #[own,.int .u64 v,.int .i64 n] w fun e w'=>∃ v',e = .returned v'∧w'.ownsRow base 5 1 v' (xs++lb v n).length ((xs++lb v n).map bv)∧Below base w w':=by
 obtain ⟨i0,hi,hz0,hz1,hz2⟩:=info_parts zb5
 go_enter Tryz.func97,Tryz.ntmps97
 go_wp2
 go_loopw [0,9] (fun o i wr=>∃ k:Nat,k≤n∧i = .int .i64 k∧wr.ownsRow base 5 1 o (xs++(lb v n).take k).length ((xs++(lb v n).take k).map bv)∧Below base w wr) (fun _ i _=>n - (intOf i).toNat)
 case atStart=>exact ⟨0,Nat.zero_le _,rfl,by simpa using hown,Below.refl _ _⟩
 case round =>
  obtain ⟨k,hk,rfl,ho,hb⟩:=hrel
  by_cases hlt:k<n
  ·have hsz:=hb.size
   have hll:(xs++(lb v n).take k).length=xs.length+k:=by simp[zb6];omega
   obtain ⟨ys,hys⟩:∃ ys,ys=xs++(lb v n).take k:=⟨_,rfl⟩
   rw[← hys] at ho hll
   obtain ⟨HL,HY⟩:=zh2 hll hys
   clear hll hown hys
   go_wp2_with (at_builtin;refine wpList_append_own _ rfl _ _ 53 rfl base 5 i0 (.int .u8 0) 1 1 Tryz.underlying53 hi hz0 hz1 hz2 rfl (by decide) _ _ _ rfl (ho.alloc _) ⟨wr.heap.size,0,none⟩ 1 1 [.int .u8 ((v:Int) / 2 ^ (8*(n - 1 - k)) % 256)] rfl rfl ?c1 ?c2 ?c3 ?c4 ?c5 ?_)
   case c1 =>
    intro t x ht
    match t,ht with
    | 0,ht=>simp at ht;subst ht;simp[Addr.add]
   case c2=>intro x hx;simp at hx;subst hx;rfl
   case c3=>have:=uh HL;unfold maxLen;omega
   case c4=>have:=uh HL;omega
   case c5=>simp;omega
   intro v' w3 hown3 hg3 _
   have hb3:Below base w w3:=((hb.alloc (by omega) _).grown hg3 (by simp;omega) (fun x e=>(ho.lt x e).1))
   have hk2:k<(lb v n).length:=by rw[zb6];exact hlt
   have hy2:xs++(lb v n).take (k+1)=ys++[(lb v n)[k]]:=by rw[uh HY,zfs hk2];simp
   rw[zsj v n k hk2] at hown3
   have hown4:w3.ownsRow base 5 1 v' (xs++(lb v n).take (k+1)).length ((xs++(lb v n).take (k+1)).map bv):=by
    rw[hy2,List.map_append,List.length_append]
    exact hown3
   clear hown3
   clear hb ho hg3 hy2
   go_wp2
   go_roundw
   case rel=>exact ⟨k+1,by omega,by go_num,hown4,hb3⟩
   case measure=>simp[intOf];omega
  ·go_wp2
   go_ret
   have hkn:(lb v n).take k=lb v n:=List.take_of_length_le (by rw[zb6];omega)
   rw[hkn] at ho
   exact ⟨_,rfl,ho,hb⟩
set_option maxHeartbeats 400000 in
theorem zjs (w:World) (base:Nat) (own:Value) (xs:List UInt8) (ao:Option Addr) (c:Nat) (x:List UInt8) (hown:w.ownsRow base 5 1 own xs.length (xs.map bv)) (hbase:base≤w.heap.size)
  (hx:∀ a,Below base w a→Bts a ao c x) (hlen:xs.length+8+x.length≤70368744177664) :
  Calls Tryz.prog 114 #[own,.slice ao x.length c] w fun e w'=>∃ v',e = .returned v'∧w'.ownsRow base 5 1 v' (xs++lb x.length 4++x).length ((xs++lb x.length 4++x).map bv)∧Below base w w':=by
 obtain ⟨i0,hi,hz0,hz1,hz2⟩:=info_parts zb5
 have h1:=znk w base own xs x.length 4 (by omega) hown hbase (by omega)
 obtain ⟨ys,hys⟩:∃ ys,ys=xs++lb x.length 4:=⟨_,rfl⟩
 rw[← hys] at h1 ⊢
 have hyl:ys.length=xs.length+4:=by rw[hys];simp[zb6]
 have HL:=hide hyl
 clear hyl hys
 go_enter Tryz.func114,Tryz.ntmps114
 go_wp2_with fail
 refine h1.mono ?_
 rintro e w1 ⟨v1,rfl,ho1,hb1⟩
 clear h1 hown
 have hx1:=hx w1 hb1
 have hsz:=hb1.size
 cases ao with
 | none =>
   have hz:=hx1.zip rfl
   have hx0:x=[]:=List.eq_nil_of_length_eq_zero hz.1
   have hc0:=hz.2
   subst hx0 hc0
   clear hz
   go_wp2_with (at_builtin;refine wpList_append_own_none rfl _ _ 53 rfl base 5 i0 1 Tryz.underlying53 hi _ _ _ rfl ho1 rfl ?_)
   go_ret
   exact ⟨_,rfl,by simpa using ho1,hb1⟩
 | some ad =>
   go_wp2_with (at_builtin;refine wpList_append_own _ rfl _ _ 53 rfl base 5 i0 (.int .u8 0) 1 1 Tryz.underlying53 hi hz0 hz1 hz2 rfl (by decide) _ _ _ rfl ho1 ad x.length c (x.map bv) rfl ?c0 (hx1.news ad rfl) (zch x) ?c3 ?c4 ?c5 ?_)
   case c0=>simp
   case c3=>have:=uh HL;unfold maxLen;omega
   case c4=>have:=uh HL;omega
   case c5=>omega
   intro v2 w2 ho2 hg2 _
   have hb2:Below base w w2:=hb1.grown hg2 (by omega) (fun x e=>(ho1.lt x e).1)
   rw[← List.map_append,← List.length_append] at ho2
   clear hx hx1 ho1 hg2 hb1
   go_wp2
   go_ret
   exact ⟨_,rfl,ho2,hb2⟩
def layS (x:List UInt8):List UInt8:=lb x.length 4++x
def layL (L:List (List UInt8)):List UInt8:=lb L.length 2++L.flatMap layS
set_option maxHeartbeats 400000 in
theorem zhv (w:World) (ao:Option Addr) (c:Nat) (l:List UInt8) (v:Nat) (n:Int) (hb:Bts w ao c l) (hl:l.length+16≤70368744177664) :
  Calls Tryz.prog 78 #[.slice ao l.length c,.int .u64 v,.int .i64 n] w fun e w'=>∃ v',e = .returned v'∧w'.ownsRow w.heap.size 5 1 v' (l++lb v (nb n)).length ((l++lb v (nb n)).map bv)∧w.grownBy w' none:=by
 have hn8:nb n≤8:=by unfold nb;omega
 have H:Hid (min (max n 0) 8=((nb n:Nat):Int)):=by unfold nb Hid;omega
 generalize nb n=k at *
 go_enter Tryz.func78,Tryz.ntmps78
 go_wp2_with fail
 refine (zfq _ _).mono ?_
 rintro e w' ⟨rfl,rfl⟩
 rw[H.out]
 go_wp2_with fail
 refine (zfu _ _ _ _ k hb (by omega)).mono ?_
 rintro e w1 ⟨rfl,h1,h2⟩
 have hsz:=h2.size
 clear hb H
 go_wp2_with fail
 refine (znk _ _ _ l v k hn8 h1 hsz (by omega)).mono ?_
 rintro e w2 ⟨v2,rfl,h3,h4⟩
 clear h1
 go_wp2
 go_ret
 exact ⟨_,rfl,h3,zdq ((zdp h2).trans h4)⟩
theorem zre (w:World) (ao:Option Addr) (c:Nat) (l:List UInt8) (v:Nat) (n:Int) (hb:Bts w ao c l) (hl:l.length+16≤70368744177664) :
  Calls Tryz.prog 78 #[.slice ao l.length c,.int .u64 v,.int .i64 n] w fun e w'=>∃ v',e = .returned v'∧NewB w w' v' (l++lb v (nb n))∧w.grownBy w' none :=
 (zhv w ao c l v n hb hl).mono fun _ _ ⟨v',e,h,g⟩=>⟨v',e,NewB.own h,g⟩
set_option maxHeartbeats 400000 in
theorem zlv (w:World) (ao bo:Option Addr) (c d:Nat) (l x:List UInt8) (hb:Bts w ao c l) (hx:Bts w bo d x) (hl:l.length+16+x.length≤70368744177664) :
  Calls Tryz.prog 99 #[.slice ao l.length c,.slice bo x.length d] w fun e w'=>∃ v',e = .returned v'∧w'.ownsRow w.heap.size 5 1 v' (l++layS x).length ((l++layS x).map bv)∧w.grownBy w' none:=by
 go_enter Tryz.func99,Tryz.ntmps99
 go_wp2_with fail
 rw[show (4:Int)+(x.length:Int)=((4+x.length:Nat):Int) from by omega]
 refine (zfu _ _ _ _ (4+x.length) hb (by omega)).mono ?_
 rintro e w1 ⟨rfl,h1,h2⟩
 have hsz:=h2.size
 have hx1:∀ a,Below w.heap.size w1 a→Bts a bo d x:=fun a ha=>hx.below ((zdp h2).trans ha)
 clear hb hx
 go_wp2_with fail
 refine (zjs _ _ _ l bo d x h1 hsz hx1 (by omega)).mono ?_
 rintro e w2 ⟨v2,rfl,h3,h4⟩
 clear h1 hx1
 go_wp2
 go_ret
 exact ⟨_,rfl,(by unfold layS;rw[← List.append_assoc];exact h3),zdq ((zdp h2).trans h4)⟩
theorem zdt (w:World) (ao bo:Option Addr) (c d:Nat) (l x:List UInt8) (hb:Bts w ao c l) (hx:Bts w bo d x) (hl:l.length+16+x.length≤70368744177664) :
  Calls Tryz.prog 99 #[.slice ao l.length c,.slice bo x.length d] w fun e w'=>∃ v',e = .returned v'∧NewB w w' v' (l++layS x)∧w.grownBy w' none :=
 (zlv w ao bo c d l x hb hx hl).mono fun _ _ ⟨v',e,h,g⟩=>⟨v',e,NewB.own h,g⟩
theorem zpr (M:Nat) (hM:M<4611686018427387904) (a:Int):∃ j:Nat,j≤M∧bits .and .i64 a (M:Int)=(j:Int):=by
 have hm:(BitVec.ofInt 64 (M:Int)).toNat=M:=by rw[BitVec.toNat_ofInt];omega
 have h:(BitVec.ofInt 64 a &&& BitVec.ofInt 64 (M:Int)).toNat≤M:=by
  rw[BitVec.toNat_and,hm]
  exact Nat.and_le_right
 refine ⟨(BitVec.ofInt 64 a &&& BitVec.ofInt 64 (M:Int)).toNat,h,?_⟩
 show IntKind.i64.wrap (((BitVec.ofInt 64 a &&& BitVec.ofInt 64 (M:Int)).toNat:Nat):Int)=_
 rw[IntKind.wrap_i64]
 omega
end Go.Proofs.YtoilcpdhhlcidaaGreatDoor
