/- Lemmas. -/
import Derived.WalkKit
import Derived.WalkSpells
import Derived.WalkLawsBesides
import Derived.LaidEql
import Derived.Stop.Asserts
import Derived.RowKitTokens
import Derived.Test.YtoilcpdhhlcidaaGreatDoorDFrs
namespace Go.Proofs.YtoilcpdhhlcidaaGreatDoor
open Go.RowKit Go.Extern
theorem zc2 {P:Program} (w:World) (d:Nat) {ti tn:TypeId} {ms:Array (String × TypeId)} {i:TypeInfo} {k:IntKind} (a b:Int)
  (hi:P.underlying ti=some (.interface ms)) (hn:P.underlying tn=some (.int k)) (hinfo:P.info? tn=some i) (hcomp:i.comparable=true) :
  (Op.equalIn (d+2) ti (.iface tn (.int k a)) (.iface tn (.int k b))).run P w = .ok (a == b) w:=by
 simp[Op.equalIn,run_underlying hi,run_underlying hn,typeInfo,hinfo,hcomp]
theorem zcb {P:Program} (w:World) {ti tn:TypeId} {ms:Array (String × TypeId)} {i:TypeInfo} {k:IntKind} (a b:Int)
  (hi:P.underlying ti=some (.interface ms)) (hn:P.underlying tn=some (.int k)) (hinfo:P.info? tn=some i) (hcomp:i.comparable=true) :
  (binOp .eql ti (.iface tn (.int k a)) (.iface tn (.int k b))).run P w = .ok (.bool (a == b)) w:=by
 simp only[binOp]
 simp[Op.equal,Op.maxDepth,zc2 w 9998 a b hi hn hinfo hcomp]
theorem zj5 (v:Value) (w:World):(Extern.ReflectliteType.typeOf #[.iface 24 v]).run Tryz.prog w = .ok (.iface 206 (.agg #[.pointer (some ⟨2,24,none⟩)])) w:=by kernel_rfl
def zhb (t:TypeId):Sem Value:=do Extern.Rtype.noPackHeld "Comparable" t;pure (.bool (← typeInfo t).comparable)
theorem zes (w:World):((Extern.ReflectliteType.method zhb) #[.agg #[.pointer (some ⟨2,24,none⟩)]]).run Tryz.prog w = .ok (.bool true) w:=by kernel_rfl
theorem zbz (v:Value) (w:World):(Go.method 347 206 v "Comparable").run Tryz.prog w = .ok (166,v) w:=by kernel_rfl
theorem zpc:(Tryz.prog.info? 24).map (·.comparable)=some true:=by kernel_rfl
theorem zqy (v:Value) (xT:TypeId) (w:World):(Instr.typeAssert (.iface 24 v) xT 208 true).run Tryz.prog w = .ok (.tuple #[.nilIface,.bool false]) w:=run_typeAssert_lacksB Tryz.underlying208 (by kernel_rfl) (by kernel_rfl) v xT w
theorem zmf (v:Value) (xT:TypeId) (w:World):(Instr.typeAssert (.iface 24 v) xT 211 true).run Tryz.prog w = .ok (.tuple #[.nilIface,.bool false]) w:=run_typeAssert_lacksB Tryz.underlying211 (by kernel_rfl) (by kernel_rfl) v xT w
theorem zkz (v:Value) (xT:TypeId) (w:World):(Instr.typeAssert (.iface 24 v) xT 213 true).run Tryz.prog w = .ok (.tuple #[.nilIface,.bool false]) w:=run_typeAssert_lacksB Tryz.underlying213 (by kernel_rfl) (by kernel_rfl) v xT w
theorem zpt (a:Int) (w:World) :
  Calls Tryz.prog 138 #[.iface 24 (.int .i64 a),.iface 24 (.int .i64 a)] w fun e w'=>e = .returned (.bool true)∧w'=w:=by
 obtain ⟨i,hi,hcmp⟩:=Option.map_eq_some_iff.1 zpc
 have h8 := @run_callFunc_extern Tryz.prog 143 _ Extern.ReflectliteType.typeOf Tryz.func143 (by kernel_rfl) (by kernel_rfl) (by kernel_rfl) (by kernel_rfl)
 have h32 := @run_callFunc_extern Tryz.prog 166 _ (Extern.ReflectliteType.method zhb) Tryz.func166 (by kernel_rfl) (by kernel_rfl) (by kernel_rfl) (by kernel_rfl)
 have tT:=zj5
 have cT:=zes
 have mR:=zbz
 have heq:=zcb (P:=Tryz.prog) w a a Tryz.underlying200 Tryz.underlying24 hi hcmp
 simp only[beq_self_eq_true] at heq
 go_enter Tryz.func138,Tryz.ntmps138
 go_wp2
 refine wp_loop_rounds 1 ?_
 rw[rounds_succ]
 go_wp2
 go_ret
 exact ⟨rfl,rfl⟩
theorem zog (a b:Int) (hab:(a == b)=false) (w:World) :
  Calls Tryz.prog 138 #[.iface 24 (.int .i64 a),.iface 24 (.int .i64 b)] w fun e w'=>e = .returned (.bool false)∧w'=w:=by
 obtain ⟨i,hi,hcmp⟩:=Option.map_eq_some_iff.1 zpc
 have h8 := @run_callFunc_extern Tryz.prog 143 _ Extern.ReflectliteType.typeOf Tryz.func143 (by kernel_rfl) (by kernel_rfl) (by kernel_rfl) (by kernel_rfl)
 have h32 := @run_callFunc_extern Tryz.prog 166 _ (Extern.ReflectliteType.method zhb) Tryz.func166 (by kernel_rfl) (by kernel_rfl) (by kernel_rfl) (by kernel_rfl)
 have tT:=zj5
 have cT:=zes
 have mR:=zbz
 have nE:=zqy
 have uE:=zmf
 have vE:=zkz
 have heq:=zcb (P:=Tryz.prog) w a b Tryz.underlying200 Tryz.underlying24 hi hcmp
 rw[hab] at heq
 go_enter Tryz.func138,Tryz.ntmps138
 go_wp2
 refine wp_loop_rounds 1 ?_
 rw[rounds_succ]
 go_wp2
 go_ret
 exact ⟨rfl,rfl⟩
end Go.Proofs.YtoilcpdhhlcidaaGreatDoor

/- Lemmas. -/
namespace Go.Proofs.YtoilcpdhhlcidaaGreatDoor
open Go.RowKit
theorem zj6 (w:World) (rb:Nat) (e:Int) (h:w.cell? ⟨rb,1,none⟩=some (.int .i64 e)) :
  Calls Tryz.prog 139 #[.pointer (some ⟨rb,0,none⟩)] w fun x w'=>x = .returned (.int .i64 e)∧w'=w:=by
 go_enter Tryz.func139,Tryz.ntmps139
 go_wp2
 go_ret
 exact ⟨rfl,rfl⟩
theorem ze7 (w:World) (rb:Nat) (h:w.cell? ⟨rb,1,none⟩=some (.int .i64 0)) :
  Calls Tryz.prog 126 #[.pointer (some ⟨rb,0,none⟩),.int .i64 0] w fun e w'=>e = .returned (.bool true)∧w'=w:=by
 go_enter Tryz.func126,Tryz.ntmps126
 go_wp2_with fail
 refine (zj6 _ _ _ h).mono ?_
 rintro e w' ⟨rfl,rfl⟩
 go_wp2_with fail
 refine (zpt _ _).mono ?_
 rintro e w' ⟨rfl,rfl⟩
 go_wp2
 go_ret
 exact ⟨rfl,rfl⟩
theorem zpu (w:World) (rb:Nat) (k:Int) (hk:(k == 0)=false) (h:w.cell? ⟨rb,1,none⟩=some (.int .i64 k)) :
  Calls Tryz.prog 126 #[.pointer (some ⟨rb,0,none⟩),.int .i64 0] w fun e w'=>e = .returned (.bool false)∧w'=w:=by
 go_enter Tryz.func126,Tryz.ntmps126
 go_wp2_with fail
 refine (zj6 _ _ _ h).mono ?_
 rintro e w' ⟨rfl,rfl⟩
 go_wp2_with fail
 refine (zog _ _ hk _).mono ?_
 rintro e w' ⟨rfl,rfl⟩
 go_wp2
 go_ret
 exact ⟨rfl,rfl⟩
theorem zj7 (w:World) (rb:Nat) (v:Value) (k:Int) (h:w.cell? ⟨rb,1,none⟩=some (.int .i64 0)) (h0:w.cell? ⟨rb,0,none⟩=some v)
  (f0:w.frozen? ⟨rb,0,none⟩=false) (f1:w.frozen? ⟨rb,1,none⟩=false) :
  Calls Tryz.prog 109 #[.pointer (some ⟨rb,0,none⟩),.int .i64 k] w fun e w'=>e = .returned (.tuple #[]) ∧
   w'=(w.setCell ⟨rb,1,none⟩ (.int .i64 k)).setCell ⟨rb,0,none⟩ (.slice none 0 0):=by
 go_enter Tryz.func109,Tryz.ntmps109
 go_wp2_with fail
 refine (ze7 _ _ h).mono ?_
 rintro e w' ⟨rfl,rfl⟩
 go_wp2
 go_end0
 exact ⟨rfl,rfl⟩
theorem zpv {k:IntKind} {a b:Int} (h:a=b):Ending.returned (.int k a) = .returned (.int k b):=by rw[h]
theorem ze8 (n:Int) (w:World):Calls Tryz.prog 96 #[.int .i64 n] w fun e w'=>e = .returned (.int .i64 (min (max n 0) 8))∧w'=w:=by
 go_enter Tryz.func96,Tryz.ntmps96
 go_wp2
 all_goals (go_ret;exact ⟨zpv (by omega),rfl⟩)
def nb (n:Int):Nat:=(min (max n 0) 8).toNat
def numS (l:List UInt8) (e n:Int):Nat × List UInt8 × Int:=if e=0 then (if l.length<nb n then (0,[],10) else (be (l.take (nb n)),l.drop (nb n),0)) else (0,l,e)
def rawS (l:List UInt8) (e n:Int):List UInt8 × List UInt8 × Int:=if e=0 then (if l.length<n.toNat then ([],[],10) else (l.take n.toNat,l.drop n.toNat,0)) else ([],l,e)
def za3 (l:List UInt8) (e:Int):List UInt8 × List UInt8 × Int :=
 if e=0 then (if l.length<4 then ([],[],10) else if 65536<be (l.take 4) then ([],[],3) else if l.length<4+be (l.take 4) then ([],[],10) else ((l.drop 4).take (be (l.take 4)),(l.drop 4).drop (be (l.take 4)),0)) else ([],l,e)
theorem zk0 (l:List UInt8) (k:Nat) (hk:k<8):be (l.take k)<72057594037927936:=by
 have h1:=zql (l.take k)
 have h2:256 ^ (l.take k).length≤256 ^ 7:=Nat.pow_le_pow_right (by omega) (by simp;omega)
 omega
theorem or8 (a x:Nat) (ha:a<72057594037927936) (hx:x<256):bits .or .u64 (IntKind.u64.wrap ((a:Int)*256)) (x:Int)=((a*256+x:Nat):Int):=by
 have h1:IntKind.u64.wrap ((a:Int)*256)=((a*256:Nat):Int):=by
  unfold IntKind.wrap
  simp[IntKind.bits,IntKind.signed]
  omega
 rw[h1,u64_or_nat _ _ (by omega) (by omega)]
 have h2:=Nat.shiftLeft_add_eq_or_of_lt (b:=x) (i:=8) (by omega) a
 rw[Nat.shiftLeft_eq,show (2:Nat) ^ 8=256 from rfl] at h2
 rw[← h2]
set_option maxHeartbeats 400000 in
theorem zoh (w:World) (ao:Option Addr) (c:Nat) (l:List UInt8) (vb:Nat) (hb:Bts w ao c l) (hl:l.length≤8) (ho:Off ao vb) (hv:w.cell? ⟨vb,0,none⟩=some (.int .u64 0)) (hf:w.frozen? ⟨vb,0,none⟩=false) :
  Calls Tryz.prog 108 #[.slice ao l.length c,.pointer (some ⟨vb,0,none⟩)] w fun e w'=>e = .returned (.tuple #[]) ∧
   w'.cell? ⟨vb,0,none⟩=some (.int .u64 (be l:Int))∧w.grownBy w' (some vb):=by
 go_enter Tryz.func108,Tryz.ntmps108
 go_wp2
 go_loopw [7] (fun i wr=>∃ k:Nat,k≤l.length∧i = .int .i64 k∧wr.cell? ⟨vb,0,none⟩=some (.int .u64 (be (l.take k):Int))∧wr.frozen? ⟨vb,0,none⟩=false∧w.grownBy wr (some vb)) (fun i _=>l.length - (intOf i).toNat)
 case atStart=>exact ⟨0,Nat.zero_le _,rfl,hv,hf,zaa _ _⟩
 case round =>
  obtain ⟨k,hk,rfl,hvr,hfr,hg⟩:=hrel
  by_cases hlt:k<l.length
  ·obtain ⟨ad,rfl⟩:∃ ad,ao=some ad:=by
    cases ao with
    | none=>have:=hb.zip rfl;omega
    | some ad=>exact ⟨ad,rfl⟩
   have hc:=(hb.kept hg (fun x e=>by cases e;exact ho)).cell ad rfl k hlt
   have hs:=hb.shape ad rfl (by omega)
   obtain ⟨b,o,s⟩:=ad
   simp only at hs hc
   subst hs
   have hx:=(l[k]).toNat_lt
   go_wp2
   go_roundw
   case rel =>
    refine ⟨k+1,by omega,by go_num,?_,?_,?_⟩
    ·rw[zfd hlt,zi4,← or8 _ _ (zk0 l k (by omega)) hx]
     exact World.cell?_setCell_same _ _ _ hvr
    ·simp[hfr]
    ·exact zah hg _ _ (Or.inr rfl)
   case measure=>simp[intOf];omega
  ·go_wp2
   go_end0
   have hkl:k=l.length:=by omega
   subst hkl
   rw[List.take_length] at hvr
   exact ⟨rfl,hvr,hg⟩
theorem zj8 (w:World) (rb:Nat) (e k:Int) (fv:Value) (he:(e == 0)=false) (h:w.cell? ⟨rb,1,none⟩=some (.int .i64 e)) :
  Calls Tryz.prog 106 #[.pointer (some ⟨rb,0,none⟩),.int .i64 k,fv] w fun e w'=>e = .returned (.tuple #[])∧w'=w:=by
 go_enter Tryz.func106,Tryz.ntmps106
 go_wp2_with fail
 refine (zpu _ _ _ he h).mono ?_
 rintro e w' ⟨rfl,rfl⟩
 go_wp2
 refine bodyPost_ret (results_none rfl _ _ _) rfl ?_
 exact ⟨rfl,rfl⟩
theorem zj9 (w:World) (rb:Nat) (ao:Option Addr) (n c:Nat) (k:Int) (fv:Value) (hk:(n:Int)<k) (h0:w.cell? ⟨rb,0,none⟩=some (.slice ao n c)) (h1:w.cell? ⟨rb,1,none⟩=some (.int .i64 0))
  (f0:w.frozen? ⟨rb,0,none⟩=false) (f1:w.frozen? ⟨rb,1,none⟩=false) :
  Calls Tryz.prog 106 #[.pointer (some ⟨rb,0,none⟩),.int .i64 k,fv] w fun e w'=>e = .returned (.tuple #[]) ∧
   w'=(w.setCell ⟨rb,1,none⟩ (.int .i64 10)).setCell ⟨rb,0,none⟩ (.slice none 0 0):=by
 go_enter Tryz.func106,Tryz.ntmps106
 go_wp2_with fail
 refine (ze7 _ _ h1).mono ?_
 rintro e w' ⟨rfl,rfl⟩
 go_wp2_with fail
 refine (zj7 _ _ _ _ h1 h0 f0 f1).mono ?_
 rintro e w' ⟨rfl,rfl⟩
 go_wp2
 refine bodyPost_ret (results_none rfl _ _ _) rfl ?_
 exact ⟨rfl,rfl⟩
set_option maxHeartbeats 400000 in
theorem zic (w:World) (rb:Nat) (ao:Option Addr) (c n k vb:Nat) (R:World→Prop) (hk:k≤n) (hn:n≤c) (h0:w.cell? ⟨rb,0,none⟩=some (.slice ao n c)) (h1:w.cell? ⟨rb,1,none⟩=some (.int .i64 0))
  (hf:Calls Tryz.prog 108 #[.slice ao k c,.pointer (some ⟨vb,0,none⟩)] w fun e w'=>e = .returned (.tuple #[])∧w'.cell? ⟨rb,0,none⟩=some (.slice ao n c)∧w'.frozen? ⟨rb,0,none⟩=false∧R w') :
  Calls Tryz.prog 106 #[.pointer (some ⟨rb,0,none⟩),.int .i64 k,.func (.func 108) #[] #[.pointer (some ⟨vb,0,none⟩)]] w fun e w'=>e = .returned (.tuple #[]) ∧
   ∃ w1,R w1∧w'=w1.setCell ⟨rb,0,none⟩ (.slice (cutA ao c k) (n - k) (c - k)):=by
 have s1:=fun W=>zjm (P:=Tryz.prog) W 53 5 Tryz.underlying53 zay ao n c k (by omega)
 have s2:=fun W=>zbk (P:=Tryz.prog) W 53 5 Tryz.underlying53 zay ao n c k (by omega)
 have H:=hf
 go_enter Tryz.func106,Tryz.ntmps106
 go_wp2_with fail
 refine (ze7 _ _ h1).mono ?_
 rintro e w' ⟨rfl,rfl⟩
 go_wp2_with fail
 refine H.mono ?_
 rintro e w1 ⟨rfl,hc1,hf1,hR⟩
 clear h0 h1
 go_wp2
 go_end0
 exact ⟨rfl,w1,hR,rfl⟩
theorem zpw (w:World) (rb:Nat) (l:List UInt8) (k n:Int) (hk:(k == 0)=false) (h:Rd w rb l k) :
  Calls Tryz.prog 91 #[.pointer (some ⟨rb,0,none⟩),.int .i64 n] w fun e w'=>e = .returned (.int .u64 0)∧Rd w' rb l k∧w.grownBy w' none:=by
 have hR:=h.kept (World.grownBy_alloc w (.cells #[.int .u64 0] 45) none) (Or.inl rfl)
 obtain ⟨ao,c,h1,h2,h3⟩:=h
 go_enter Tryz.func91,Tryz.ntmps91
 go_wp2_with fail
 refine (ze8 _ _).mono ?_
 rintro e w' ⟨rfl,rfl⟩
 go_wp2_with fail
 refine (zj8 _ _ _ _ _ hk (h1.alloc _).c1).mono ?_
 rintro e w' ⟨rfl,rfl⟩
 go_wp2
 go_ret
 exact ⟨rfl,hR,zad (zaa _ _) _⟩
theorem zpx (w:World) (rb:Nat) (l:List UInt8) (n:Int) (hn:(l.length:Int)<min (max n 0) 8) (h:Rd w rb l 0) :
  Calls Tryz.prog 91 #[.pointer (some ⟨rb,0,none⟩),.int .i64 n] w fun e w'=>e = .returned (.int .u64 0)∧Rd w' rb [] 10∧w.grownBy w' (some rb):=by
 obtain ⟨ao,c,h1,h2,h3⟩:=h
 have hlt:=h1.lt
 have hR:=(Rd.failed h1 10).kept (World.grownBy_alloc _ (.cells #[.int .u64 0] 45) none) (Or.inl rfl)
 have hG:=zad (zfe w rb 10) (.cells #[.int .u64 0] 45)
 go_enter Tryz.func91,Tryz.ntmps91
 go_wp2_with fail
 refine (ze8 _ _).mono ?_
 rintro e w' ⟨rfl,rfl⟩
 go_wp2_with fail
 refine (zj9 _ _ _ _ _ _ _ hn (h1.alloc _).c0 (h1.alloc _).c1 ((h1.alloc _).fz _) ((h1.alloc _).fz _)).mono ?_
 rintro e w' ⟨rfl,rfl⟩
 go_wp2
 go_ret
 exact ⟨rfl,hR,hG⟩
theorem zoi {w w1:World} {rb:Nat} {ao:Option Addr} {c k:Nat} {l:List UInt8} {x:Int} (h1:RdAt w rb (.slice ao l.length c) 0) (h2:Bts w ao c l) (h3:Inb w ao rb) (hk:k≤l.length)
  (q1:w1.cell? ⟨w.heap.size,0,none⟩=some (.int .u64 x)) (q2:(w.alloc (.cells #[.int .u64 0] 45)).grownBy w1 (some w.heap.size)) :
  (w1.setCell ⟨rb,0,none⟩ (.slice (cutA ao c k) (l.length - k) (c - k))).cell? ⟨w.heap.size,0,none⟩=some (.int .u64 x) ∧
  Rd (w1.setCell ⟨rb,0,none⟩ (.slice (cutA ao c k) (l.length - k) (c - k))) rb (l.drop k) 0 ∧
  w.grownBy (w1.setCell ⟨rb,0,none⟩ (.slice (cutA ao c k) (l.length - k) (c - k))) (some rb):=by
 have hlt:=h1.lt
 have g1:w.grownBy w1 none:=zae (World.grownBy_alloc w _ none) q2 (fun x e=>by cases e;exact Or.inl (Nat.le_refl _))
 have g2:=zbw w1 rb 0 (.slice (cutA ao c k) (l.length - k) (c - k))
 refine ⟨?_,Rd.read (h1.kept g1 (by simp)) (h2.kept g1 (fun _ e=>by cases e)) (h3.kept g1 (fun _ e=>by cases e)) hk,zae (zaq _ g1) g2 (fun x e=>Or.inr e)⟩
 exact g2.cell q1 (by simp;omega)
set_option maxHeartbeats 400000 in
theorem zpy (w:World) (rb:Nat) (l:List UInt8) (n:Int) (k:Nat) (hk:min (max n 0) 8=(k:Int)) (hkl:k≤l.length) (h:Rd w rb l 0) :
  Calls Tryz.prog 91 #[.pointer (some ⟨rb,0,none⟩),.int .i64 n] w fun e w'=>e = .returned (.int .u64 (be (l.take k):Int))∧Rd w' rb (l.drop k) 0∧w.grownBy w' (some rb):=by
 obtain ⟨ao,c,h1,h2,h3⟩:=h
 have hlt:=h1.lt
 have H:Hid (min (max n 0) 8=(k:Int)):=hk
 have h1a:=h1.alloc (.cells #[.int .u64 0] 45)
 have h2a:Bts (w.alloc (.cells #[.int .u64 0] 45)) ao c (l.take k):=(h2.take k hkl).kept (World.grownBy_alloc w _ none) (fun _ e=>by cases e)
 have hc1:=zoh _ ao c (l.take k) w.heap.size h2a (by simp;omega) (h3.off_new (Nat.le_refl _)) (by simp) (by simp)
 rw[List.length_take,Nat.min_eq_left hkl] at hc1
 have hnx:=zic (w.alloc (.cells #[.int .u64 0] 45)) rb ao c l.length k w.heap.size (fun w1=>w1.cell? ⟨w.heap.size,0,none⟩=some (.int .u64 (be (l.take k):Int))∧(w.alloc (.cells #[.int .u64 0] 45)).grownBy w1 (some w.heap.size)) hkl h2.fits h1a.c0 h1a.c1 (by
  refine hc1.mono ?_
  rintro e w1 ⟨rfl,q1,q2⟩
  have h1b:=h1a.kept q2 (by simp;omega)
  exact ⟨rfl,h1b.c0,h1b.fz _,q1,q2⟩)
 clear hk hc1 h2a h1a
 go_enter Tryz.func91,Tryz.ntmps91
 go_wp2_with fail
 refine (ze8 _ _).mono ?_
 rintro e w' ⟨rfl,rfl⟩
 rw[H.out]
 go_wp2_with fail
 refine hnx.mono ?_
 rintro e w2 ⟨rfl,w1,⟨q1,q2⟩,rfl⟩
 obtain ⟨p1,p2,p3⟩:=zoi h1 h2 h3 hkl q1 q2
 clear hnx h1 h2 h3 q1 q2
 go_wp2
 go_ret
 exact ⟨rfl,p2,p3⟩
set_option maxHeartbeats 400000 in
theorem zid (w:World) (rb:Nat) (ao:Option Addr) (c n k vb:Nat) (R:World→Prop) (hk:k≤n) (hn:n≤c) (h0:w.cell? ⟨rb,0,none⟩=some (.slice ao n c)) (h1:w.cell? ⟨rb,1,none⟩=some (.int .i64 0))
  (hf:Calls Tryz.prog 107 #[.slice ao k c,.pointer (some ⟨vb,0,none⟩)] w fun e w'=>e = .returned (.tuple #[])∧w'.cell? ⟨rb,0,none⟩=some (.slice ao n c)∧w'.frozen? ⟨rb,0,none⟩=false∧R w') :
  Calls Tryz.prog 106 #[.pointer (some ⟨rb,0,none⟩),.int .i64 k,.func (.func 107) #[] #[.pointer (some ⟨vb,0,none⟩)]] w fun e w'=>e = .returned (.tuple #[]) ∧
   ∃ w1,R w1∧w'=w1.setCell ⟨rb,0,none⟩ (.slice (cutA ao c k) (n - k) (c - k)):=by
 have s1:=fun W=>zjm (P:=Tryz.prog) W 53 5 Tryz.underlying53 zay ao n c k (by omega)
 have s2:=fun W=>zbk (P:=Tryz.prog) W 53 5 Tryz.underlying53 zay ao n c k (by omega)
 have H:=hf
 go_enter Tryz.func106,Tryz.ntmps106
 go_wp2_with fail
 refine (ze7 _ _ h1).mono ?_
 rintro e w' ⟨rfl,rfl⟩
 go_wp2_with fail
 refine H.mono ?_
 rintro e w1 ⟨rfl,hc1,hf1,hR⟩
 clear h0 h1
 go_wp2
 go_end0
 exact ⟨rfl,w1,hR,rfl⟩
theorem zgk (w:World) (ao:Option Addr) (c:Nat) (l:List UInt8) (hb:Bts w ao c l) (hr:l.length≤70368744177664) :
  Calls Tryz.prog 98 #[.slice ao l.length c,.int .i64 0] w fun e w'=>e = .returned (.slice (some ⟨w.heap.size,0,none⟩) l.length l.length) ∧
   Bts w' (some ⟨w.heap.size,0,none⟩) l.length l∧w.grownBy w' none∧Typ w' w.heap.size:=by
 refine (zff w ao c l 0 hb (by omega)).mono ?_
 rintro e w' ⟨rfl,h1,h2⟩
 obtain ⟨_,_,h4⟩:=Bts.own h1
 exact ⟨rfl,h4,h2,Typ.own h1⟩
theorem zmg (w:World) (ao:Option Addr) (c:Nat) (l:List UInt8) (hb:Bts w ao c l) (hl:l.length≤70368744177664) :
  Calls Tryz.prog 89 #[.slice ao l.length c] w fun e w'=>∃ rb,e = .returned (.pointer (some ⟨rb,0,none⟩))∧w.heap.size≤rb∧Rd w' rb l 0∧w.grownBy w' none:=by
 go_enter Tryz.func89,Tryz.ntmps89
 go_wp2_with fail
 refine (zgk _ _ _ _ hb hl).mono ?_
 rintro e w1 ⟨rfl,h1,h2,h3⟩
 go_wp2
 go_ret
 have g:=World.grownBy_alloc w1 (.cells #[.slice (some ⟨w.heap.size,0,none⟩) l.length l.length,.int .i64 0] 159) none
 have hsz:=h2.size
 have hlt:=h3.lt
 exact ⟨w1.heap.size,rfl,hsz,⟨some ⟨w.heap.size,0,none⟩,l.length,heap_alloc_new w1 _,h1.kept g (fun _ e=>by cases e),fun ad e=>by cases e;exact ⟨h3.kept g (by simp),by simp only;omega⟩⟩,zad h2 _⟩
theorem zmh {w w1:World} {vb:Nat} {l:List UInt8} {c:Nat} (hv:vb<w.heap.size) (h4:Bts w1 (some ⟨w.heap.size,0,none⟩) c l) (h2:w.grownBy w1 none) (h3:Typ w1 w.heap.size) (v:Value) :
  Bts (w1.setCell ⟨vb,0,none⟩ v) (some ⟨w.heap.size,0,none⟩) c l∧w.grownBy (w1.setCell ⟨vb,0,none⟩ v) (some vb)∧Typ (w1.setCell ⟨vb,0,none⟩ v) w.heap.size:=by
 have g:=zbw w1 vb 0 v
 exact ⟨h4.kept g (fun x e=>by cases e;intro ad e;cases e;simp;omega),zae (zaq _ h2) g (fun x e=>Or.inr e),h3.kept g (by simp;omega)⟩
set_option maxHeartbeats 400000 in
theorem zoj (w:World) (ao:Option Addr) (c:Nat) (l:List UInt8) (vb:Nat) (v:Value) (hb:Bts w ao c l) (hl:l.length≤70368744177664) (hv:w.cell? ⟨vb,0,none⟩=some v) (hf:w.frozen? ⟨vb,0,none⟩=false) :
  Calls Tryz.prog 107 #[.slice ao l.length c,.pointer (some ⟨vb,0,none⟩)] w fun e w'=>e = .returned (.tuple #[]) ∧
   w'.cell? ⟨vb,0,none⟩=some (.slice (some ⟨w.heap.size,0,none⟩) l.length l.length)∧Bts w' (some ⟨w.heap.size,0,none⟩) l.length l∧w.grownBy w' (some vb)∧Typ w' w.heap.size:=by
 have hlt:=World.block_lt_of_cell? w _ hv
 simp only at hlt
 go_enter Tryz.func107,Tryz.ntmps107
 go_wp2_with fail
 refine (zgk _ _ _ _ hb hl).mono ?_
 rintro e w1 ⟨rfl,h1,h2,h3⟩
 have hv1:=h2.cell hv (by simp)
 have hf1:w1.frozen? ⟨vb,0,none⟩=false:=by rw[(zdb h2).frozen hlt];exact hf
 obtain ⟨p1,p2,p4⟩:=zmh hlt h1 h2 h3 (.slice (some ⟨w.heap.size,0,none⟩) l.length l.length)
 have p3:=World.cell?_setCell_same w1 ⟨vb,0,none⟩ (.slice (some ⟨w.heap.size,0,none⟩) l.length l.length) hv1
 clear hb
 go_wp2
 go_end0
 exact ⟨rfl,p3,p1,p2,p4⟩
theorem zpz (w:World) (rb:Nat) (l:List UInt8) (k n:Int) (hk:(k == 0)=false) (h:Rd w rb l k) :
  Calls Tryz.prog 90 #[.pointer (some ⟨rb,0,none⟩),.int .i64 n] w fun e w'=>e = .returned (.slice none 0 0)∧Rd w' rb l k∧w.grownBy w' none:=by
 have hR:=h.kept (World.grownBy_alloc w (.cells #[.slice none 0 0] 53) none) (Or.inl rfl)
 obtain ⟨ao,c,h1,h2,h3⟩:=h
 by_cases hn:0≤n
 all_goals
  go_enter Tryz.func90,Tryz.ntmps90
  go_wp2_with fail
  refine (zj8 _ _ _ _ _ hk (h1.alloc _).c1).mono ?_
  rintro e w' ⟨rfl,rfl⟩
  go_wp2
  go_ret
  exact ⟨rfl,hR,zad (zaa _ _) _⟩
theorem zp0 (w:World) (rb:Nat) (l:List UInt8) (n:Int) (hn:(l.length:Int)<n) (h:Rd w rb l 0) :
  Calls Tryz.prog 90 #[.pointer (some ⟨rb,0,none⟩),.int .i64 n] w fun e w'=>e = .returned (.slice none 0 0)∧Rd w' rb [] 10∧w.grownBy w' (some rb):=by
 obtain ⟨ao,c,h1,h2,h3⟩:=h
 have hlt:=h1.lt
 have hn0:0≤n:=by omega
 have hR:=(Rd.failed h1 10).kept (World.grownBy_alloc _ (.cells #[.slice none 0 0] 53) none) (Or.inl rfl)
 have hG:=zad (zfe w rb 10) (.cells #[.slice none 0 0] 53)
 go_enter Tryz.func90,Tryz.ntmps90
 go_wp2_with fail
 refine (zj9 _ _ _ _ _ _ _ hn (h1.alloc _).c0 (h1.alloc _).c1 ((h1.alloc _).fz _) ((h1.alloc _).fz _)).mono ?_
 rintro e w' ⟨rfl,rfl⟩
 go_wp2
 go_ret
 exact ⟨rfl,hR,hG⟩
theorem zka {w w1:World} {rb:Nat} {ao:Option Addr} {c k:Nat} {l:List UInt8} {v:Value} (h1:RdAt w rb (.slice ao l.length c) 0) (h2:Bts w ao c l) (h3:Inb w ao rb) (hk:k≤l.length)
  (q1:w1.cell? ⟨w.heap.size,0,none⟩=some v) (q2:(w.alloc (.cells #[.slice none 0 0] 53)).grownBy w1 (some w.heap.size)) (q4:Bts w1 (some ⟨w.heap.size+1,0,none⟩) k (l.take k)) (q5:Typ w1 (w.heap.size+1)) :
  (w1.setCell ⟨rb,0,none⟩ (.slice (cutA ao c k) (l.length - k) (c - k))).cell? ⟨w.heap.size,0,none⟩=some v ∧
  Rd (w1.setCell ⟨rb,0,none⟩ (.slice (cutA ao c k) (l.length - k) (c - k))) rb (l.drop k) 0 ∧
  w.grownBy (w1.setCell ⟨rb,0,none⟩ (.slice (cutA ao c k) (l.length - k) (c - k))) (some rb) ∧
  NewB w (w1.setCell ⟨rb,0,none⟩ (.slice (cutA ao c k) (l.length - k) (c - k))) (.slice (some ⟨w.heap.size+1,0,none⟩) k k) (l.take k):=by
 have hlt:=h1.lt
 have g1:w.grownBy w1 none:=zae (World.grownBy_alloc w _ none) q2 (fun x e=>by cases e;exact Or.inl (Nat.le_refl _))
 have g2:=zbw w1 rb 0 (.slice (cutA ao c k) (l.length - k) (c - k))
 refine ⟨?_,Rd.read (h1.kept g1 (by simp)) (h2.kept g1 (fun _ e=>by cases e)) (h3.kept g1 (fun _ e=>by cases e)) hk,zae (zaq _ g1) g2 (fun x e=>Or.inr e),⟨some ⟨w.heap.size+1,0,none⟩,k,?_,q4.kept g2 ?_,?_⟩⟩
 ·exact g2.cell q1 (by simp;omega)
 ·rw[List.length_take,Nat.min_eq_left hk]
 ·intro x e;cases e;intro ad e;cases e;simp;omega
 ·intro ad e;cases e;exact ⟨by simp,q5.kept g2 (by simp;omega)⟩
set_option maxHeartbeats 400000 in
theorem zp1 (w:World) (rb:Nat) (l:List UInt8) (n:Int) (k:Nat) (hk:max n 0=(k:Int)) (hkl:k≤l.length) (hkb:k≤70368744177664) (h:Rd w rb l 0) :
  Calls Tryz.prog 90 #[.pointer (some ⟨rb,0,none⟩),.int .i64 n] w fun e w'=>∃ v,e = .returned v∧NewB w w' v (l.take k)∧Rd w' rb (l.drop k) 0∧w.grownBy w' (some rb):=by
 obtain ⟨ao,c,h1,h2,h3⟩:=h
 have hlt:=h1.lt
 have h1a:=h1.alloc (.cells #[.slice none 0 0] 53)
 have h2a:Bts (w.alloc (.cells #[.slice none 0 0] 53)) ao c (l.take k):=(h2.take k hkl).kept (World.grownBy_alloc w _ none) (fun _ e=>by cases e)
 have hc1:=zoj _ ao c (l.take k) w.heap.size (.slice none 0 0) h2a (by simp;omega) (by simp) (by simp)
 rw[List.length_take,Nat.min_eq_left hkl] at hc1
 have hnx:=zid (w.alloc (.cells #[.slice none 0 0] 53)) rb ao c l.length k w.heap.size (fun w1=>w1.cell? ⟨w.heap.size,0,none⟩=some (.slice (some ⟨w.heap.size+1,0,none⟩) k k)∧(w.alloc (.cells #[.slice none 0 0] 53)).grownBy w1 (some w.heap.size) ∧
   Bts w1 (some ⟨w.heap.size+1,0,none⟩) k (l.take k)∧Typ w1 (w.heap.size+1)) hkl h2.fits h1a.c0 h1a.c1 (by
  refine hc1.mono ?_
  rintro e w1 ⟨rfl,q1,q4,q2,q5⟩
  have h1b:=h1a.kept q2 (by simp;omega)
  simp only[World.size_alloc] at q1 q4 q5
  exact ⟨rfl,h1b.c0,h1b.fz _,q1,q2,q4,q5⟩)
 clear hc1 h2a h1a
 by_cases hn:0≤n
 ·have hnk:n=(k:Int):=by omega
  subst hnk
  clear hk
  go_enter Tryz.func90,Tryz.ntmps90
  go_wp2_with fail
  refine hnx.mono ?_
  rintro e w2 ⟨rfl,w1,⟨q1,q2,q4,q5⟩,rfl⟩
  obtain ⟨p1,p2,p3,p4⟩:=zka h1 h2 h3 hkl q1 q2 q4 q5
  clear hnx h1 h2 h3 q1 q2 q4 q5
  go_wp2
  go_ret
  exact ⟨_,rfl,p4,p2,p3⟩
 ·have hnk:k=0:=by omega
  subst hnk
  clear hk
  go_enter Tryz.func90,Tryz.ntmps90
  go_wp2_with fail
  refine hnx.mono ?_
  rintro e w2 ⟨rfl,w1,⟨q1,q2,q4,q5⟩,rfl⟩
  obtain ⟨p1,p2,p3,p4⟩:=zka h1 h2 h3 hkl q1 q2 q4 q5
  simp only[Nat.sub_zero] at p1 p2 p3 p4
  clear hnx h1 h2 h3 q1 q2 q4 q5
  go_wp2
  go_ret
  exact ⟨_,rfl,p4,p2,p3⟩
end Go.Proofs.YtoilcpdhhlcidaaGreatDoor
