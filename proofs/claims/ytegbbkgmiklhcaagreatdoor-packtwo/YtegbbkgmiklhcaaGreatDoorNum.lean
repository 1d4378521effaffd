/- Lemmas. -/
import Derived.WalkKit
import Derived.WalkSpells
import Derived.WalkLawsBesides
import Derived.LaidEql
import Derived.Stop.Asserts
import Derived.RowKitTokens
import Derived.Test.YtegbbkgmiklhcaaGreatDoorDFrs
namespace Go.Proofs.YtegbbkgmiklhcaaGreatDoor
open Go.RowKit Go.Extern
theorem zc0 {P:Program} (w:World) (d:Nat) {ti tn:TypeId} {ms:Array (String × TypeId)} {i:TypeInfo} {k:IntKind} (a b:Int)
  (hi:P.underlying ti=some (.interface ms)) (hn:P.underlying tn=some (.int k)) (hinfo:P.info? tn=some i) (hcomp:i.comparable=true) :
  (Op.equalIn (d+2) ti (.iface tn (.int k a)) (.iface tn (.int k b))).run P w = .ok (a == b) w:=by
 simp[Op.equalIn,run_underlying hi,run_underlying hn,typeInfo,hinfo,hcomp]
theorem zcl {P:Program} (w:World) {ti tn:TypeId} {ms:Array (String × TypeId)} {i:TypeInfo} {k:IntKind} (a b:Int)
  (hi:P.underlying ti=some (.interface ms)) (hn:P.underlying tn=some (.int k)) (hinfo:P.info? tn=some i) (hcomp:i.comparable=true) :
  (binOp .eql ti (.iface tn (.int k a)) (.iface tn (.int k b))).run P w = .ok (.bool (a == b)) w:=by
 simp only[binOp]
 simp[Op.equal,Op.maxDepth,zc0 w 9998 a b hi hn hinfo hcomp]
theorem zi3 (v:Value) (w:World):(Extern.ReflectliteType.typeOf #[.iface 25 v]).run Tryz.prog w = .ok (.iface 164 (.agg #[.pointer (some ⟨3,25,none⟩)])) w:=by kernel_rfl
def zgg (t:TypeId):Sem Value:=do Extern.Rtype.noPackHeld "Comparable" t;pure (.bool (← typeInfo t).comparable)
theorem zek (w:World):((Extern.ReflectliteType.method zgg) #[.agg #[.pointer (some ⟨3,25,none⟩)]]).run Tryz.prog w = .ok (.bool true) w:=by kernel_rfl
theorem zce (v:Value) (w:World):(Go.method 364 164 v "Comparable").run Tryz.prog w = .ok (172,v) w:=by kernel_rfl
theorem zot:(Tryz.prog.info? 25).map (·.comparable)=some true:=by kernel_rfl
theorem zqy (v:Value) (xT:TypeId) (w:World):(Instr.typeAssert (.iface 25 v) xT 213 true).run Tryz.prog w = .ok (.tuple #[.nilIface,.bool false]) w:=run_typeAssert_lacksB Tryz.underlying213 (by kernel_rfl) (by kernel_rfl) v xT w
theorem zlc (v:Value) (xT:TypeId) (w:World):(Instr.typeAssert (.iface 25 v) xT 216 true).run Tryz.prog w = .ok (.tuple #[.nilIface,.bool false]) w:=run_typeAssert_lacksB Tryz.underlying216 (by kernel_rfl) (by kernel_rfl) v xT w
theorem zjy (v:Value) (xT:TypeId) (w:World):(Instr.typeAssert (.iface 25 v) xT 218 true).run Tryz.prog w = .ok (.tuple #[.nilIface,.bool false]) w:=run_typeAssert_lacksB Tryz.underlying218 (by kernel_rfl) (by kernel_rfl) v xT w
theorem zo4 (a:Int) (w:World) :
  Calls Tryz.prog 79 #[.iface 25 (.int .i64 a),.iface 25 (.int .i64 a)] w fun e w'=>e = .returned (.bool true)∧w'=w:=by
 obtain ⟨i,hi,hcmp⟩:=Option.map_eq_some_iff.1 zot
 have h8 := @run_callFunc_extern Tryz.prog 113 _ Extern.ReflectliteType.typeOf Tryz.func113 (by kernel_rfl) (by kernel_rfl) (by kernel_rfl) (by kernel_rfl)
 have h32 := @run_callFunc_extern Tryz.prog 172 _ (Extern.ReflectliteType.method zgg) Tryz.func172 (by kernel_rfl) (by kernel_rfl) (by kernel_rfl) (by kernel_rfl)
 have tT:=zi3
 have cT:=zek
 have mR:=zce
 have heq:=zcl (P:=Tryz.prog) w a a Tryz.underlying191 Tryz.underlying25 hi hcmp
 simp only[beq_self_eq_true] at heq
 go_enter Tryz.func79,Tryz.ntmps79
 go_wp2
 refine wp_loop_rounds 1 ?_
 rw[rounds_succ]
 go_wp2
 go_ret
 exact ⟨rfl,rfl⟩
theorem zm8 (a b:Int) (hab:(a == b)=false) (w:World) :
  Calls Tryz.prog 79 #[.iface 25 (.int .i64 a),.iface 25 (.int .i64 b)] w fun e w'=>e = .returned (.bool false)∧w'=w:=by
 obtain ⟨i,hi,hcmp⟩:=Option.map_eq_some_iff.1 zot
 have h8 := @run_callFunc_extern Tryz.prog 113 _ Extern.ReflectliteType.typeOf Tryz.func113 (by kernel_rfl) (by kernel_rfl) (by kernel_rfl) (by kernel_rfl)
 have h32 := @run_callFunc_extern Tryz.prog 172 _ (Extern.ReflectliteType.method zgg) Tryz.func172 (by kernel_rfl) (by kernel_rfl) (by kernel_rfl) (by kernel_rfl)
 have tT:=zi3
 have cT:=zek
 have mR:=zce
 have nE:=zqy
 have uE:=zlc
 have vE:=zjy
 have heq:=zcl (P:=Tryz.prog) w a b Tryz.underlying191 Tryz.underlying25 hi hcmp
 rw[hab] at heq
 go_enter Tryz.func79,Tryz.ntmps79
 go_wp2
 refine wp_loop_rounds 1 ?_
 rw[rounds_succ]
 go_wp2
 go_ret
 exact ⟨rfl,rfl⟩
end Go.Proofs.YtegbbkgmiklhcaaGreatDoor

/- Lemmas. -/
namespace Go.Proofs.YtegbbkgmiklhcaaGreatDoor
open Go.RowKit
theorem zdu (w:World) (rb:Nat) (e:Int) (h:w.cell? ⟨rb,1,none⟩=some (.int .i64 e)) :
  Calls Tryz.prog 55 #[.pointer (some ⟨rb,0,none⟩)] w fun x w'=>x = .returned (.int .i64 e)∧w'=w:=by
 go_enter Tryz.func55,Tryz.ntmps55
 go_wp2
 go_ret
 exact ⟨rfl,rfl⟩
theorem zdd (w:World) (rb:Nat) (h:w.cell? ⟨rb,1,none⟩=some (.int .i64 0)) :
  Calls Tryz.prog 62 #[.pointer (some ⟨rb,0,none⟩),.int .i64 0] w fun e w'=>e = .returned (.bool true)∧w'=w:=by
 go_enter Tryz.func62,Tryz.ntmps62
 go_wp2_with fail
 refine (zdu _ _ _ h).mono ?_
 rintro e w' ⟨rfl,rfl⟩
 go_wp2_with fail
 refine (zo4 _ _).mono ?_
 rintro e w' ⟨rfl,rfl⟩
 go_wp2
 go_ret
 exact ⟨rfl,rfl⟩
theorem zld (w:World) (rb:Nat) (k:Int) (hk:(k == 0)=false) (h:w.cell? ⟨rb,1,none⟩=some (.int .i64 k)) :
  Calls Tryz.prog 62 #[.pointer (some ⟨rb,0,none⟩),.int .i64 0] w fun e w'=>e = .returned (.bool false)∧w'=w:=by
 go_enter Tryz.func62,Tryz.ntmps62
 go_wp2_with fail
 refine (zdu _ _ _ h).mono ?_
 rintro e w' ⟨rfl,rfl⟩
 go_wp2_with fail
 refine (zm8 _ _ hk _).mono ?_
 rintro e w' ⟨rfl,rfl⟩
 go_wp2
 go_ret
 exact ⟨rfl,rfl⟩
theorem zi4 (w:World) (rb:Nat) (v:Value) (k:Int) (h:w.cell? ⟨rb,1,none⟩=some (.int .i64 0)) (h0:w.cell? ⟨rb,0,none⟩=some v)
  (f0:w.frozen? ⟨rb,0,none⟩=false) (f1:w.frozen? ⟨rb,1,none⟩=false) :
  Calls Tryz.prog 61 #[.pointer (some ⟨rb,0,none⟩),.int .i64 k] w fun e w'=>e = .returned (.tuple #[]) ∧
   w'=(w.setCell ⟨rb,1,none⟩ (.int .i64 k)).setCell ⟨rb,0,none⟩ (.slice none 0 0):=by
 go_enter Tryz.func61,Tryz.ntmps61
 go_wp2_with fail
 refine (zdd _ _ h).mono ?_
 rintro e w' ⟨rfl,rfl⟩
 go_wp2
 go_end0
 exact ⟨rfl,rfl⟩
theorem zo5 {k:IntKind} {a b:Int} (h:a=b):Ending.returned (.int k a) = .returned (.int k b):=by rw[h]
theorem zew (n:Int) (w:World):Calls Tryz.prog 44 #[.int .i64 n] w fun e w'=>e = .returned (.int .i64 (min (max n 0) 8))∧w'=w:=by
 go_enter Tryz.func44,Tryz.ntmps44
 go_wp2
 all_goals (go_ret;exact ⟨zo5 (by omega),rfl⟩)
def nb (n:Int):Nat:=(min (max n 0) 8).toNat
def numS (l:List UInt8) (e n:Int):Nat × List UInt8 × Int:=if e=0 then (if l.length<nb n then (0,[],10) else (be (l.take (nb n)),l.drop (nb n),0)) else (0,l,e)
def rawS (l:List UInt8) (e n:Int):List UInt8 × List UInt8 × Int:=if e=0 then (if l.length<n.toNat then ([],[],10) else (l.take n.toNat,l.drop n.toNat,0)) else ([],l,e)
def zak (l:List UInt8) (e:Int):List UInt8 × List UInt8 × Int :=
 if e=0 then (if l.length<4 then ([],[],10) else if 65536<be (l.take 4) then ([],[],3) else if l.length<4+be (l.take 4) then ([],[],10) else ((l.drop 4).take (be (l.take 4)),(l.drop 4).drop (be (l.take 4)),0)) else ([],l,e)
theorem zjz (l:List UInt8) (k:Nat) (hk:k<8):be (l.take k)<72057594037927936:=by
 have h1:=zjw (l.take k)
 have h2:256 ^ (l.take k).length≤256 ^ 7:=Nat.pow_le_pow_right (by omega) (by simp;omega)
 omega
theorem or8 (a x:Nat) (ha:a<72057594037927936) (hx:x<256):bits .or .u64 (IntKind.u64.wrap ((a:Int)*256)) (x:Int)=((a*256+x:Nat):Int):=by
 have h1:IntKind.u64.wrap ((a:Int)*256)=((a*256:Nat):Int):=by
  unfold IntKind.wrap
  simp[IntKind.bits,IntKind.signed]
  omega
 rw[h1,u64_or_nat _ _ (by omega) (by omega)]
 have h2:=Nat.shiftLeft_add_eq_or_of_lt (b:=x) (i:=8) (by omega) a
 rw[Nat.shiftLeft_eq,show (2:Nat) ^ 8=256 from rfl] at h2
 rw[← h2]
set_option maxHeartbeats 400000 in
theorem zm9 (w:World) (ao:Option Addr) (c:Nat) (l:List UInt8) (vb:Nat) (hb:Bts w ao c l) (hl:l.length≤8) (ho:Off ao vb) (hv:w.cell? ⟨vb,0,none⟩=some (.int .u64 0)) (hf:w.frozen? ⟨vb,0,none⟩=false) :
  Calls Tryz.prog 60 #[.slice ao l.length c,.pointer (some ⟨vb,0,none⟩)] w fun e w'=>e = .returned (.tuple #[]) ∧
   w'.cell? ⟨vb,0,none⟩=some (.int .u64 (be l:Int))∧w.grownBy w' (some vb):=by
 go_enter Tryz.func60,Tryz.ntmps60
 go_wp2
 go_loopw [7] (fun i wr=>∃ k:Nat,k≤l.length∧i = .int .i64 k∧wr.cell? ⟨vb,0,none⟩=some (.int .u64 (be (l.take k):Int))∧wr.frozen? ⟨vb,0,none⟩=false∧w.grownBy wr (some vb)) (fun i _=>l.length - (intOf i).toNat)
 case atStart=>exact ⟨0,Nat.zero_le _,rfl,hv,hf,zab _ _⟩
 case round =>
  obtain ⟨k,hk,rfl,hvr,hfr,hg⟩:=hrel
  by_cases hlt:k<l.length
  ·obtain ⟨ad,rfl⟩:∃ ad,ao=some ad:=by
    cases ao with
    | none=>have:=hb.zip rfl;omega
    | some ad=>exact ⟨ad,rfl⟩
   have hc:=(hb.kept hg (fun x e=>by cases e;exact ho)).cell ad rfl k hlt
   have hs:=hb.shape ad rfl (by omega)
   obtain ⟨b,o,s⟩:=ad
   simp only at hs hc
   subst hs
   have hx:=(l[k]).toNat_lt
   go_wp2
   go_roundw
   case rel =>
    refine ⟨k+1,by omega,by go_num,?_,?_,?_⟩
    ·rw[ze2 hlt,zgf,← or8 _ _ (zjz l k (by omega)) hx]
     exact World.cell?_setCell_same _ _ _ hvr
    ·simp[hfr]
    ·exact zae hg _ _ (Or.inr rfl)
   case measure=>simp[intOf];omega
  ·go_wp2
   go_end0
   have hkl:k=l.length:=by omega
   subst hkl
   rw[List.take_length] at hvr
   exact ⟨rfl,hvr,hg⟩
theorem zi5 (w:World) (rb:Nat) (e k:Int) (fv:Value) (he:(e == 0)=false) (h:w.cell? ⟨rb,1,none⟩=some (.int .i64 e)) :
  Calls Tryz.prog 59 #[.pointer (some ⟨rb,0,none⟩),.int .i64 k,fv] w fun e w'=>e = .returned (.tuple #[])∧w'=w:=by
 go_enter Tryz.func59,Tryz.ntmps59
 go_wp2_with fail
 refine (zld _ _ _ he h).mono ?_
 rintro e w' ⟨rfl,rfl⟩
 go_wp2
 refine bodyPost_ret (results_none rfl _ _ _) rfl ?_
 exact ⟨rfl,rfl⟩
theorem zi6 (w:World) (rb:Nat) (ao:Option Addr) (n c:Nat) (k:Int) (fv:Value) (hk:(n:Int)<k) (h0:w.cell? ⟨rb,0,none⟩=some (.slice ao n c)) (h1:w.cell? ⟨rb,1,none⟩=some (.int .i64 0))
  (f0:w.frozen? ⟨rb,0,none⟩=false) (f1:w.frozen? ⟨rb,1,none⟩=false) :
  Calls Tryz.prog 59 #[.pointer (some ⟨rb,0,none⟩),.int .i64 k,fv] w fun e w'=>e = .returned (.tuple #[]) ∧
   w'=(w.setCell ⟨rb,1,none⟩ (.int .i64 10)).setCell ⟨rb,0,none⟩ (.slice none 0 0):=by
 go_enter Tryz.func59,Tryz.ntmps59
 go_wp2_with fail
 refine (zdd _ _ h1).mono ?_
 rintro e w' ⟨rfl,rfl⟩
 go_wp2_with fail
 refine (zi4 _ _ _ _ h1 h0 f0 f1).mono ?_
 rintro e w' ⟨rfl,rfl⟩
 go_wp2
 refine bodyPost_ret (results_none rfl _ _ _) rfl ?_
 exact ⟨rfl,rfl⟩
set_option maxHeartbeats 400000 in
theorem zg9 (w:World) (rb:Nat) (ao:Option Addr) (c n k vb:Nat) (R:World→Prop) (hk:k≤n) (hn:n≤c) (h0:w.cell? ⟨rb,0,none⟩=some (.slice ao n c)) (h1:w.cell? ⟨rb,1,none⟩=some (.int .i64 0))
  (hf:Calls Tryz.prog 60 #[.slice ao k c,.pointer (some ⟨vb,0,none⟩)] w fun e w'=>e = .returned (.tuple #[])∧w'.cell? ⟨rb,0,none⟩=some (.slice ao n c)∧w'.frozen? ⟨rb,0,none⟩=false∧R w') :
  Calls Tryz.prog 59 #[.pointer (some ⟨rb,0,none⟩),.int .i64 k,.func (.func 60) #[] #[.pointer (some ⟨vb,0,none⟩)]] w fun e w'=>e = .returned (.tuple #[]) ∧
   ∃ w1,R w1∧w'=w1.setCell ⟨rb,0,none⟩ (.slice (cutA ao c k) (n - k) (c - k)):=by
 have s1:=fun W=>zi2 (P:=Tryz.prog) W 24 5 Tryz.underlying24 zau ao n c k (by omega)
 have s2:=fun W=>zd8 (P:=Tryz.prog) W 24 5 Tryz.underlying24 zau ao n c k (by omega)
 have H:=hf
 go_enter Tryz.func59,Tryz.ntmps59
 go_wp2_with fail
 refine (zdd _ _ h1).mono ?_
 rintro e w' ⟨rfl,rfl⟩
 go_wp2_with fail
 refine H.mono ?_
 rintro e w1 ⟨rfl,hc1,hf1,hR⟩
 clear h0 h1
 go_wp2
 go_end0
 exact ⟨rfl,w1,hR,rfl⟩
theorem zo6 (w:World) (rb:Nat) (l:List UInt8) (k n:Int) (hk:(k == 0)=false) (h:Rd w rb l k) :
  Calls Tryz.prog 37 #[.pointer (some ⟨rb,0,none⟩),.int .i64 n] w fun e w'=>e = .returned (.int .u64 0)∧Rd w' rb l k∧w.grownBy w' none:=by
 have hR:=h.kept (World.grownBy_alloc w (.cells #[.int .u64 0] 64) none) (Or.inl rfl)
 obtain ⟨ao,c,h1,h2,h3⟩:=h
 go_enter Tryz.func37,Tryz.ntmps37
 go_wp2_with fail
 refine (zew _ _).mono ?_
 rintro e w' ⟨rfl,rfl⟩
 go_wp2_with fail
 refine (zi5 _ _ _ _ _ hk (h1.alloc _).c1).mono ?_
 rintro e w' ⟨rfl,rfl⟩
 go_wp2
 go_ret
 exact ⟨rfl,hR,zai (zab _ _) _⟩
theorem zo7 (w:World) (rb:Nat) (l:List UInt8) (n:Int) (hn:(l.length:Int)<min (max n 0) 8) (h:Rd w rb l 0) :
  Calls Tryz.prog 37 #[.pointer (some ⟨rb,0,none⟩),.int .i64 n] w fun e w'=>e = .returned (.int .u64 0)∧Rd w' rb [] 10∧w.grownBy w' (some rb):=by
 obtain ⟨ao,c,h1,h2,h3⟩:=h
 have hlt:=h1.lt
 have hR:=(Rd.failed h1 10).kept (World.grownBy_alloc _ (.cells #[.int .u64 0] 64) none) (Or.inl rfl)
 have hG:=zai (ze3 w rb 10) (.cells #[.int .u64 0] 64)
 go_enter Tryz.func37,Tryz.ntmps37
 go_wp2_with fail
 refine (zew _ _).mono ?_
 rintro e w' ⟨rfl,rfl⟩
 go_wp2_with fail
 refine (zi6 _ _ _ _ _ _ _ hn (h1.alloc _).c0 (h1.alloc _).c1 ((h1.alloc _).fz _) ((h1.alloc _).fz _)).mono ?_
 rintro e w' ⟨rfl,rfl⟩
 go_wp2
 go_ret
 exact ⟨rfl,hR,hG⟩
theorem zna {w w1:World} {rb:Nat} {ao:Option Addr} {c k:Nat} {l:List UInt8} {x:Int} (h1:RdAt w rb (.slice ao l.length c) 0) (h2:Bts w ao c l) (h3:Inb w ao rb) (hk:k≤l.length)
  (q1:w1.cell? ⟨w.heap.size,0,none⟩=some (.int .u64 x)) (q2:(w.alloc (.cells #[.int .u64 0] 64)).grownBy w1 (some w.heap.size)) :
  (w1.setCell ⟨rb,0,none⟩ (.slice (cutA ao c k) (l.length - k) (c - k))).cell? ⟨w.heap.size,0,none⟩=some (.int .u64 x) ∧
  Rd (w1.setCell ⟨rb,0,none⟩ (.slice (cutA ao c k) (l.length - k) (c - k))) rb (l.drop k) 0 ∧
  w.grownBy (w1.setCell ⟨rb,0,none⟩ (.slice (cutA ao c k) (l.length - k) (c - k))) (some rb):=by
 have hlt:=h1.lt
 have g1:w.grownBy w1 none:=zac (World.grownBy_alloc w _ none) q2 (fun x e=>by cases e;exact Or.inl (Nat.le_refl _))
 have g2:=zdj w1 rb 0 (.slice (cutA ao c k) (l.length - k) (c - k))
 refine ⟨?_,Rd.read (h1.kept g1 (by simp)) (h2.kept g1 (fun _ e=>by cases e)) (h3.kept g1 (fun _ e=>by cases e)) hk,zac (zao _ g1) g2 (fun x e=>Or.inr e)⟩
 exact g2.cell q1 (by simp;omega)
set_option maxHeartbeats 400000 in
theorem zo8 (w:World) (rb:Nat) (l:List UInt8) (n:Int) (k:Nat) (hk:min (max n 0) 8=(k:Int)) (hkl:k≤l.length) (h:Rd w rb l 0) :
  Calls Tryz.prog 37 #[.pointer (some ⟨rb,0,none⟩),.int .i64 n] w fun e w'=>e = .returned (.int .u64 (be (l.take k):Int))∧Rd w' rb (l.drop k) 0∧w.grownBy w' (some rb):=by
 obtain ⟨ao,c,h1,h2,h3⟩:=h
 have hlt:=h1.lt
 have H:Hid (min (max n 0) 8=(k:Int)):=hk
 have h1a:=h1.alloc (.cells #[.int .u64 0] 64)
 have h2a:Bts (w.alloc (.cells #[.int .u64 0] 64)) ao c (l.take k):=(h2.take k hkl).kept (World.grownBy_alloc w _ none) (fun _ e=>by cases e)
 have hc1:=zm9 _ ao c (l.take k) w.heap.size h2a (by simp;omega) (h3.off_new (Nat.le_refl _)) (by simp) (by simp)
 rw[List.length_take,Nat.min_eq_left hkl] at hc1
 have hnx:=zg9 (w.alloc (.cells #[.int .u64 0] 64)) rb ao c l.length k w.heap.size (fun w1=>w1.cell? ⟨w.heap.size,0,none⟩=some (.int .u64 (be (l.take k):Int))∧(w.alloc (.cells #[.int .u64 0] 64)).grownBy w1 (some w.heap.size)) hkl h2.fits h1a.c0 h1a.c1 (by
  refine hc1.mono ?_
  rintro e w1 ⟨rfl,q1,q2⟩
  have h1b:=h1a.kept q2 (by simp;omega)
  exact ⟨rfl,h1b.c0,h1b.fz _,q1,q2⟩)
 clear hk hc1 h2a h1a
 go_enter Tryz.func37,Tryz.ntmps37
 go_wp2_with fail
 refine (zew _ _).mono ?_
 rintro e w' ⟨rfl,rfl⟩
 rw[H.out]
 go_wp2_with fail
 refine hnx.mono ?_
 rintro e w2 ⟨rfl,w1,⟨q1,q2⟩,rfl⟩
 obtain ⟨p1,p2,p3⟩:=zna h1 h2 h3 hkl q1 q2
 clear hnx h1 h2 h3 q1 q2
 go_wp2
 go_ret
 exact ⟨rfl,p2,p3⟩
end Go.Proofs.YtegbbkgmiklhcaaGreatDoor
