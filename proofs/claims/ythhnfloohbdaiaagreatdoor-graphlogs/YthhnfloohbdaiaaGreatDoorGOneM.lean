/- Lemmas. -/
import Derived.Test.YthhnfloohbdaiaaGreatDoorGGet
import Derived.Test.YthhnfloohbdaiaaGreatDoorMNeq
import Derived.Deep.AppendLies
namespace Go.Proofs.YthhnfloohbdaiaaGreatDoor
open Go.RowKit
set_option maxRecDepth 100000
theorem zv2 (w:World) (po:Option Addr) (S:List ObE) (h:Sat w po S) :
  Calls Tryz.prog 19 #[.pointer po] w fun e w'=>∃ v,e = .returned v∧w'.ownsRow w.heap.size 33 32 v (idsS S).length ((idsS S).flatMap (·.map bv))∧w.grownBy w' none:=by
 rcases h with ⟨u,sb,mb,rfl,hS⟩ | ⟨rfl,hN⟩
 ·have c1:=zgh w sb mb hS.cell
  have hc:=hS.cell
  obtain ⟨R,m1,m2,m3⟩:=hS.map
  have hlen:(R.map fun r=>(r.e.id,obV r)).length≤90000:=by
   have h1:((R.map fun r=>(r.e.id,obV r)).map (·.1)).length≤(idsS S).length:=zbn m1.once fun x hx=>by
    rw[List.map_map] at hx
    obtain ⟨r,hr,rfl⟩:=List.mem_map.1 hx
    exact List.mem_map.2 ⟨r.e,(m2 r.e).1 (List.mem_map.2 ⟨r,hr,rfl⟩),rfl⟩
   have h2:=hS.ok.few
   simp only[idsS,List.length_map] at h1 ⊢
   omega
  have cr:=zm5 w mb _ m1 hlen
  have hiff:∀ x,x∈(R.map fun r=>(r.e.id,obV r)).map (·.1)↔x∈idsS S:=fun x=>by
   rw[List.map_map]
   constructor
   ·intro hx
    obtain ⟨r,hr,rfl⟩:=List.mem_map.1 hx
    exact List.mem_map.2 ⟨r.e,(m2 r.e).1 (List.mem_map.2 ⟨r,hr,rfl⟩),rfl⟩
   ·intro hx
    obtain ⟨e,he,rfl⟩:=List.mem_map.1 hx
    obtain ⟨r,hr,rfl⟩:=List.mem_map.1 ((m2 e).2 he)
    exact List.mem_map.2 ⟨r,hr,rfl⟩
  have HI:=hide hiff
  have HR:=hide hS.ok.ris
  clear hS m1 m2 m3 hlen hiff
  go_enter Tryz.func19,Tryz.ntmps19
  go_wp2_with (first
   | (go_at_call 37;refine c1.mono ?_;rintro e w2 ⟨rfl,e2⟩;subst w2;clear c1)
   | (go_at_call 43;refine cr.mono ?_;rintro e w2 ⟨v,L,rfl,q1,q2,q3,q4⟩;have HQ:=hide (And.intro q1 (And.intro q2 (And.intro q3 q4)));clear q1 q2 q3 q4 cr))
  go_ret
  obtain ⟨q1,q2,q3,q4⟩:=uh HQ
  have e:L=idsS S:=Ris.ext q1 (uh HR) fun x=>(q2 x).trans (uh HI x)
  rw[e] at q3
  exact ⟨v,rfl,q3,q4⟩
 ·have c1:=hN w (zab _ _)
  clear hN
  go_enter Tryz.func19,Tryz.ntmps19
  go_wp2_with (go_at_call 37;refine c1.mono ?_;rintro e w2 ⟨rfl,e2⟩;subst w2;clear c1)
  go_ret
  exact ⟨_,rfl,World.ownsRow_nil _ _ _ _,zab _ _⟩
theorem zkr (k:Int) (d:List UInt8):(telC k d).2.pars.length≤4∧∀ x∈(telC k d).2.pars,x.length=32:=by
 unfold telC
 split
 ·split
  ·exact ⟨(zdh d).2.2.1,(zdh d).2.1⟩
  ·exact ⟨Nat.zero_le _,fun x hx=>by simp[zer] at hx⟩
 ·exact ⟨Nat.zero_le _,fun x hx=>by simp[zer] at hx⟩
theorem zx6 {α:Type} (f:α→List (List UInt8)) (n:Nat) (l:List α) (h:∀ x∈l,(f x).length≤n):(l.flatMap f).length≤l.length*n:=by
 induction l with
 | nil=>simp
 | cons x l ih =>
  rw[List.flatMap_cons,List.length_append,List.length_cons,Nat.succ_mul]
  have h1:=h x (by simp)
  have h2:=ih fun y hy=>h y (by simp[hy])
  omega
def zhh (f:ObE→List (List UInt8)) (S:List ObE) (R:List (List UInt8)):List (List UInt8):=R++S.flatMap f
theorem zs1 (S:List ObE) (R:List (List UInt8)):∀ x,∀ y∈nxS S x,y∈zhh (fun e=>zbm e.k e.d) S R:=by
 intro x y hy
 unfold nxS at hy
 cases h:lkS S x with
 | none=>rw[h] at hy;simp[nxO] at hy
 | some e =>
  rw[h] at hy
  exact List.mem_append_right _ (List.mem_flatMap.2 ⟨e,(ze1 h).1,hy⟩)
theorem zwz (S:List ObE) (R:List (List UInt8)):∀ x,∀ y∈prS S x,y∈zhh (fun e=>(telC e.k e.d).2.pars) S R:=by
 intro x y hy
 unfold prS at hy
 cases h:lkS S x with
 | none=>rw[h] at hy;simp[prO] at hy
 | some e =>
  rw[h] at hy
  exact List.mem_append_right _ (List.mem_flatMap.2 ⟨e,(ze1 h).1,hy⟩)
theorem zm8 (f:ObE→List (List UInt8)) (hf:∀ e,(f e).length≤33) (S:List ObE) (hS:SetS S) (R:List (List UInt8)) (hR:R.length≤50000):(zhh f S R).length≤90000:=by
 have h1:=zx6 f 33 S (fun e _=>hf e)
 have h2:=hS.few
 unfold zhh
 rw[List.length_append]
 omega
theorem zks (S:List ObE) (x:List UInt8):(nxS S x).length≤33∧∀ y∈nxS S x,y.length=32:=by
 unfold nxS nxO
 cases lkS S x with
 | none=>exact ⟨Nat.zero_le _,fun y hy=>by simp at hy⟩
 | some e=>exact ⟨zlo _ _,(zsd e.k e.d).2⟩
theorem zdz (S:List ObE) (x:List UInt8):(prS S x).length≤4∧∀ y∈prS S x,y.length=32:=by
 unfold prS prO
 cases lkS S x with
 | none=>exact ⟨Nat.zero_le _,fun y hy=>by simp at hy⟩
 | some e=>exact zkr _ _
theorem zm9 (w:World) (po:Option Addr) (S:List ObE) (h:Sat w po S):Nexts w 47 (.pointer po) (nxS S) where
 call hV hx:=zss _ po S (h.none hV) _ hx
 enter:=fun args w=>by exact enters_of Tryz.func47 (by kernel_rfl) rfl args w
 wide x:=(zks S x).2
 few x:=Nat.le_trans (zks S x).1 (by decide)
theorem zkt (w:World) (po:Option Addr) (S:List ObE) (h:Sat w po S):Nexts w 52 (.pointer po) (prS S) where
 call hV hx:=zm3 _ po S (h.none hV) _ hx
 enter:=fun args w=>by exact enters_of Tryz.func52 (by kernel_rfl) rfl args w
 wide x:=(zdz S x).2
 few x:=Nat.le_trans (zdz S x).1 (by decide)
theorem zqf (w:World) (po:Option Addr) (S:List ObE) (h:Sat w po S) (ao:Option Addr) (c:Nat) (R:List (List UInt8)) (hR:Ids w ao c R) (hRa:∀ ad,ao=some ad→ad.block<w.heap.size) (hRl:R.length≤50000) :
  Calls Tryz.prog 46 #[.slice ao R.length c,.func (.func 47) #[.pointer po] #[]] w fun e w'=>∃ m K,e = .returned (.map (some m))∧MapAt w' m (metK K)∧w.heap.size≤m∧(∀ x,x∈K↔Rch (nxS S) R x)∧K.length≤90000∧w.grownBy w' none:=by
 have hU:=zm8 (fun e=>zbm e.k e.d) (fun e=>zlo _ _) S h.ok R hRl
 refine (zis w _ _ (nxS S) (zm9 w po S h) ao c R (zhh (fun e=>zbm e.k e.d) S R) hR hRa (fun x hx=>List.mem_append_left _ hx) (zs1 S R) (by omega) (by omega)).mono ?_
 rintro e w' ⟨m,K,h1,h2,h3,h4,h5⟩
 refine ⟨m,K,h1,h2,h3,h4,?_,h5⟩
 have hn:=h2.once
 rw[zdd] at hn
 refine Nat.le_trans (zbn hn fun x hx => ?_) hU
 exact Rch.in (p:=fun y=>y∈zhh (fun e=>zbm e.k e.d) S R) (fun x hx=>List.mem_append_left _ hx) (fun y _ z hz=>zs1 S R y z hz) ((h4 x).1 hx)
theorem zqg (w:World) (po:Option Addr) (S:List ObE) (h:Sat w po S) (ao:Option Addr) (c:Nat) (R:List (List UInt8)) (hR:Ids w ao c R) (hRa:∀ ad,ao=some ad→ad.block<w.heap.size) (hRl:R.length≤50000) :
  Calls Tryz.prog 46 #[.slice ao R.length c,.func (.func 52) #[.pointer po] #[]] w fun e w'=>∃ m K,e = .returned (.map (some m))∧MapAt w' m (metK K)∧w.heap.size≤m∧(∀ x,x∈K↔Rch (prS S) R x)∧w.grownBy w' none:=by
 have hU:=zm8 (fun e=>(telC e.k e.d).2.pars) (fun e=>Nat.le_trans (zkr _ _).1 (by decide)) S h.ok R hRl
 exact zis w _ _ (prS S) (zkt w po S h) ao c R (zhh (fun e=>(telC e.k e.d).2.pars) S R) hR hRa (fun x hx=>List.mem_append_left _ hx) (zwz S R) (by omega) (by omega)
set_option maxHeartbeats 2000000 in
theorem ziy (w:World) (po:Option Addr) (S:List ObE) (h:Sat w po S) (a b:List UInt8) (ha:a.length=32) (hb:b.length=32) :
  Calls Tryz.prog 26 #[.pointer po,keyV a,keyV b] w fun e w'=>∃ y,e = .returned (.bool y)∧(y=true↔Rch (prS S) [a] b)∧w.grownBy w' none:=by
 obtain ⟨AB,hAB⟩:∃ l,l=a.map bv:=⟨_,rfl⟩
 obtain ⟨BB,hBB⟩:∃ l,l=b.map bv:=⟨_,rfl⟩
 have hAl:AB.length=32:=by rw[hAB];simp[ha]
 have hBl:BB.length=32:=by rw[hBB];simp[hb]
 obtain ⟨W1,hW1,hB1,g1⟩:=zag w 33 AB
 obtain ⟨W2,hW2,hB2,g2⟩:=zag W1 33 BB
 have hs1:W1.heap.size=w.heap.size+1:=by rw[hW1];simp
 rw[hs1] at hB2
 have hrA:=zal (hB1.kept g2 (by simp))
 have hrB:=zal hB2
 have hiA:(Tryz.prog.info? 33).map (·.size)=some AB.length:=by rw[hAl];exact zat
 have hiB:(Tryz.prog.info? 33).map (·.size)=some BB.length:=by rw[hBl];exact zat
 have hW:W2=(w.alloc (.cells AB.toArray 33)).alloc (.cells BB.toArray 33):=by rw[hW2,hW1]
 have hka:keyV a = .agg AB.toArray:=by rw[hAB];rfl
 have hkb:keyV b = .agg BB.toArray:=by rw[hBB];rfl
 have hbs:∀ V:World,(Instr.buildSlice 29 1 #[(0,.agg AB.toArray)]).run Tryz.prog V = .ok (.slice (some ⟨V.heap.size,0,none⟩) 1 1) (V.alloc (.cells AB.toArray 33)):=fun V=>by rw[hAB];exact zfl a ha V
 have G2:=tn g1 g2
 have HCR:Hid (∀ V p,Blk V p 33 AB→W2.grownBy V none→Calls Tryz.prog 46 #[.slice (some ⟨p,0,none⟩) 1 1,.func (.func 52) #[.pointer po] #[]] V fun e w'=>∃ m K,e = .returned (.map (some m))∧MapAt w' m (metK K)∧V.heap.size≤m∧(∀ x,x∈K↔Rch (prS S) [a] x)∧V.grownBy w' none):=fun V p hB hV=>by
  refine zqg V po S (h.none (tn G2 hV)) (some ⟨p,0,none⟩) 1 [a] ⟨(fun e=>by cases e),Nat.le_refl _,by unfold maxLen;decide,(fun ad e _=>by cases e;rfl),fun ad e i hi => ?_,fun x hx=>by simpa using (by rw[List.mem_singleton.1 hx];exact ha)⟩ (fun ad e=>by cases e;exact hB.lt) (by simp)
  cases e
  have:i=0:=by simpa using hi
  subst this
  rw[hAB] at hB
  exact zal hB
 have h0:W2.grownBy W2.drew none:=zak (zab _ _)
 rw[hka,hkb]
 obtain ⟨HW,HIA,HIB,HBS,HKB,HB32⟩:=zh6 hW hiA hiB hbs hkb hb
 clear hW hW1 hW2 hB1 hB2 g1 g2 hs1 hAB hBB ha hb hAl hBl hiA hiB hbs hka hkb h
 go_enter Tryz.func26,Tryz.ntmps26
 go_upto_region 1 with (rw[← uh HW])
 refine wp_region_noPanic ?_
 refine wp_region_held_drew (S:=fun V=>W2.grownBy V none) (by kernel_rfl) h0 (fun _ => ?_)
 refine tz 0 7 (.load 33 (.tmp 4)) (.agg AB.toArray) h0 ?_ (y:=(yieldsIf_load_mid (by rfl) _ _ rfl _ _ rfl AB _ (fun V hV=>zaf hrA hV (by simp)) Tryz.underlying33 rfl (uh HIA)))
 refine tq 2 9 (.move (.tmp 0)) (.pointer po) h0 ?_
 refine tq 3 10 (.makeFunc (Fn.func 52) #[(.tmp 9)] #[]) (.func (.func 52) #[.pointer po] #[]) h0 ?_
 refine tz 5 12 (.load 33 (.tmp 5)) (.agg BB.toArray) h0 ?_ (y:=(yieldsIf_load_mid (by rfl) _ _ rfl _ _ rfl BB _ (fun V hV=>zaf hrB hV (by simp)) Tryz.underlying33 rfl (uh HIB)))
 (try simp only[pq])
 refine rd 1 (some 8) (.buildSlice 29 1 #[(0,(.tmp 7))]) (fun K9 hK9 => ?_)
 obtain ⟨w3,hw3,hE3,g3a⟩:=zag W2.drew 33 AB
 refine zar (by rfl) 29 _ rfl (.agg AB.toArray) _ rfl (uh HBS W2.drew) ?_
 rw[← hw3]
 have g3:=tn h0 g3a
 refine hK9.out _ _ g3 (fun _ => ?_)
 clear hK9 K9 hw3
 (try simp only[pq])
 have cr:=uh HCR w3 W2.drew.heap.size hE3 g3
 refine rd 4 (some 11) (.call { callee := .value (.func 46),args := #[(.tmp 8),(.tmp 10)],argTypes := #[29,64] }) (fun K9 hK9 => ?_)
 go_simp
 go_at_call 46
 refine (cr).mono ?_
 rintro e w4 ⟨m4,K4,rfl,hM4,hm4,hK4,g4a⟩
 have g4:=tn g3 g4a
 have ch:=zsl w4 m4 K4 hM4 b (uh HB32)
 rw[uh HKB] at ch
 go_wp2_with fail
 refine hK9.out _ _ g4 (fun _ => ?_)
 clear hK9 K9
 (try simp only[pq])
 refine rd 6 (some 13) (.call { callee := .value (.func 50),args := #[(.tmp 11),(.tmp 12)],argTypes := #[96,33] }) (fun K9 hK9 => ?_)
 go_simp
 go_at_call 50
 refine (ch).mono ?_
 rintro e w5 ⟨rfl,g5a⟩
 have g5:=tn g4 g5a
 go_wp2_with fail
 refine hK9.out _ _ g5 (fun _ => ?_)
 clear hK9 K9
 refine tq 7 6 (.assign (.tmp 13)) (.bool (K4.contains b)) g5 ?_
 (try simp only[pq])
 refine wpAnyH_done (by kernel_rfl) ?_ _
 refine NoPanic.normal ?_
 clear cr ch
 have hy:K4.contains b=true↔Rch (prS S) [a] b:=by rw[← hK4 b];simp
 obtain ⟨y9,hy9⟩:∃ y,y=K4.contains b:=⟨_,rfl⟩
 rw[← hy9] at hy
 rw[← hy9]
 have HY:=hide hy
 clear hy hy9
 go_wp2
 go_ret
 exact ⟨y9,rfl,uh HY,tn G2 g5⟩
theorem zc8 {w:World} {ops:Array Oper} {rest:List Oper} {o:Oper} {a:Act} {Q:Exit→Act→World→Prop} (hgd:o.guard=none) (s x:Operand)
  (ho:o.op = .call { callee := .builtin .append,args := #[s,x],argTypes := #[29,29] })
  (base:Nat) (v:Value) (n:Nat) (xs:List Value) (hs:a.eval s=v) (hown:w.ownsRow base 33 32 v n xs) (p:Nat) (EC:List Value) (hB:Blk w p 33 EC) (hEl:EC.length=32) (hE1:∀ u∈EC,u.oneCell'=true)
  (hx:a.eval x = .slice (some ⟨p,0,none⟩) 1 1) (hn:n≤100000) (hbase:base≤w.heap.size)
  (h:∀ g c w',w'.ownsRow base 33 32 (.slice (some ⟨g,0,none⟩) (n+1) c) (n+1) (xs++EC)→w.grownBy w' v.ownBlock→(v.ownBlock=some g∨w.heap.size≤g)→wpList Tryz.prog ops Q rest (a.put o.dst (.slice (some ⟨g,0,none⟩) (n+1) c)) w'):wpList Tryz.prog ops Q (o::rest) a w:=by
 obtain ⟨i0,hi,hz0,hz1,hz2⟩:=info_parts zf6
 exact wpList_append_lies w hgd s x 29 ho base 33 i0 _ 32 32 Tryz.underlying29 hi hz0 hz1 hz2 rfl (by decide) v n xs hs hown ⟨p,0,none⟩ 1 1 EC hx (by rw[hEl]) (fun j u hu=>World.news_of_block hB j u (by simpa using hu)) hE1 (by decide) (by unfold maxLen;omega) (by omega) hbase _ rfl (fun g c w' q1 q2 q3 _=>h g c w' q1 q2 (by
  rcases q3 with q3 | q3
  ·exact Or.inl q3
  ·exact Or.inr (Nat.le_of_eq q3.symm)))
structure Two (w:World) (base:Nat) (v1 v2:Value) (T M:List (List UInt8)):Prop where
 one:w.ownsRow base 33 32 v1 T.length (T.flatMap (·.map bv))
 two:w.ownsRow base 33 32 v2 M.length (M.flatMap (·.map bv))
 apart:∀ k,v1.ownBlock=some k→v2.ownBlock≠some k
theorem Two.nil (w:World) (base:Nat):Two w base (.slice none 0 0) (.slice none 0 0) [] []:=⟨World.ownsRow_nil _ _ _ _,World.ownsRow_nil _ _ _ _,fun k e=>by cases e⟩
theorem ziz {w a:World} {base:Nat} {v:Value} {T:List (List UInt8)} {r:Option Nat} (h:w.ownsRow base 33 32 v T.length (T.flatMap (·.map bv))) (g:w.grownBy a r) (hr:∀ k,v.ownBlock=some k→r≠some k):a.ownsRow base 33 32 v T.length (T.flatMap (·.map bv)) :=
 h.kept g (by
  cases hv:v.ownBlock with
  | none=>exact Or.inl rfl
  | some k=>exact Or.inr fun e=>hr k hv e.symm)
theorem Two.none {w a:World} {base:Nat} {v1 v2:Value} {T M:List (List UInt8)} (h:Two w base v1 v2 T M) (g:w.grownBy a Option.none):Two a base v1 v2 T M :=
 ⟨ziz h.one g (fun _ _ e=>by cases e),ziz h.two g (fun _ _ e=>by cases e),h.apart⟩
theorem Two.swap {w:World} {base:Nat} {v1 v2:Value} {T M:List (List UInt8)} (h:Two w base v1 v2 T M):Two w base v2 v1 M T :=
 ⟨h.two,h.one,fun k e e2=>h.apart k e2 e⟩
theorem Two.put {w a:World} {base g c:Nat} {v1 v2:Value} {T M:List (List UInt8)} {x:List UInt8} {XB:List Value} (hXB:XB=x.map bv) (h:Two w base v1 v2 T M) (ho:a.ownsRow base 33 32 (.slice (some ⟨g,0,Option.none⟩) (T.length+1) c) (T.length+1) (T.flatMap (·.map bv)++XB)) (hg:w.grownBy a v1.ownBlock) (hat:v1.ownBlock=some g∨w.heap.size≤g) :
  Two a base (.slice (some ⟨g,0,Option.none⟩) (T.length+1) c) v2 (T++[x]) M:=by
 refine ⟨?_,ziz h.two hg (fun k e e2=>h.apart k e2 e),fun k e e2 => ?_⟩
 ·have e1:(T++[x]).length=T.length+1:=by simp
  have e2:(T++[x]).flatMap (·.map bv)=T.flatMap (·.map bv)++XB:=by rw[hXB];simp
  rw[e1,e2]
  exact ho
 ·have hgk:g=k:=by simpa[Value.ownBlock] using e
  rcases hat with h1 | h1
  ·exact h.apart g h1 (by rw[hgk];exact e2)
  ·have:=(h.two.lt k e2).2
   omega
set_option maxHeartbeats 4000000 in
theorem zs2 (w:World) (po:Option Addr) (S:List ObE) (h:Sat w po S) (ao:Option Addr) (c:Nat) (R:List (List UInt8)) (hR:Ids w ao c R) (hRa:∀ ad,ao=some ad→ad.block<w.heap.size) (hRl:R.length≤50000) :
  Calls Tryz.prog 22 #[.pointer po,.slice ao R.length c] w fun e w'=>∃ v1 v2 T M,e = .returned (.tuple #[v1,v2])∧Ris T∧Ris M∧(∀ x,x∈T↔Rch (nxS S) R x∧hasS S x=true)∧(∀ x,x∈M↔Rch (nxS S) R x∧hasS S x=false)∧Two w' w.heap.size v1 v2 T M∧w.grownBy w' none:=by
 have cr:=zqf w po S h ao c R hR hRa hRl
 obtain ⟨nR,hnR⟩:∃ n,n=R.length:=⟨_,rfl⟩
 rw[← hnR] at cr ⊢
 obtain ⟨Z,hZ,hzv⟩:=zdo
 obtain ⟨HZ,HS⟩:=zh2 hZ h
 clear hZ h hR hRa hRl hnR
 go_enter Tryz.func22,Tryz.ntmps22
 go_wp2_with fail
 refine cr.mono ?_
 rintro e w1 ⟨m,K,rfl,hM,hm,hK,hKl,g1⟩
 have cs:=zm6 w1 m (metK K) hM (by simpa[metK] using hKl)
 obtain ⟨HK,HKL⟩:=zh2 hK hKl
 have HK32:Hid (∀ x∈K,x.length=32):=fun x hx=>hM.wide (x,.agg #[]) (List.mem_map.2 ⟨x,hx,rfl⟩)
 clear cr hM hm hK hKl
 go_wp2_with fail
 refine cs.mono ?_
 rintro e w2 ⟨v0,L,rfl,hris,hmem,ho0,g2⟩
 rw[zdd] at hmem
 obtain ⟨a0,c0,rfl,hI0⟩:=Ids.own ho0 (fun x hx=>uh HK32 x ((hmem x).1 hx))
 have G2:=tn g1 g2
 have hS2:=(uh HS).none G2
 have hLl:L.length≤100000:=by
  have h1:=hI0.fits
  have h2:=zbn hris.nodup (fun x hx=>(hmem x).1 hx)
  have h3:=uh HKL
  omega
 obtain ⟨n,hn⟩:∃ n,n=L.length:=⟨_,rfl⟩
 rw[← hn] at hLl
 rw[← hn]
 obtain ⟨HN,HI,HO,HS2,HG2,HM⟩:=zh6 hn hI0 ho0 hS2 G2 hmem
 have HRI:=hide hris
 have hres:∀ x,x∈L↔Rch (nxS S) R x:=fun x=>(hmem x).trans (uh HK x)
 have HRES:=hide hres
 clear cs hris hmem ho0 hI0 g1 g2 G2 hS2 hn hres
 go_wp2_with fail
 go_loopw [4,5,14] (fun v1 v2 i wr=>∃ j:Nat,i = .int .i64 j∧j≤n∧Hid (Two wr w2.heap.size v1 v2 ((L.take j).filter (hasS S)) ((L.take j).filter fun x => !hasS S x)∧w2.grownBy wr none)) (fun _ _ i _=>n - (intOf i).toNat)
 case atStart=>exact ⟨0,rfl,Nat.zero_le _,by simpa using Two.nil w2 _,zab _ _⟩
 case round =>
  obtain ⟨j,rfl,hj,HT⟩:=hrel
  by_cases hlt:j<n
  ·have hlt' : j<L.length:=by have:=uh HN;omega
   obtain ⟨b,o,hao,hrow⟩:=(uh HI).at j hlt'
   have hr:=zaf (hrow j hlt') (uh HT).2 (by simp)
   have hid:=(uh HI).ids _ (List.getElem_mem hlt')
   have htk:=List.take_succ_eq_append_getElem hlt'
   obtain ⟨E,hEE⟩:∃ E,E=L[j]:=⟨_,rfl⟩
   rw[← hEE] at hr hid htk
   obtain ⟨EB,hEB⟩:∃ EB,EB=E.map bv:=⟨_,rfl⟩
   have hkv:keyV E = .agg EB.toArray:=by rw[hEB];rfl
   rw[← hEB] at hr
   have hEl:EB.length=32:=by rw[hEB];simp[hid]
   have hE1:∀ u∈EB,u.oneCell'=true:=by rw[hEB];exact za6 _
   have hEo:EB.toArray.all (·.oneCell')=true:=all_oneCell_toArray hE1
   have hiE:(Tryz.prog.info? 33).map (·.size)=some EB.length:=by rw[hEl];exact zat
   have hiE2:(Tryz.prog.info? 33).map (·.size)=some EB.toArray.size:=by simpa using hiE
   have hZE:Z.toList.toArray.size=EB.toArray.size:=by have:=uh HZ;simp[this,hEl]
   obtain ⟨W5,hW5,hB5,g5⟩:=zbl wr 33 Z EB
   have hBZ:Blk (wr.alloc (.cells Z 33)) wr.heap.size 33 Z.toList:=by simpa using Blk.new wr 33 Z.toList
   have hr5:=zal hB5
   have G5:=tn (uh HT).2 g5
   have ch:=zvp W5 po S ((uh HS2).none G5) E hid
   rw[hkv] at ch
   have hT5:=(uh HT).1.none g5
   have hbs:∀ V:World,(Instr.buildSlice 29 1 #[(0,.agg EB.toArray)]).run Tryz.prog V = .ok (.slice (some ⟨V.heap.size,0,none⟩) 1 1) (V.alloc (.cells EB.toArray 33)):=fun V=>by rw[hEB];exact zfl E hid V
   have hTl:((L.take j).filter (hasS S)).length≤100000:=Nat.le_trans (List.length_filter_le _ _) (by rw[List.length_take];omega)
   have hMl:((L.take j).filter fun x => !hasS S x).length≤100000:=Nat.le_trans (List.length_filter_le _ _) (by rw[List.length_take];omega)
   obtain ⟨T,hT⟩:∃ T,T=(L.take j).filter (hasS S):=⟨_,rfl⟩
   obtain ⟨M,hM⟩:∃ T,T=(L.take j).filter fun x => !hasS S x:=⟨_,rfl⟩
   have hT' : (L.take (j+1)).filter (hasS S)=T++(if hasS S E=true then [E] else []):=by
    rw[htk,List.filter_append,← hT]
    by_cases hz:hasS S E=true <;> simp[hz]
   have hM' : (L.take (j+1)).filter (fun x => !hasS S x)=M++(if hasS S E=true then [] else [E]):=by
    rw[htk,List.filter_append,← hM]
    by_cases hz:hasS S E=true <;> simp[hz]
   rw[← hT] at hTl
   rw[← hM] at hMl
   rw[← hT,← hM] at hT5
   obtain ⟨y,hy⟩:∃ y,y=hasS S E:=⟨_,rfl⟩
   rw[← hy] at ch hT' hM'
   obtain ⟨HEB,HE1,HEO,HIE,HIE2,HZE⟩:=zh6 hEB hE1 hEo hiE hiE2 hZE
   obtain ⟨HW5,HBZ,HB5,HG5,HT5,HBS⟩:=zh6 hW5 hBZ hB5 G5 hT5 hbs
   have HEL:=hide hEl
   have HT':=hide hT'
   have HM':=hide hM'
   have hjw:IntKind.i64.wrap ((j:Int)+1)=(j:Int)+1:=by rw[IntKind.wrap_i64];omega
   clear hrow hEE hEB hE1 hEo hEl hiE hiE2 hZE hW5 hBZ hB5 g5 G5 hT5 hbs hT hM hT' hM' hy hkv htk hlt' HT hid
   subst hao
   cases y with
   | true =>
    go_wp2_with (first
     | (refine wpList_load_mid rfl 33 _ rfl b (o+j*32) rfl EB _ hr Tryz.underlying33 rfl (uh HIE) ?_;clear hr)
     | (have hB9:=uh HBZ;refine wpList_store_row rfl 33 _ _ rfl wr.heap.size EB.toArray rfl rfl _ _ hB9 (uh HIE2) (uh HZE) (uh HEO) ?_;clear hB9;rw[← uh HW5])
     | (refine wpList_load_mid rfl 33 _ rfl wr.heap.size 0 rfl EB _ hr5 Tryz.underlying33 rfl (uh HIE) ?_;clear hr5))
    refine ch.mono ?_
    rintro e w6 ⟨rfl,g6⟩
    have hr6:=zal ((uh HB5).kept g6 (by simp))
    have G6:=tn (uh HG5) g6
    obtain ⟨W7,hW7,hB7,g7⟩:=zag w6 33 EB
    have hbs7:(Instr.buildSlice 29 1 #[(0,.agg EB.toArray)]).run Tryz.prog w6 = .ok (.slice (some ⟨w6.heap.size,0,none⟩) 1 1) W7:=by rw[hW7];exact uh HBS w6
    have hT7:=((uh HT5).none g6).none g7
    have G7:=tn G6 g7
    obtain ⟨HT7,HB7,HG7,HBS7⟩:=zh4 hT7 hB7 G7 hbs7
    clear ch g6 hW7 hB7 g7 hbs7 hT7 G7 G6
    go_wp2_with (first
     | (refine wpList_load_mid rfl 33 _ rfl wr.heap.size 0 rfl EB _ hr6 Tryz.underlying33 rfl (uh HIE) ?_;clear hr6)
     | (refine zaq rfl 29 _ rfl (.agg EB.toArray) _ rfl (uh HBS7) ?_)
     | (refine zc8 rfl _ _ rfl w2.heap.size _ _ _ rfl (uh HT7).one _ EB (uh HB7) (uh HEL) (uh HE1) rfl hTl (uh HG7).size ?_;intro g8 c8 w8 ho8 gg8 hat8;have HT8:=hide ((uh HT7).put (uh HEB) ho8 gg8 hat8);have HG8:=hide (zae (uh HG7) gg8 (fun x e=>Or.inl ((uh HT7).one.lt x e).1));clear ho8 gg8 hat8))
    go_roundw
    case rel =>
     refine ⟨j+1,by go_num,by omega,?_,uh HG8⟩
     have h1:=uh HT'
     have h2:=uh HM'
     simp only[if_true,List.append_nil] at h1 h2
     rw[h1,h2]
     exact uh HT8
    case measure=>simp[intOf];omega
   | false =>
    go_wp2_with (first
     | (refine wpList_load_mid rfl 33 _ rfl b (o+j*32) rfl EB _ hr Tryz.underlying33 rfl (uh HIE) ?_;clear hr)
     | (have hB9:=uh HBZ;refine wpList_store_row rfl 33 _ _ rfl wr.heap.size EB.toArray rfl rfl _ _ hB9 (uh HIE2) (uh HZE) (uh HEO) ?_;clear hB9;rw[← uh HW5])
     | (refine wpList_load_mid rfl 33 _ rfl wr.heap.size 0 rfl EB _ hr5 Tryz.underlying33 rfl (uh HIE) ?_;clear hr5))
    refine ch.mono ?_
    rintro e w6 ⟨rfl,g6⟩
    have hr6:=zal ((uh HB5).kept g6 (by simp))
    have G6:=tn (uh HG5) g6
    obtain ⟨W7,hW7,hB7,g7⟩:=zag w6 33 EB
    have hbs7:(Instr.buildSlice 29 1 #[(0,.agg EB.toArray)]).run Tryz.prog w6 = .ok (.slice (some ⟨w6.heap.size,0,none⟩) 1 1) W7:=by rw[hW7];exact uh HBS w6
    have hT7:=(((uh HT5).none g6).none g7).swap
    have G7:=tn G6 g7
    obtain ⟨HT7,HB7,HG7,HBS7⟩:=zh4 hT7 hB7 G7 hbs7
    clear ch g6 hW7 hB7 g7 hbs7 hT7 G7 G6
    go_wp2_with (first
     | (refine wpList_load_mid rfl 33 _ rfl wr.heap.size 0 rfl EB _ hr6 Tryz.underlying33 rfl (uh HIE) ?_;clear hr6)
     | (refine zaq rfl 29 _ rfl (.agg EB.toArray) _ rfl (uh HBS7) ?_)
     | (refine zc8 rfl _ _ rfl w2.heap.size _ _ _ rfl (uh HT7).one _ EB (uh HB7) (uh HEL) (uh HE1) rfl hMl (uh HG7).size ?_;intro g8 c8 w8 ho8 gg8 hat8;have HT8:=hide ((uh HT7).put (uh HEB) ho8 gg8 hat8);have HG8:=hide (zae (uh HG7) gg8 (fun x e=>Or.inl ((uh HT7).one.lt x e).1));clear ho8 gg8 hat8))
    go_roundw
    case rel =>
     refine ⟨j+1,by go_num,by omega,?_,uh HG8⟩
     have h1:=uh HT'
     have h2:=uh HM'
     simp only[Bool.false_eq_true,if_false,List.append_nil] at h1 h2
     rw[h1,h2]
     exact (uh HT8).swap
    case measure=>simp[intOf];omega
  ·have hjn:j=L.length:=by have:=uh HN;omega
   rw[hjn,List.take_of_length_le (Nat.le_refl _)] at HT
   clear hjn
   go_wp2
   go_ret2
   obtain ⟨hT,hG⟩:=uh HT
   refine ⟨_,_,_,_,rfl,(uh HRI).filter _,(uh HRI).filter _,fun x => ?_,fun x => ?_,⟨za7 hT.one (uh HG2).size,za7 hT.two (uh HG2).size,hT.apart⟩,tn (uh HG2) hG⟩
   ·rw[List.mem_filter,uh HRES x]
   ·rw[List.mem_filter,uh HRES x]
    simp
def comO (o:Option ObE):Option Nat:=match o with | some e=>if (telC e.k e.d).1=0 then some (telC e.k e.d).2.time else none | .none=>none
def comS (S:List ObE) (x:List UInt8):Option Nat:=comO (lkS S x)
theorem AtS.com {S:List ObE} {x:List UInt8} {k:Int} {d:List UInt8} (h:AtS S x k d):comS S x=if (telC k d).1=0 then some (telC k d).2.time else none:=by
 unfold comS comO
 rcases h with ⟨e,h1,rfl,rfl⟩ | ⟨h1,rfl,rfl⟩
 ·rw[h1]
 ·rw[h1];rfl
theorem zv3 (k:Int) (d:List UInt8):(telC k d).2.tree.length=32:=by
 unfold telC
 split
 ·split
  ·exact (zdh d).1
  ·rfl
 ·rfl
theorem zs3 (x:List UInt8) (hx:x.length=32) (t:Nat) (po:Option Addr) (n pc:Nat):Tryz.prog.built 109 [(0,.agg (x.map bv).toArray),(1,.int .u64 (t:Int)),(2,.slice po n pc)]=some (x.map bv++[Value.int .u64 (t:Int),Value.slice po n pc]).toArray:=by
 obtain ⟨a0,a1,a2,a3,a4,a5,a6,a7,a8,a9,a10,a11,a12,a13,a14,a15,a16,a17,a18,a19,a20,a21,a22,a23,a24,a25,a26,a27,a28,a29,a30,a31,rfl⟩:=zew x hx
 kernel_rfl
theorem ze6 (V:World) (t:TypeId) (Z:Array Value):∃ W,W=V.alloc (.cells Z t)∧Blk W V.heap.size t Z.toList∧V.grownBy W none:=by
 obtain ⟨W,a1,a2,a3⟩:=zag V t Z.toList
 exact ⟨W,by simpa using a1,a2,a3⟩
def IdB (w:World) (b:Nat):Prop:=∃ cur m,w.heap[b]? = some (.cells cur 33 m)
theorem IdB.lt {w:World} {b:Nat} (h:IdB w b):b<w.heap.size:=by
 obtain ⟨_,_,h⟩:=h
 exact (Array.getElem?_eq_some_iff.1 h).1
theorem IdB.same {w a:World} {b:Nat} (h:IdB w b) (e:a.heap[b]? = w.heap[b]?):IdB a b:=by
 obtain ⟨c,m,h⟩:=h
 exact ⟨c,m,by rw[e];exact h⟩
theorem IdB.none {w a:World} {b:Nat} (h:IdB w b) (g:w.grownBy a Option.none):IdB a b:=h.same (g.block b h.lt (by simp))
theorem IdB.blk {w:World} {b p:Nat} {t:TypeId} {cs:List Value} (h:IdB w b) (hB:Blk w p t cs) (ht:t≠33):b≠p:=by
 rintro rfl
 obtain ⟨c,m,h⟩:=h
 unfold Blk at hB
 rw[h] at hB
 injection hB with hB
 injection hB with _ hB
 exact ht hB.symm
theorem IdB.map {w:World} {b m:Nat} {K:List (List UInt8 × Value)} (h:IdB w b) (hM:MapAt w m K):b≠m:=by
 rintro rfl
 obtain ⟨c,q,h⟩:=h
 obtain ⟨A,cl,h2,_⟩:=hM.is
 rw[h] at h2
 cases h2
theorem IdB.own {w:World} {b base k n:Nat} {t:TypeId} {v:Value} {xs:List Value} (h:IdB w b) (ho:w.ownsRow base t k v n xs) (ht:t≠33):some b≠v.ownBlock:=by
 rcases ho.2 with ⟨rfl,_⟩ | ⟨g,cap,cur,rfl,_,hh,_⟩
 ·intro e;cases e
 ·intro e
  have:b=g:=by simpa[Value.ownBlock] using e
  subst this
  obtain ⟨c,q,h⟩:=h
  rw[hh] at h
  injection h with h
  injection h with _ h
  exact ht h
theorem zs4 {w:World} {base n:Nat} {v:Value} {xs:List Value} (ho:w.ownsRow base 33 32 v n xs) {b:Nat} (e:v.ownBlock=some b):IdB w b:=by
 rcases ho.2 with ⟨rfl,_⟩ | ⟨g,cap,cur,rfl,_,hh,_⟩
 ·cases e
 ·have:g=b:=by simpa[Value.ownBlock] using e
  subst this
  exact ⟨cur,_,hh⟩
theorem Ids.same {w a:World} {ao:Option Addr} {c:Nat} {ps:List (List UInt8)} (h:Ids w ao c ps) (hb:∀ ad,ao=some ad→a.heap[ad.block]? = w.heap[ad.block]?):Ids a ao c ps :=
 ⟨h.zip,h.fits,h.most,h.shape,fun ad e i hi j u hu=>by
  have:=h.row ad e i hi j u hu
  rw[World.cell?_of_block (w:=w) (w':=a) (a:=⟨ad.block,ad.off+i*32+j,Option.none⟩) (hb ad e)]
  exact this,h.ids⟩
theorem zg2 {w a:World} {base wb:Nat} {sp:Option Addr} {v:Value} {H:List CmR} (hW:WaitAt w base wb sp v H) (h:ByPile w a wb v) {b:Nat} (hb:IdB w b):a.heap[b]? = w.heap[b]? :=
 h.block b hb.lt (hb.blk hW.blk (by decide)) (hb.own hW.own (by decide))
def Puts (S:List ObE) (w w' : World) (base wb:Nat) (sp:Option Addr) (v:Value) (H:List CmR) (x:List UInt8):Prop :=
 ∃ v' H',WaitAt w' base wb sp v' H'∧zcz H' H'.length∧ByPile w w' wb v∧(∀ k,v'.ownBlock=some k→v.ownBlock=some k∨w.heap.size≤k) ∧
  ((comS S x=none∧H'=H)∨∃ t po pc,comS S x=some t∧H'.Perm (H++[⟨x,t,prS S x,po,pc⟩])∧Ids w' po pc (prS S x)∧∀ ad,po=some ad→w.heap.size≤ad.block∧IdB w' ad.block)
theorem zju {w a:World} {wb:Nat} {v:Value} (g:w.grownBy a none):ByPile w a wb v:=⟨g.os,g.tape,g.output,g.size,fun k hk _ _=>g.block k hk (by simp)⟩
theorem zs5 {w a b:World} {wb:Nat} {v v' : Value} (h:ByPile w a wb v) (k:ByPile a b wb v') (hv:∀ k,v'.ownBlock=some k→v.ownBlock=some k∨w.heap.size≤k):ByPile w b wb v :=
 ⟨k.os.trans h.os,k.tape.trans h.tape,k.output.trans h.output,Nat.le_trans h.size k.size,fun i hi h1 h2=>by
  rw[k.block i (Nat.lt_of_lt_of_le hi h.size) h1 (fun e=>by
   rcases hv i e.symm with h3 | h3
   ·exact h2 h3.symm
   ·omega),h.block i hi h1 h2]⟩
set_option maxHeartbeats 8000000 in
theorem zv4 (w:World) (base wb:Nat) (sp:Option Addr) (v:Value) (H:List CmR) (S:List ObE) (h:WaitAt w base wb sp v H) (hS:Sat w sp S) (hH:zcz H H.length) (hL:H.length≤80000) (x:List UInt8) (hx:x.length=32) :
  Calls Tryz.prog 55 #[.pointer (some ⟨wb,0,none⟩),keyV x] w fun e w'=>e = .returned (.tuple #[])∧Puts S w w' base wb sp v H x:=by
 obtain ⟨KB,hKB⟩:∃ KB,KB=x.map bv:=⟨_,rfl⟩
 have hKl:KB.length=32:=by rw[hKB];simp[hx]
 have hkv:keyV x = .agg KB.toArray:=by rw[hKB];rfl
 obtain ⟨W1,hW1,hB1,g1⟩:=zag w 33 KB
 have hrK:=zal hB1
 have hiK:(Tryz.prog.info? 33).map (·.size)=some KB.length:=by rw[hKl];exact zat
 have hc:=(h.none g1).cell.1
 obtain ⟨Z,hZ,hzv⟩:=zj7
 have HAT:Hid (∀ V,W1.grownBy V none→Calls Tryz.prog 41 #[.pointer sp,.agg KB.toArray] V fun e w'=>∃ k ao c d,e = .returned (.agg #[.int .i64 k,.slice ao d.length c])∧AtS S x k d∧Dat V ao c d∧V.grownBy w' none):=fun V hV=>by
  rw[← hkv];exact zsq V sp S (hS.none (tn g1 hV)) x hx
 have HOK:Hid (SetS S):=hS.ok
 have HTR:Hid (∀ k d,(telC k d).2.tree.length=32):=zv3
 have HLE:Hid (w.heap.size≤W1.heap.size):=g1.size
 have h0:W1.grownBy W1.drew none:=zak (zab _ _)
 obtain ⟨HX,HH,HHP,HG1,HKB,HIK⟩:=zh6 hx h hH g1 hKB hiK
 obtain ⟨HW1,HZ,HBK⟩:=zh3 hW1 hZ hB1
 rw[hkv]
 clear hKB hKl hkv hW1 hB1 g1 hiK h hS hH hx hZ
 go_enter Tryz.func55,Tryz.ntmps55
 go_upto_region 1 with (rw[← uh HW1])
 rename_i K hK
 have fin:∀ (ws:World) (b4:Nat) (k:Int) (ao:Option Addr) (c:Nat) (d:List UInt8) (y:Int) (po3:Option Addr) (pc3:Nat) (C:List Value),AtS S x k d→y=(telC k d).1→C=chC (telC k d).2 po3 pc3→W1.grownBy ws none→ws.ownsRow w.heap.size 33 32 (.slice po3 (telC k d).2.pars.length pc3) (telC k d).2.pars.length ((telC k d).2.pars.flatMap (·.map bv))→Blk ws b4 70 C→W1.heap.size≤b4 →
   K { tmps := #[.pointer (some ⟨wb,0,none⟩),.agg KB.toArray,undef,.pointer (some ⟨w.heap.size,0,none⟩),.pointer (some ⟨b4,0,none⟩),.int .i64 y,.tuple #[.agg C.toArray,.int .i64 y],.pointer (some ⟨wb,0,none⟩),.pointer (some ⟨wb,0,none⟩),.pointer (some ⟨wb,0,none⟩),.pointer sp,.agg KB.toArray,.agg #[.int .i64 k,.slice ao d.length c],.tuple #[.agg C.toArray,.int .i64 y],.agg C.toArray,.int .i64 y,undef,undef,undef,undef,undef,undef,undef,undef,undef,undef,undef,undef],defers:=[] } ws:=by
  as_aux_lemma =>
   intro ws b4 k ao c d y po3 pc3 C hat hy hC hs ho hB hb
   refine hK _ _ ?_
   have hcom:=hat.com
   have hpr:=hat.pars
   have hWs:=((uh HH).none (uh HG1)).none hs
   have gws:=tn (uh HG1) hs
   rw[hpr] at ho
   have hc33:ws.cell? ⟨b4,33,none⟩=some (.int .u64 ((telC k d).2.time:Int)):=by rw[hB.cell,hC];exact (zev _ _ _ (uh HTR k d)).2.1
   have hc32:ws.cell? ⟨b4,32,none⟩=some (.slice po3 (prS S x).length pc3):=by rw[hB.cell,hC,(zev _ _ _ (uh HTR k d)).1,hpr]
   obtain ⟨t,ht⟩:∃ t,t=(telC k d).2.time:=⟨_,rfl⟩
   rw[← ht] at hc33 hcom
   have hrx:ws.rangeAt w.heap.size 0 KB:=zal ((uh HBK).kept hs (by simp))
   rw[← hy] at hcom
   clear hK K hzv hc h0 hrK
   by_cases hy0:y=0
   ·subst hy0
    rw[if_pos rfl] at hcom
    obtain ⟨r,hr⟩:∃ r:CmR,r=⟨x,t,prS S x,po3,pc3⟩:=⟨_,rfl⟩
    have cp:=zs0 ws base wb sp v H hWs r (by rw[hr];exact uh HX) (uh HHP) (by omega)
    have hbt:=zs3 x (uh HX) t po3 (prS S x).length pc3
    have hrc:cmC r=x.map bv++[Value.int .u64 (t:Int),Value.slice po3 (prS S x).length pc3]:=by rw[hr];rfl
    rw[← hrc,← uh HKB] at hbt
    obtain ⟨RC,hRC⟩:∃ RC,RC=(cmC r).toArray:=⟨_,rfl⟩
    rw[← hRC] at cp hbt
    obtain ⟨pn,hpn⟩:∃ n,n=(prS S x).length:=⟨_,rfl⟩
    rw[← hpn] at hc32 hbt
    obtain ⟨HBT,HR,HCOM,HO,HGW⟩:=zh5 hbt hr hcom ho gws
    clear hy hC ht hbt hr hrc hRC hpn hcom ho hB hat hpr hWs hs gws
    go_wp2_with (first
     | (refine wpList_load_mid rfl 33 _ rfl w.heap.size 0 rfl KB _ hrx Tryz.underlying33 rfl (uh HIK) ?_;clear hrx)
     | (refine za4 rfl 109 _ rfl RC ?hbs ?_))
    case hbs=>simpa using uh HBT
    refine cp.mono ?_
    rintro e w9 ⟨rfl,v9,H9,q1,q2,q3,q4,q5⟩
    have HQ:=hide (And.intro q1 (And.intro q2 (And.intro q3 (And.intro q4 q5))))
    clear cp q1 q2 q3 q4 q5
    go_wp2
    go_end0
    obtain ⟨q1,q2,q3,q4,q5⟩:=uh HQ
    have gws:=uh HGW
    obtain ⟨ao5,c5,e5,hI⟩:=Ids.own (uh HO) (fun y hy=>(zdz S x).2 y hy)
    cases e5
    have hlo:∀ ad,po3=some ad→w.heap.size≤ad.block∧ad.block<ws.heap.size:=fun ad e=>(uh HO).lt ad.block (by rw[e];rfl)
    have hWs:=((uh HH).none gws)
    have hib:∀ ad,po3=some ad→IdB ws ad.block:=fun ad e=>zs4 (uh HO) (by rw[e];rfl)
    have hbne:∀ ad,po3=some ad→w9.heap[ad.block]? = ws.heap[ad.block]? := fun ad e=>zg2 hWs q4 (hib ad e)
    refine ⟨rfl,v9,H9,q1,q3,zs5 (zju gws) q4 (fun k hk=>Or.inl hk),fun k hk => ?_,Or.inr ⟨t,po3,pc3,uh HCOM,by rw[← uh HR];exact q2,?_,fun ad e=>⟨(hlo ad e).1,(hib ad e).same (hbne ad e)⟩⟩⟩
    ·rcases q5 k hk with h1 | h1
     ·exact Or.inl h1
     ·exact Or.inr (Nat.le_trans gws.size h1)
    ·exact hI.same hbne
   ·rw[if_neg hy0] at hcom
    have hyb:(y == 0)=false:=by simpa using hy0
    have HF:Hid (Puts S w ws base wb sp v H x):=⟨v,H,hWs,uh HHP,zju gws,fun k hk=>Or.inl hk,Or.inl ⟨hcom,rfl⟩⟩
    clear hy hC ht hcom ho hB hat hpr hWs hs gws hc32 hc33 hrx
    go_wp2
    go_end0
    exact ⟨rfl,uh HF⟩
 have HFIN:=hide fin
 clear fin hK
 refine wp_region_noPanic ?_
 refine wp_region_held_drew (S:=fun V=>W1.grownBy V none) (by kernel_rfl) h0 (fun _ => ?_)
 obtain ⟨WD,hWD⟩:∃ V,V=W1.drew:=⟨_,rfl⟩
 rw[← hWD]
 rw[← hWD] at h0
 clear hWD
 refine tq 0 7 (.move (.tmp 0)) (.pointer (some ⟨wb,0,none⟩)) h0 ?_
 refine tz 4 11 (.load 33 (.tmp 3)) (.agg KB.toArray) h0 ?_ (y:=(yieldsIf_load_mid (by rfl) _ _ rfl _ _ rfl KB _ (fun V hV=>zaf hrK hV (by simp)) Tryz.underlying33 rfl (uh HIK)))
 refine tq 1 8 (.nilCheck (.tmp 7)) (.pointer (some ⟨wb,0,none⟩)) h0 ?_
 refine tq 2 9 (.fieldAddr 104 (.tmp 8) 0) (.pointer (some ⟨wb,0,none⟩)) h0 ?_
 (try simp only[pq])
 refine tz 3 10 (.load 24 (.tmp 9)) (.pointer sp) h0 ?_ (y:=(Or.inl ⟨by rfl,fun V hV=>by (have hv1:=hV.cell hc (by simp);go_simp)⟩))
 (try simp only[pq])
 refine wpAnyH_ready (rs:=[5,10]) (by kernel_rfl) (by simp) ?_
 refine AllReadyH.cons (o:=⟨some 12,.call { callee := .value (.func 41),args := #[(.tmp 10),(.tmp 11)],argTypes := #[24,33] },_,_,_,_⟩) rfl (fun K9 hK9 => ?_) (AllReadyH.cons (o:=⟨some 4,.alloc 70,_,_,_,_⟩) rfl (fun K9 hK9 => ?_) AllReadyH.nil)
 ·go_simp
  go_at_call 41
  refine (uh HAT WD h0).mono ?_
  rintro e wt ⟨k,ao,c,d,rfl,hat,hD,gt⟩
  go_wp2_with fail
  have hst:=tn h0 gt
  have hDt:=hD.none gt
  refine hK9.out _ _ hst (fun _ => ?_)
  clear hK9 K9
  (try simp only[pq])
  refine wpAnyH_ready (rs:=[6,10]) (by kernel_rfl) (by simp) ?_
  refine AllReadyH.cons (o:=⟨some 13,.call { callee := .value (.func 31),args := #[(.tmp 12)],argTypes := #[42] },_,_,_,_⟩) rfl (fun K9 hK9 => ?_) (AllReadyH.cons (o:=⟨some 4,.alloc 70,_,_,_,_⟩) rfl (fun K9 hK9 => ?_) AllReadyH.nil)
  ·go_simp
   go_at_call 31
   refine (zdc wt k ao c d hDt.bts (by have:=hat.small (uh HOK);omega)).mono ?_
   rintro e wc ⟨po3,pc3,y,rfl,hy,ho3,gc⟩
   obtain ⟨C,hC⟩:∃ C,C=chC (telC k d).2 po3 pc3:=⟨_,rfl⟩
   rw[← hC]
   obtain ⟨HC,HY⟩:=zh2 hC hy
   clear hC hy
   go_wp2_with fail
   have hsc:=tn hst gc
   have ho3c:=za7 ho3 (Nat.le_trans (uh HLE) (hst).size)
   clear ho3 gc
   refine hK9.out _ _ hsc (fun _ => ?_)
   clear hK9 K9
   refine tq 7 6 (.move (.tmp 13)) (.tuple #[.agg C.toArray,.int .i64 y]) hsc ?_
   refine tq 8 14 (.extract (.tmp 6) 0) (.agg C.toArray) hsc ?_
   refine tq 9 15 (.extract (.tmp 6) 1) (.int .i64 y) hsc ?_
   (try simp only[pq])
   refine rd 10 (some 4) (.alloc 70) (fun K9 hK9 => ?_)
   go_simp
   obtain ⟨wl,hwl,hB4,gl⟩:=ze6 wc 70 Z
   rw[← hwl]
   have hsl:=tn hsc gl
   replace ho3c:=zbg ho3c gl (fun _ e=>by cases e)
   have hl4:W1.heap.size≤wc.heap.size:=(hsc).size
   refine hK9.out _ _ hsl (fun _ => ?_)
   clear hK9 K9 hwl
   (try simp only[pq])
   refine rd 11 none (.store 70 (.tmp 4) (.tmp 14)) (fun K9 hK9 => ?_)
   rw[if_pos (by rfl)]
   have hCl:C.length=36:=by rw[uh HC];exact zd0 _ _ _ (uh HTR k d)
   have hCo:C.toArray.all (·.oneCell')=true:=by rw[uh HC];exact all_oneCell_toArray (zeg _ _ _)
   have hiC:(Tryz.prog.info? 70).map (·.size)=some C.toArray.size:=by rw[show C.toArray.size=36 by simpa using hCl];exact zbv
   refine wp_store_row _ _ _ rfl (wc.heap.size) _ rfl rfl _ _ hB4 hiC (by have:=uh HZ;simp[this,hCl]) hCo ?_
   obtain ⟨ws,hws⟩:∃ V,V=wl.setRow (wc.heap.size) C.toArray:=⟨_,rfl⟩
   rw[← hws]
   have hs9:W1.grownBy ws none:=by rw[hws];exact zam hsl _ (Or.inl hl4)
   have ho9:=zb3 ho3c hB4 (by decide) C.toArray
   rw[← hws] at ho9
   have hB9:=hB4.row C
   rw[← hws] at hB9
   refine hK9.out _ _ hs9 (fun _ => ?_)
   clear hK9 K9 hws
   (try simp only[Act.put])
   refine tq 12 5 (.assign (.tmp 15)) (.int .i64 y) hs9 ?_
   (try simp only[pq])
   refine wpAnyH_done (by kernel_rfl) ?_ _
   refine NoPanic.normal ?_
   exact uh HFIN ws (wc.heap.size) k ao c d y po3 pc3 C hat (uh HY) (uh HC) hs9 ho9 hB9 hl4
  ·go_simp
   obtain ⟨wl,hwl,hB4,gl⟩:=ze6 wt 70 Z
   rw[← hwl]
   have hsl:=tn hst gl
   replace hDt:=hDt.none gl
   have hl4:W1.heap.size≤wt.heap.size:=(hst).size
   refine hK9.out _ _ hsl (fun _ => ?_)
   clear hK9 K9 hwl
   (try simp only[pq])
   refine rd 6 (some 13) (.call { callee := .value (.func 31),args := #[(.tmp 12)],argTypes := #[42] }) (fun K9 hK9 => ?_)
   go_simp
   go_at_call 31
   refine (zdc wl k ao c d hDt.bts (by have:=hat.small (uh HOK);omega)).mono ?_
   rintro e wc ⟨po3,pc3,y,rfl,hy,ho3,gc⟩
   obtain ⟨C,hC⟩:∃ C,C=chC (telC k d).2 po3 pc3:=⟨_,rfl⟩
   rw[← hC]
   obtain ⟨HC,HY⟩:=zh2 hC hy
   clear hC hy
   go_wp2_with fail
   have hsc:=tn hsl gc
   replace hB4:=hB4.kept gc (by simp)
   have ho3c:=za7 ho3 (Nat.le_trans (uh HLE) (hsl).size)
   clear ho3 gc
   refine hK9.out _ _ hsc (fun _ => ?_)
   clear hK9 K9
   refine tq 7 6 (.move (.tmp 13)) (.tuple #[.agg C.toArray,.int .i64 y]) hsc ?_
   refine tq 8 14 (.extract (.tmp 6) 0) (.agg C.toArray) hsc ?_
   refine tq 9 15 (.extract (.tmp 6) 1) (.int .i64 y) hsc ?_
   (try simp only[pq])
   refine rd 11 none (.store 70 (.tmp 4) (.tmp 14)) (fun K9 hK9 => ?_)
   rw[if_pos (by rfl)]
   have hCl:C.length=36:=by rw[uh HC];exact zd0 _ _ _ (uh HTR k d)
   have hCo:C.toArray.all (·.oneCell')=true:=by rw[uh HC];exact all_oneCell_toArray (zeg _ _ _)
   have hiC:(Tryz.prog.info? 70).map (·.size)=some C.toArray.size:=by rw[show C.toArray.size=36 by simpa using hCl];exact zbv
   refine wp_store_row _ _ _ rfl (wt.heap.size) _ rfl rfl _ _ hB4 hiC (by have:=uh HZ;simp[this,hCl]) hCo ?_
   obtain ⟨ws,hws⟩:∃ V,V=wc.setRow (wt.heap.size) C.toArray:=⟨_,rfl⟩
   rw[← hws]
   have hs9:W1.grownBy ws none:=by rw[hws];exact zam hsc _ (Or.inl hl4)
   have ho9:=zb3 ho3c hB4 (by decide) C.toArray
   rw[← hws] at ho9
   have hB9:=hB4.row C
   rw[← hws] at hB9
   refine hK9.out _ _ hs9 (fun _ => ?_)
   clear hK9 K9 hws
   (try simp only[Act.put])
   refine tq 12 5 (.assign (.tmp 15)) (.int .i64 y) hs9 ?_
   (try simp only[pq])
   refine wpAnyH_done (by kernel_rfl) ?_ _
   refine NoPanic.normal ?_
   exact uh HFIN ws (wt.heap.size) k ao c d y po3 pc3 C hat (uh HY) (uh HC) hs9 ho9 hB9 hl4
 ·go_simp
  obtain ⟨wl,hwl,hB4,gl⟩:=ze6 WD 70 Z
  rw[← hwl]
  have hsl:=tn h0 gl
  have hl4:W1.heap.size≤WD.heap.size:=(h0).size
  refine hK9.out _ _ hsl (fun _ => ?_)
  clear hK9 K9 hwl
  (try simp only[pq])
  refine rd 5 (some 12) (.call { callee := .value (.func 41),args := #[(.tmp 10),(.tmp 11)],argTypes := #[24,33] }) (fun K9 hK9 => ?_)
  go_simp
  go_at_call 41
  refine (uh HAT wl hsl).mono ?_
  rintro e wt ⟨k,ao,c,d,rfl,hat,hD,gt⟩
  go_wp2_with fail
  have hst:=tn hsl gt
  replace hB4:=hB4.kept gt (by simp)
  have hDt:=hD.none gt
  refine hK9.out _ _ hst (fun _ => ?_)
  clear hK9 K9
  (try simp only[pq])
  refine rd 6 (some 13) (.call { callee := .value (.func 31),args := #[(.tmp 12)],argTypes := #[42] }) (fun K9 hK9 => ?_)
  go_simp
  go_at_call 31
  refine (zdc wt k ao c d hDt.bts (by have:=hat.small (uh HOK);omega)).mono ?_
  rintro e wc ⟨po3,pc3,y,rfl,hy,ho3,gc⟩
  obtain ⟨C,hC⟩:∃ C,C=chC (telC k d).2 po3 pc3:=⟨_,rfl⟩
  rw[← hC]
  obtain ⟨HC,HY⟩:=zh2 hC hy
  clear hC hy
  go_wp2_with fail
  have hsc:=tn hst gc
  replace hB4:=hB4.kept gc (by simp)
  have ho3c:=za7 ho3 (Nat.le_trans (uh HLE) (hst).size)
  clear ho3 gc
  refine hK9.out _ _ hsc (fun _ => ?_)
  clear hK9 K9
  refine tq 7 6 (.move (.tmp 13)) (.tuple #[.agg C.toArray,.int .i64 y]) hsc ?_
  refine tq 8 14 (.extract (.tmp 6) 0) (.agg C.toArray) hsc ?_
  refine tq 9 15 (.extract (.tmp 6) 1) (.int .i64 y) hsc ?_
  (try simp only[pq])
  refine rd 11 none (.store 70 (.tmp 4) (.tmp 14)) (fun K9 hK9 => ?_)
  rw[if_pos (by rfl)]
  have hCl:C.length=36:=by rw[uh HC];exact zd0 _ _ _ (uh HTR k d)
  have hCo:C.toArray.all (·.oneCell')=true:=by rw[uh HC];exact all_oneCell_toArray (zeg _ _ _)
  have hiC:(Tryz.prog.info? 70).map (·.size)=some C.toArray.size:=by rw[show C.toArray.size=36 by simpa using hCl];exact zbv
  refine wp_store_row _ _ _ rfl (WD.heap.size) _ rfl rfl _ _ hB4 hiC (by have:=uh HZ;simp[this,hCl]) hCo ?_
  obtain ⟨ws,hws⟩:∃ V,V=wc.setRow (WD.heap.size) C.toArray:=⟨_,rfl⟩
  rw[← hws]
  have hs9:W1.grownBy ws none:=by rw[hws];exact zam hsc _ (Or.inl hl4)
  have ho9:=zb3 ho3c hB4 (by decide) C.toArray
  rw[← hws] at ho9
  have hB9:=hB4.row C
  rw[← hws] at hB9
  refine hK9.out _ _ hs9 (fun _ => ?_)
  clear hK9 K9 hws
  (try simp only[Act.put])
  refine tq 12 5 (.assign (.tmp 15)) (.int .i64 y) hs9 ?_
  (try simp only[pq])
  refine wpAnyH_done (by kernel_rfl) ?_ _
  refine NoPanic.normal ?_
  exact uh HFIN ws (WD.heap.size) k ao c d y po3 pc3 C hat (uh HY) (uh HC) hs9 ho9 hB9 hl4
def Cand (S:List ObE) (T:List (List UInt8)) (x:List UInt8):Prop:=(∃ c∈T,x∈prS S c)∧(comS S x).isSome=true∧x∉T
def zku (S:List ObE) (x y:List UInt8):Bool:=cmLt ⟨x,(comS S x).getD 0,[],none,0⟩ ⟨y,(comS S y).getD 0,[],none,0⟩
def zi0 (S:List ObE) (T:List (List UInt8)) (x:List UInt8):Prop:=Cand S T x∧∀ y,Cand S T y→zku S y x=false
inductive LogP (S:List ObE) (tip:List UInt8):List (List UInt8)→Prop
 | one:(comS S tip).isSome=true→LogP S tip [tip]
 | more {T:List (List UInt8)} {x:List UInt8} : LogP S tip T→zi0 S T x→LogP S tip (T++[x])
def zs6 (S:List ObE) (T:List (List UInt8)):Prop:=∀ x,¬ Cand S T x
def zi1 (S:List ObE) (tip:List UInt8) (T:List (List UInt8)):Prop:=(comS S tip=none∧T=[])∨(LogP S tip T∧zs6 S T)
theorem zi0.one {S:List ObE} {T:List (List UInt8)} {x y:List UInt8} (hx:zi0 S T x) (hy:zi0 S T y):x=y :=
 (zjt _ _ (hy.2 x hx.1) (hx.2 y hy.1)).2
theorem LogP.head {S:List ObE} {tip:List UInt8} {T:List (List UInt8)} (h:LogP S tip T):tip∈T∧T≠[]:=by
 induction h with
 | one _=>simp
 | more _ _ ih=>exact ⟨List.mem_append_left _ ih.1,by simp⟩
theorem LogP.com {S:List ObE} {tip:List UInt8} {T:List (List UInt8)} (h:LogP S tip T):∀ x∈T,(comS S x).isSome=true:=by
 induction h with
 | one hc=>intro x hx;rw[List.mem_singleton.1 hx];exact hc
 | more _ hs ih =>
  intro x hx
  rcases List.mem_append.1 hx with hx | hx
  ·exact ih x hx
  ·rw[List.mem_singleton.1 hx];exact hs.1.2.1
theorem LogP.nodup {S:List ObE} {tip:List UInt8} {T:List (List UInt8)} (h:LogP S tip T):T.Nodup:=by
 induction h with
 | one _=>simp
 | more _ hs ih=>exact List.nodup_append.2 ⟨ih,by simp,fun a ha b hb=>by rw[List.mem_singleton.1 hb];rintro rfl;exact hs.1.2.2 ha⟩
theorem LogP.rch {S:List ObE} {tip:List UInt8} {T:List (List UInt8)} (h:LogP S tip T):∀ x∈T,Rch (prS S) [tip] x:=by
 induction h with
 | one _=>intro x hx;exact .root hx
 | more _ hs ih =>
  intro x hx
  rcases List.mem_append.1 hx with hx | hx
  ·exact ih x hx
  ·rw[List.mem_singleton.1 hx]
   obtain ⟨c,hc,hp⟩:=hs.1.1
   exact .next (ih c hc) hp
theorem LogP.prefix {S:List ObE} {tip:List UInt8} {T:List (List UInt8)} (h:LogP S tip T):∀ {Q:List (List UInt8)},LogP S tip Q→T.length≤Q.length→T=Q.take T.length:=by
 induction h with
 | one _ =>
  intro Q hQ hl
  induction hQ with
  | one _=>rfl
  | @more Q x hQ _ ih =>
   have hq:0<Q.length:=List.length_pos_iff.2 hQ.head.2
   have:=ih (by simp;omega)
   rw[List.take_append_of_le_length (by simp;omega)]
   exact this
 | @more T x hT hs ih =>
  intro Q hQ hl
  induction hQ with
  | one _ =>
   have:=List.length_pos_iff.2 hT.head.2
   simp at hl
   rw[hl] at this
   simp at this
  | @more Q y hQ hy ihQ =>
   simp only[List.length_append,List.length_cons,List.length_nil] at hl
   by_cases he:T.length=Q.length
   ·have h1:=ih hQ (by omega)
    rw[List.take_of_length_le (by omega)] at h1
    subst h1
    rw[hs.one hy,List.take_of_length_le (by simp)]
   ·have:=ihQ (by simp;omega)
    rw[List.take_append_of_le_length (by simp;omega)]
    exact this
theorem zi1.one {S:List ObE} {tip:List UInt8} {T Q:List (List UInt8)} (h:zi1 S tip T) (k:zi1 S tip Q):T=Q:=by
 have key:∀ {T Q:List (List UInt8)},LogP S tip T→zs6 S T→LogP S tip Q→T.length≤Q.length→T=Q:=by
  intro T Q hT hE hQ hl
  have h1:=hT.prefix hQ hl
  by_cases he:T.length=Q.length
  ·rw[h1,he,List.take_length]
  ·exfalso
   have hlt:T.length<Q.length:=by omega
   clear hl he
   induction hQ with
   | one _ =>
    have:=List.length_pos_iff.2 hT.head.2
    simp at hlt
    rw[hlt] at this
    simp at this
   | @more Q y hQ hy ih =>
    simp only[List.length_append,List.length_cons,List.length_nil] at hlt
    by_cases he:T.length=Q.length
    ·rw[List.take_append_of_le_length (by omega),he,List.take_length] at h1
     rw[h1] at hE
     exact hE y hy.1
    ·refine ih ?_ (by omega)
     rw[List.take_append_of_le_length (by omega)] at h1
     exact h1
 rcases h with ⟨h1,rfl⟩ | ⟨h1,h2⟩
 ·rcases k with ⟨_,rfl⟩ | ⟨k1,_⟩
  ·rfl
  ·have:=k1.com tip k1.head.1
   rw[h1] at this
   cases this
 ·rcases k with ⟨k1,rfl⟩ | ⟨k1,k2⟩
  ·have:=h1.com tip h1.head.1
   rw[k1] at this
   cases this
  ·rcases Nat.le_total T.length Q.length with hl | hl
   ·exact key h1 h2 k1 hl
   ·exact (key k1 k2 h1 hl).symm
structure LogI (S:List ObE) (tip:List UInt8) (T K:List (List UInt8)) (H:List CmR):Prop where
 known:∀ x,x∈K↔x=tip∨∃ c∈T,x∈prS S c
 heap:∀ x,x∈H.map (·.id)↔x∈K∧(comS S x).isSome=true∧x∉T
 once:(H.map (·.id)).Nodup
 com:∀ r∈H,comS S r.id=some r.time∧r.pars=prS S r.id
 log:T=[]∨LogP S tip T
theorem zv5 {S:List ObE} {a b:CmR} (ha:comS S a.id=some a.time) (hb:comS S b.id=some b.time):zku S a.id b.id=cmLt a b:=by
 unfold zku cmLt
 rw[ha,hb]
 rfl
theorem LogI.first {S:List ObE} {tip:List UInt8} {H:List CmR} (h:(comS S tip=none∧H=[])∨∃ t po pc,comS S tip=some t∧H.Perm [⟨tip,t,prS S tip,po,pc⟩]):LogI S tip [] [tip] H:=by
 rcases h with ⟨h1,rfl⟩ | ⟨t,po,pc,h1,h2⟩
 ·refine ⟨by simp,fun x => ?_,by simp,by simp,Or.inl rfl⟩
  simp only[List.map_nil,List.not_mem_nil,List.mem_singleton,not_false_eq_true,and_true,false_iff,not_and]
  rintro rfl
  rw[h1]
  simp
 ·have:=List.perm_singleton.1 h2
  subst this
  refine ⟨by simp,fun x => ?_,by simp,fun r hr => ?_,Or.inl rfl⟩
  ·simp only[List.map_cons,List.map_nil,List.mem_singleton,List.not_mem_nil,not_false_eq_true,and_true]
   constructor
   ·rintro rfl;exact ⟨rfl,by rw[h1];rfl⟩
   ·exact fun h=>h.1
  ·rw[List.mem_singleton.1 hr];exact ⟨h1,rfl⟩
theorem LogI.told {S:List ObE} {tip:List UInt8} {T K:List (List UInt8)} {H G:List CmR} {r:CmR} (h:LogI S tip T K H) (hr:r∈H) (hl:∀ x∈H,cmLt x r=false) (hp:(G++[r]).Perm H):LogP S tip (T++[r.id])∧r.id∉T∧(∀ x,x∈G.map (·.id)↔x∈K∧(comS S x).isSome=true∧x∉T++[r.id])∧(G.map (·.id)).Nodup∧∀ q∈G,comS S q.id=some q.time∧q.pars=prS S q.id:=by
 have hid:r.id∈H.map (·.id):=List.mem_map.2 ⟨r,hr,rfl⟩
 obtain ⟨hK,hc,hT⟩:=(h.heap r.id).1 hid
 have hpm:((G++[r]).map (·.id)).Perm (H.map (·.id)):=hp.map _
 have hnd:=hpm.nodup_iff.2 h.once
 rw[List.map_append] at hnd
 have hnd2:=List.nodup_append.1 hnd
 refine ⟨?_,hT,fun x => ?_,hnd2.1,fun q hq=>h.com q (hp.mem_iff.1 (List.mem_append_left _ hq))⟩
 ·rcases h.log with rfl | hP
  ·have:r.id=tip:=by
    rcases (h.known r.id).1 hK with h1 | ⟨c,hc,_⟩
    ·exact h1
    ·simp at hc
   rw[List.nil_append,this]
   exact .one (by rw[← this];exact hc)
  ·refine .more hP ⟨⟨?_,hc,hT⟩,fun y hy => ?_⟩
   ·rcases (h.known r.id).1 hK with h1 | h1
    ·exact absurd (h1 ▸ hP.head.1) hT
    ·exact h1
   ·have hyH:y∈H.map (·.id):=(h.heap y).2 ⟨(h.known y).2 (Or.inr hy.1),hy.2.1,hy.2.2⟩
    obtain ⟨q,hq,rfl⟩:=List.mem_map.1 hyH
    rw[zv5 (h.com q hq).1 (h.com r hr).1]
    exact hl q hq
 ·have hx:=hpm.mem_iff (a:=x)
  rw[h.heap x,List.map_append,List.mem_append] at hx
  constructor
  ·intro hG
   have h1:=hx.1 (Or.inl hG)
   refine ⟨h1.1,h1.2.1,fun hm => ?_⟩
   rcases List.mem_append.1 hm with hm | hm
   ·exact h1.2.2 hm
   ·exact hnd2.2.2 x hG x (by simpa using hm) rfl
  ·rintro ⟨h1,h2,h3⟩
   rcases hx.2 ⟨h1,h2,fun hm=>h3 (List.mem_append_left _ hm)⟩ with h4 | h4
   ·exact h4
   ·exact absurd (List.mem_append_right _ (by simpa using h4)) h3
theorem LogI.ends {S:List ObE} {tip:List UInt8} {T K:List (List UInt8)} (h:LogI S tip T K []):zi1 S tip T:=by
 rcases h.log with rfl | hP
 ·left
  refine ⟨?_,rfl⟩
  cases hc:comS S tip with
  | none=>rfl
  | some t =>
   have:=(h.heap tip).2 ⟨(h.known tip).2 (Or.inl rfl),by rw[hc];rfl,by simp⟩
   simp at this
 ·right
  refine ⟨hP,fun x hx => ?_⟩
  have:=(h.heap x).2 ⟨(h.known x).2 (Or.inr hx.1),hx.2.1,hx.2.2⟩
  simp at this
structure LogW (w V:World) (m wb:Nat) (sp:Option Addr) (S:List ObE) (T:List (List UInt8)) (tv:Value) (K:List (List UInt8)) (H:List CmR):Prop where
 gb:w.grownBy V none
 map:MapAt V m (metK K)
 wait:∃ v,WaitAt V w.heap.size wb sp v H
 heap:zcz H H.length
 pars:∀ r∈H,Ids V r.po r.pc r.pars∧∀ ad,r.po=some ad→IdB V ad.block∧tv.ownBlock≠some ad.block
 told:V.ownsRow w.heap.size 33 32 tv T.length (T.flatMap (·.map bv))
 nm:w.heap.size≤m
 sat:Sat w sp S
theorem LogW.none {w V a:World} {m wb:Nat} {sp:Option Addr} {S:List ObE} {T K:List (List UInt8)} {tv:Value} {H:List CmR} (h:LogW w V m wb sp S T tv K H) (g:V.grownBy a Option.none):LogW w a m wb sp S T tv K H:=by
 obtain ⟨v,hv⟩:=h.wait
 exact ⟨tn h.gb g,h.map.none g,⟨v,hv.none g⟩,h.heap,fun r hr=>⟨(h.pars r hr).1.none g,fun ad e=>⟨((h.pars r hr).2 ad e).1.none g,((h.pars r hr).2 ad e).2⟩⟩,zbg h.told g (fun _ e=>by cases e),h.nm,h.sat⟩
theorem zi2 {u w a:World} {base wb:Nat} {sp:Option Addr} {v:Value} {H:List CmR} (g:u.grownBy w none) (hp:WaitAt w base wb sp v H) (h:ByPile w a wb v) (hb:u.heap.size≤base):u.grownBy a none :=
 ⟨h.os.trans g.os,h.tape.trans g.tape,h.output.trans g.output,Nat.le_trans g.size h.size,fun k hk _=>by
  have h2:=hp.nb
  rw[h.block k (Nat.lt_of_lt_of_le hk g.size) (by omega) (fun e=>by have:=(hp.own.lt k e.symm).1;omega),g.block k hk (by simp)]⟩
def zx7 (w:World) (m wb:Nat) (sp:Option Addr) (S:List ObE) (T:List (List UInt8)) (tv:Value) (H0:List (List UInt8)) (n0:Nat) (ao:Option Addr) (c:Nat) (ps:List (List UInt8)) (V:World) (K L:List (List UInt8)):Prop :=
 ∃ H,LogW w V m wb sp S T tv K H∧(∀ x,x∈H.map (·.id)↔x∈H0∨(x∈L∧(comS S x).isSome=true))∧(H.map (·.id)).Nodup∧(∀ r∈H,comS S r.id=some r.time∧r.pars=prS S r.id)∧(∀ x∈H0,x∈K)∧(∀ x∈L,x∈K)∧H.length≤n0+L.length∧(L.Nodup∧∀ y∈L,y∈ps)∧Ids V ao c ps∧∀ ad,ao=some ad→IdB V ad.block
theorem zlw (w:World) (m wb:Nat) (sp:Option Addr) (S:List ObE) (T:List (List UInt8)) (tv:Value) (H0:List (List UInt8)) (n0:Nat) (ao:Option Addr) (c:Nat) (ps:List (List UInt8)) (hn:n0≤40000) (hps:ps.length≤1000) :
  Works 55 (.pointer (some ⟨wb,0,none⟩)) m ao c ps (fun V K L=>zx7 w m wb sp S T tv H0 n0 ao c ps V K L) where
 map h:=by
  obtain ⟨H,h,_⟩:=h
  exact h.map
 ids h:=by
  obtain ⟨H,_,_,_,_,_,_,_,_,h,_⟩:=h
  exact h
 none h g:=by
  obtain ⟨H,h1,h2,h3,h4,h5,h6,h7,h8,h9,h10⟩:=h
  exact ⟨H,h1.none g,h2,h3,h4,h5,h6,h7,h8,h9.none g,fun ad e=>(h10 ad e).none g⟩
 put {V0 V K L x} h0 hin hxK g0 hM hle:=by
  obtain ⟨H,hW,hH,hnd,hcm,hHK,hLK,hlen,hLp,hI,hIB⟩:=h0
  obtain ⟨v,hv⟩:=hW.wait
  have hbm:∀ b,IdB V0 b→V.heap[b]? = V0.heap[b]? := fun b hb=>g0.block b hb.lt (fun e=>hb.map hW.map (by cases e;rfl))
  have hgbV:w.grownBy V none:=zae hW.gb g0 (fun y e=>Or.inl (by cases e;exact hW.nm))
  have hvV:WaitAt V w.heap.size wb sp v H:=hv.kept g0 (fun e=>hW.map.blk hv.blk (by cases e;rfl)) (Or.inr fun e=>hW.map.own hv.own e.symm)
  have htold:V.ownsRow w.heap.size 33 32 tv T.length (T.flatMap (·.map bv)):=zxs hW.told hW.map g0
  have hIV:Ids V ao c ps:=hI.same fun ad e=>hbm _ (hIB ad e)
  have hIBV:∀ ad,ao=some ad→IdB V ad.block:=fun ad e=>(hIB ad e).same (hbm _ (hIB ad e))
  have hparV:∀ r∈H,Ids V r.po r.pc r.pars∧∀ ad,r.po=some ad→IdB V ad.block∧tv.ownBlock≠some ad.block:=fun r hr =>
   ⟨(hW.pars r hr).1.same fun ad e=>hbm _ ((hW.pars r hr).2 ad e).1,fun ad e=>⟨((hW.pars r hr).2 ad e).1.same (hbm _ ((hW.pars r hr).2 ad e).1),((hW.pars r hr).2 ad e).2⟩⟩
  have hLlt:L.length≤ps.length:=zbn hLp.1 hLp.2
  refine (zv4 V w.heap.size wb sp v H S hvV (hW.sat.none hgbV) hW.heap (by omega) x (hI.ids x hin)).mono ?_
  rintro e w' ⟨he,v',H',q1,q2,q3,q4,q5⟩
  have hbp:∀ b,IdB V b→w'.heap[b]? = V.heap[b]? := fun b hb=>zg2 hvV q3 hb
  have hmap' : MapAt w' m (metK (K++[x])):=hM.same (q3.block m hM.lt (fun e=>hM.blk hvV.blk e) (hM.own hvV.own))
  have htold' : w'.ownsRow w.heap.size 33 32 tv T.length (T.flatMap (·.map bv)):=by
   refine ⟨htold.1,?_⟩
   rcases htold.2 with h1 | ⟨g,cap,cur,hv2,hg,hh,hr⟩
   ·exact Or.inl h1
   ·exact Or.inr ⟨g,cap,cur,hv2,hg,by rw[hbp g ⟨cur,_,hh⟩];exact hh,hr⟩
  have hparH:∀ r∈H,Ids w' r.po r.pc r.pars∧∀ ad,r.po=some ad→IdB w' ad.block∧tv.ownBlock≠some ad.block:=fun r hr =>
   ⟨(hparV r hr).1.same fun ad e=>hbp _ ((hparV r hr).2 ad e).1,fun ad e=>⟨((hparV r hr).2 ad e).1.same (hbp _ ((hparV r hr).2 ad e).1),((hparV r hr).2 ad e).2⟩⟩
  have hHids:∀ y∈H.map (·.id),y∈K:=fun y hy=>by
   rcases (hH y).1 hy with h1 | h1
   ·exact hHK y h1
   ·exact hLK y h1.1
  refine ⟨he,H',⟨zi2 hgbV hvV q3 (Nat.le_refl _),hmap',⟨v',q1⟩,q2,?_,htold',hW.nm,hW.sat⟩,?_,?_,?_,fun y hy=>List.mem_append_left _ (hHK y hy),fun y hy => ?_,?_,?_,hIV.same fun ad e=>hbp _ (hIBV ad e),fun ad e=>(hIBV ad e).same (hbp _ (hIBV ad e))⟩
  ·rcases q5 with ⟨_,rfl⟩ | ⟨t,po,pc,hc,hp,hIx,hbx⟩
   ·exact hparH
   ·intro r hr
    rcases List.mem_append.1 (hp.mem_iff.1 hr) with hr | hr
    ·exact hparH r hr
    ·rw[List.mem_singleton.1 hr]
     refine ⟨hIx,fun ad e=>⟨(hbx ad e).2,fun e2 => ?_⟩⟩
     have h1:=(htold.lt _ e2).2
     have h2:=(hbx ad e).1
     omega
  ·intro y
   rcases q5 with ⟨hc,rfl⟩ | ⟨t,po,pc,hc,hp,hIx,hbx⟩
   ·rw[hH y]
    constructor
    ·rintro (h1 | ⟨h1,h2⟩)
     ·exact Or.inl h1
     ·exact Or.inr ⟨List.mem_append_left _ h1,h2⟩
    ·rintro (h1 | ⟨h1,h2⟩)
     ·exact Or.inl h1
     ·rcases List.mem_append.1 h1 with h1 | h1
      ·exact Or.inr ⟨h1,h2⟩
      ·rw[List.mem_singleton.1 h1,hc] at h2
       cases h2
   ·rw[(hp.map (·.id)).mem_iff,List.map_append,List.mem_append,hH y]
    constructor
    ·rintro ((h1 | ⟨h1,h2⟩) | h1)
     ·exact Or.inl h1
     ·exact Or.inr ⟨List.mem_append_left _ h1,h2⟩
     ·have:y=x:=by simpa using h1
      subst this
      exact Or.inr ⟨by simp,by rw[hc];rfl⟩
    ·rintro (h1 | ⟨h1,h2⟩)
     ·exact Or.inl (Or.inl h1)
     ·rcases List.mem_append.1 h1 with h1 | h1
      ·exact Or.inl (Or.inr ⟨h1,h2⟩)
      ·right;simpa using h1
  ·rcases q5 with ⟨hc,rfl⟩ | ⟨t,po,pc,hc,hp,hIx,hbx⟩
   ·exact hnd
   ·rw[(hp.map (·.id)).nodup_iff,List.map_append]
    refine List.nodup_append.2 ⟨hnd,by simp,fun a ha b hb => ?_⟩
    have:b=x:=by simpa using hb
    subst this
    rintro rfl
    exact hxK (hHids _ ha)
  ·rcases q5 with ⟨hc,rfl⟩ | ⟨t,po,pc,hc,hp,hIx,hbx⟩
   ·exact hcm
   ·intro r hr
    rcases List.mem_append.1 (hp.mem_iff.1 hr) with hr | hr
    ·exact hcm r hr
    ·rw[List.mem_singleton.1 hr];exact ⟨hc,rfl⟩
  ·rcases List.mem_append.1 hy with hy | hy
   ·exact List.mem_append_left _ (hLK y hy)
   ·exact List.mem_append_right _ hy
  ·rcases q5 with ⟨hc,rfl⟩ | ⟨t,po,pc,hc,hp,hIx,hbx⟩
   ·simp only[List.length_append,List.length_cons,List.length_nil];omega
   ·rw[hp.length_eq];simp only[List.length_append,List.length_cons,List.length_nil];omega
  ·refine ⟨List.nodup_append.2 ⟨hLp.1,by simp,fun a ha b hb => ?_⟩,fun y hy => ?_⟩
   ·have:b=x:=by simpa using hb
    subst this
    rintro rfl
    exact hxK (hLK _ ha)
   ·rcases List.mem_append.1 hy with hy | hy
    ·exact hLp.2 y hy
    ·rw[List.mem_singleton.1 hy];exact hin
 enter:=fun args w=>by exact enters_of Tryz.func55 (by kernel_rfl) rfl args w
theorem zoe {S:List ObE} {x:List UInt8} (h:(comS S x).isSome=true):x∈idsS S:=by
 unfold comS at h
 cases hl:lkS S x with
 | none=>rw[hl] at h;cases h
 | some e =>
  obtain ⟨h1,rfl⟩:=ze1 hl
  exact List.mem_map.2 ⟨e,h1,rfl⟩
theorem LogP.from {S:List ObE} {tip:List UInt8} {T:List (List UInt8)} (h:LogP S tip T):∀ x∈T,x=tip∨∃ c∈T,x∈prS S c:=by
 induction h with
 | one _=>intro x hx;left;simpa using hx
 | more _ hs ih =>
  intro x hx
  rcases List.mem_append.1 hx with hx | hx
  ·rcases ih x hx with h1 | ⟨c,h1,h2⟩
   ·exact Or.inl h1
   ·exact Or.inr ⟨c,List.mem_append_left _ h1,h2⟩
  ·rw[List.mem_singleton.1 hx]
   obtain ⟨c,h1,h2⟩:=hs.1.1
   exact Or.inr ⟨c,List.mem_append_left _ h1,h2⟩
theorem zi3 {x:List UInt8} : ∀ {l K:List (List UInt8)},x∈zco K l→x∉K
 | [],_,h=>by simp[zco] at h
 | y::l,K,h=>by
  unfold zco at h
  split at h
  ·exact zi3 h
  ·rename_i hy
   rcases List.mem_cons.1 h with rfl | h
   ·exact hy
   ·exact fun hm=>zi3 h (List.mem_append_left _ hm)
theorem LogI.next {S:List ObE} {tip:List UInt8} {T K:List (List UInt8)} {H G E:List CmR} {r:CmR} (h:LogI S tip T K H) (hr:r∈H) (hl:∀ x∈H,cmLt x r=false) (hp:(G++[r]).Perm H)
  (h1:∀ x,x∈E.map (·.id)↔x∈G.map (·.id)∨(x∈zco K (prS S r.id)∧(comS S x).isSome=true)) (h2:(E.map (·.id)).Nodup) (h3:∀ q∈E,comS S q.id=some q.time∧q.pars=prS S q.id):LogI S tip (T++[r.id]) (K++zco K (prS S r.id)) E:=by
 obtain ⟨a1,a2,a3,a4,a5⟩:=h.told hr hl hp
 have hTK:∀ x∈T++[r.id],x∈K:=fun x hx=>by
  rcases List.mem_append.1 hx with hx | hx
  ·rcases h.log with rfl | hP
   ·simp at hx
   ·exact (h.known x).2 (hP.from x hx)
  ·rw[List.mem_singleton.1 hx]
   exact ((h.heap r.id).1 (List.mem_map.2 ⟨r,hr,rfl⟩)).1
 refine ⟨fun x => ?_,fun x => ?_,h2,h3,Or.inr a1⟩
 ·rw[List.mem_append]
  constructor
  ·rintro (hx | hx)
   ·rcases (h.known x).1 hx with h4 | ⟨c,h4,h5⟩
    ·exact Or.inl h4
    ·exact Or.inr ⟨c,List.mem_append_left _ h4,h5⟩
   ·exact Or.inr ⟨r.id,by simp,zdx hx⟩
  ·rintro (h4 | ⟨c,h4,h5⟩)
   ·exact Or.inl ((h.known x).2 (Or.inl h4))
   ·rcases List.mem_append.1 h4 with h4 | h4
    ·exact Or.inl ((h.known x).2 (Or.inr ⟨c,h4,h5⟩))
    ·rw[List.mem_singleton.1 h4] at h5
     exact List.mem_append.1 (ze2 h5)
 ·rw[h1 x,a3 x]
  constructor
  ·rintro (⟨b1,b2,b3⟩ | ⟨b1,b2⟩)
   ·exact ⟨List.mem_append_left _ b1,b2,b3⟩
   ·exact ⟨List.mem_append_right _ b1,b2,fun hm=>zi3 b1 (hTK x hm)⟩
  ·rintro ⟨b1,b2,b3⟩
   rcases List.mem_append.1 b1 with b1 | b1
   ·exact Or.inl ⟨b1,b2,b3⟩
   ·exact Or.inr ⟨b1,b2⟩
theorem zqh (po:Option Addr):Tryz.prog.built 104 [(0,.pointer po)]=some #[.pointer po,.slice none 0 0]:=by kernel_rfl
set_option maxHeartbeats 8000000 in
theorem zof (w:World) (po:Option Addr) (S:List ObE) (h:Sat w po S) (tip:List UInt8) (htip:tip.length=32) :
  Calls Tryz.prog 28 #[.pointer po,keyV tip] w fun e w'=>∃ v T,e = .returned v∧zi1 S tip T∧w'.ownsRow w.heap.size 33 32 v T.length (T.flatMap (·.map bv))∧w.grownBy w' none:=by
 obtain ⟨KB,hKB⟩:∃ KB,KB=tip.map bv:=⟨_,rfl⟩
 have hKl:KB.length=32:=by rw[hKB];simp[htip]
 have hkv:keyV tip = .agg KB.toArray:=by rw[hKB];rfl
 have hiK:(Tryz.prog.info? 33).map (·.size)=some KB.length:=by rw[hKl];exact zat
 have hmk:∀ W:World,(Instr.makeMap 96 none).run Tryz.prog W = .ok (.map (some W.heap.size)) (W.alloc (.map #[] 0)):=fun W=>run_makeMap _ W
 obtain ⟨W1,hW1,hB1,g1⟩:=zag w 33 KB
 obtain ⟨W2,hW2⟩:∃ W,W=W1.alloc (.map #[] 0):=⟨_,rfl⟩
 have g2:W1.grownBy W2 none:=by rw[hW2];exact zah (zab _ _) _
 have hs1:W1.heap.size=w.heap.size+1:=by rw[hW1];simp
 have hM2:MapAt W2 (w.heap.size+1) (metK []):=by rw[hW2,← hs1];exact MapAt.new _
 have hs2:W2.heap.size=w.heap.size+2:=by rw[hW2];simp[hs1]
 obtain ⟨W3,hW3,hB3,g3⟩:∃ W,W=W2.alloc (.cells #[.pointer po,.slice none 0 0] 104)∧Blk W W2.heap.size 104 [.pointer po,.slice none 0 0]∧W2.grownBy W none:=zag W2 _ _
 rw[hs2] at hB3
 have hs3:W3.heap.size=w.heap.size+3:=by rw[hW3];simp[hs2]
 have G3:=tn (tn g1 g2) g3
 have hr3:W3.rangeAt w.heap.size 0 KB:=zal ((hB1.kept g2 (by simp)).kept g3 (by simp))
 obtain ⟨W4,hW4,hB4,g4⟩:=zag W3 33 KB
 rw[hs3] at hB4
 have hbs:(Instr.buildSlice 29 1 #[(0,.agg KB.toArray)]).run Tryz.prog W3 = .ok (.slice (some ⟨w.heap.size+3,0,none⟩) 1 1) W4:=by rw[hW4,hKB,← hs3];exact zfl tip htip W3
 have hW:W3=((w.alloc (.cells KB.toArray 33)).alloc (.map #[] 0)).alloc (.cells #[.pointer po,.slice none 0 0] 104):=by rw[hW3,hW2,hW1]
 have G4:=tn G3 g4
 have hst0:zx7 w (w.heap.size+1) (w.heap.size+2) po S [] (.slice none 0 0) [] 0 (some ⟨w.heap.size+3,0,none⟩) 1 [tip] W4 [] []:=by
  refine ⟨[],⟨G4,(hM2.none g3).none g4,⟨_,hB3.kept g4 (by simp),World.ownsRow_nil _ _ _ _,by simp,by omega⟩,fun i _ hi=>by simp at hi,by simp,World.ownsRow_nil _ _ _ _,by omega,h⟩,by simp,by simp,by simp,by simp,by simp,by simp,by simp,⟨(fun e=>by cases e),Nat.le_refl _,by unfold maxLen;decide,(fun ad e _=>by cases e;rfl),fun ad e i hi => ?_,fun x hx=>by rw[List.mem_singleton.1 hx];exact htip⟩,fun ad e=>by cases e;exact ⟨_,_,hB4⟩⟩
  cases e
  have:i=0:=by simpa using hi
  subst this
  rw[hKB] at hB4
  exact zal hB4
 have cm:=zhp W4 55 (.pointer (some ⟨w.heap.size+2,0,none⟩)) (w.heap.size+1) (some ⟨w.heap.size+3,0,none⟩) 1 [tip] [] [] _ (zlw w (w.heap.size+1) (w.heap.size+2) po S [] (.slice none 0 0) [] 0 (some ⟨w.heap.size+3,0,none⟩) 1 [tip] (by omega) (by simp)) hst0 (Nat.le_refl _) (by simp)
 rw[hkv]
 have hbw:=zqh po
 obtain ⟨HBW,HW,HIK,HBS,HS,HT⟩:=zh6 hbw hW hiK hbs h htip
 have HZ:=zhq
 obtain ⟨ZC,hZC⟩:∃ Z,Z=cmC zls:=⟨_,rfl⟩
 have hzv:∀ w,(zeroValue 109).run Tryz.prog w = .ok (.agg ZC.toArray) w:=fun w=>by rw[hZC];exact zhq w
 have hZl:ZC.length=34:=by rw[hZC];rfl
 have HZL:=hide hZl
 have hta:=zjs
 clear hKB hKl hkv hiK hW1 hW2 hW3 hW4 hB1 hB3 hB4 hM2 hs1 hs2 hs3 g1 g2 g3 g4 G3 G4 hst0 hW hbs hbw h htip HZ hZC hZl
 go_enter Tryz.func28,Tryz.ntmps28
 go_wp2_with (first
  | (refine za4 rfl 104 _ rfl #[.pointer po,.slice none 0 0] ?hbw ?_)
  | (rw[← uh HW];refine wpList_load_mid rfl 33 _ rfl w.heap.size 0 rfl KB _ hr3 Tryz.underlying33 rfl (uh HIK) ?_;clear hr3)
  | (refine zaq rfl 29 _ rfl (.agg KB.toArray) _ rfl (uh HBS) ?_))
 case hbw=>simpa using uh HBW
 refine cm.mono ?_
 rintro e w5 ⟨rfl,hS5⟩
 have HS5:=hide hS5
 clear cm hS5 hmk
 go_wp2_with fail
 go_loopg [5] (S.length+1) (fun k tv wr=>∃ T K H,Hid (LogW w wr (w.heap.size+1) (w.heap.size+2) po S T tv K H)∧Hid (LogI S tip T K H)∧S.length+1 - T.length≤k)
 case atStart =>
  obtain ⟨H,q1,q2,q3,q4,q5,q6,q7,q8,q9,q10⟩:=uh HS5
  have e1:zco [] [tip]=[tip]:=by simp[zco]
  simp only[List.nil_append,e1] at q1 q2
  refine ⟨[],[tip],H,q1,⟨by simp,fun x => ?_,q3,q4,Or.inl rfl⟩,by simp⟩
  rw[q2 x]
  simp
 case round =>
  obtain ⟨T,K,H,HL,HI,hk⟩:=hrel
  have HK:=hide hk
  clear hk
  obtain ⟨v,hv⟩:=(uh HL).wait
  have cl:=zkp wr w.heap.size (w.heap.size+2) po v H hv
  have hHl:H.length≤S.length:=by
   have h1:=zbn (uh HI).once (fun x hx=>zoe (((uh HI).heap x).1 hx).2.1)
   simpa[idsS] using h1
  have hSf:=(uh HS).ok.few
  rcases Nat.eq_zero_or_pos H.length with h0 | h0
  ·have:H=[]:=List.eq_nil_of_length_eq_zero h0
   subst this
   have hE:=(uh HI).ends
   have hO:=(uh HL).told
   have hG:=(uh HL).gb
   obtain ⟨HE,HO⟩:=zh2 hE hO
   rw[List.length_nil] at cl
   clear hE hO hHl hSf hv h0
   go_wp2_with (go_at_call 56;refine cl.mono ?_;rintro e w6 ⟨rfl,e6⟩;subst w6;clear cl)
   go_ret
   exact ⟨_,T,rfl,uh HE,uh HO,hG⟩
  ·have cp:=zv1 wr w.heap.size (w.heap.size+2) po v H hv h0 (uh HL).heap (by omega)
   obtain ⟨n,hn⟩:∃ n,n=H.length:=⟨_,rfl⟩
   rw[← hn] at cl h0
   have hpos:(0:Int)<(n:Int):=by omega
   have HHL:=hide (And.intro hHl hSf)
   clear hHl hSf hn
   go_wp2_with (go_at_call 56;refine cl.mono ?_;rintro e w6 ⟨rfl,e6⟩;subst w6;clear cl)
   refine cp.mono ?_
   rintro e w7 ⟨r,v7,G,rfl,hr,hmin,hW7,hp7,hh7,hb7,hv7⟩
   have hrid:r.id.length=32:=hv.ids r hr
   have hG7:w.grownBy w7 none:=zi2 (uh HL).gb hv hb7 (Nat.le_refl _)
   have hM7:MapAt w7 (w.heap.size+1) (metK K):=(uh HL).map.same (hb7.block _ (uh HL).map.lt (fun e=>(uh HL).map.blk hv.blk e) ((uh HL).map.own hv.own))
   have hid7:∀ b,IdB wr b→w7.heap[b]? = wr.heap[b]? := fun b hb=>zg2 hv hb7 hb
   have hO7:w7.ownsRow w.heap.size 33 32 u5 T.length (T.flatMap (·.map bv)):=by
    refine ⟨(uh HL).told.1,?_⟩
    rcases (uh HL).told.2 with h1 | ⟨g,cap,cur,hv2,hg,hh,hr⟩
    ·exact Or.inl h1
    ·exact Or.inr ⟨g,cap,cur,hv2,hg,by rw[hid7 g ⟨cur,_,hh⟩];exact hh,hr⟩
   have hP7:∀ q∈H,Ids w7 q.po q.pc q.pars∧∀ ad,q.po=some ad→IdB w7 ad.block∧u5.ownBlock≠some ad.block:=fun q hq =>
    ⟨((uh HL).pars q hq).1.same fun ad e=>hid7 _ (((uh HL).pars q hq).2 ad e).1,fun ad e=>⟨(((uh HL).pars q hq).2 ad e).1.same (hid7 _ (((uh HL).pars q hq).2 ad e).1),(((uh HL).pars q hq).2 ad e).2⟩⟩
   obtain ⟨RC,hRC⟩:∃ R,R=cmC r:=⟨_,rfl⟩
   have hRl:RC.length=34:=by rw[hRC];exact zc7 _ hrid
   have hRo:RC.toArray.all (·.oneCell')=true:=by rw[hRC];exact all_oneCell_toArray (zfs _)
   have hiR:(Tryz.prog.info? 109).map (·.size)=some RC.toArray.size:=by rw[show RC.toArray.size=34 by simpa using hRl];exact zfc
   have hZR:ZC.toArray.size=RC.toArray.size:=by have:=uh HZL;simp[this,hRl]
   obtain ⟨W8,hW8,hB8,g8⟩:=zbl w7 109 ZC.toArray RC
   have hBZ:Blk (w7.alloc (.cells ZC.toArray 109)) w7.heap.size 109 ZC:=Blk.new w7 109 ZC
   obtain ⟨IB,hIB⟩:∃ l,l=r.id.map bv:=⟨_,rfl⟩
   have hIl:IB.length=32:=by rw[hIB];simp[hrid]
   have hI1:∀ u∈IB,u.oneCell'=true:=by rw[hIB];exact za6 _
   have hiI:(Tryz.prog.info? 33).map (·.size)=some IB.length:=by rw[hIl];exact zat
   have hr8:W8.rangeAt w7.heap.size 0 IB:=by rw[hIB];rw[hRC] at hB8;exact zx4 (zal hB8)
   obtain ⟨W9,hW9,hB9,g9⟩:=zag W8 33 IB
   have hbs9:(Instr.buildSlice 29 1 #[(0,.agg IB.toArray)]).run Tryz.prog W8 = .ok (.slice (some ⟨W8.heap.size,0,none⟩) 1 1) W9:=by rw[hW9,hIB];exact zfl r.id hrid W8
   have hTl:T.length≤100000:=by
    have h1:T.Nodup∧∀ x∈T,x∈idsS S:=by
     rcases (uh HI).log with rfl | hP
     ·simp
     ·exact ⟨hP.nodup,fun x hx=>zoe (hP.com x hx)⟩
    have h2:=zbn h1.1 h1.2
    have h3:=uh HHL
    simp only[idsS,List.length_map] at h2
    omega
   have g79:=tn g8 g9
   have hO9:=zbg hO7 g79 (fun _ e=>by cases e)
   have hG9:=tn hG7 g79
   have hW9':=hW7.none g79
   have hM9:=hM7.none g79
   have hP9:∀ q∈H,Ids W9 q.po q.pc q.pars∧∀ ad,q.po=some ad→IdB W9 ad.block∧u5.ownBlock≠some ad.block:=fun q hq=>⟨(hP7 q hq).1.none g79,fun ad e=>⟨((hP7 q hq).2 ad e).1.none g79,((hP7 q hq).2 ad e).2⟩⟩
   have hB89:=hB8.kept g9 (by simp)
   have HIa:=hide (And.intro hr (And.intro hmin hp7))
   obtain ⟨HRC,HRL,HRO,HIR,HZR,HW8⟩:=zh6 hRC hRl hRo hiR hZR hW8
   obtain ⟨HBZ,HIB,HIL,HI1,HII,HBS9⟩:=zh6 hBZ hIB hIl hI1 hiI hbs9
   obtain ⟨HB9,HO9,HG9⟩:=zh3 hB9 hO9 hG9
   have HW9:=hide hW9'
   obtain ⟨HM9,HP9,HB89,HHP,HRID⟩:=zh5 hM9 hP9 hB89 hh7 hrid
   rw[← hRC]
   clear cp hr hmin hp7 hRC hRl hRo hiR hZR hW8 hBZ hIB hIl hI1 hiI hbs9 hB9 hO9 hG9 hW9' hM9 hP9 hB89 hh7 hW7 hb7 hv7 hG7 hM7 hid7 hO7 hP7 hB8 g8 g9 g79 hW9 hv hrid
   go_wp2_with (first
    | (have hBB:=uh HBZ;refine wpList_store_row rfl 109 _ _ rfl w7.heap.size RC.toArray rfl rfl _ _ hBB (uh HIR) (uh HZR) (uh HRO) ?_;clear hBB;rw[← uh HW8])
    | (refine wpList_load_mid rfl 33 _ rfl w7.heap.size 0 rfl IB _ hr8 Tryz.underlying33 rfl (uh HII) ?_;clear hr8)
    | (refine zaq rfl 29 _ rfl (.agg IB.toArray) _ rfl (uh HBS9) ?_)
    | (refine zc8 rfl _ _ rfl w.heap.size _ _ _ rfl (uh HO9) _ IB (uh HB9) (uh HIL) (uh HI1) rfl hTl (uh HG9).size ?_;intro gA cA wA hoA ggA hatA;have HA:=hide (And.intro hoA (And.intro ggA hatA));clear hoA ggA hatA;have hcA:wA.cell? ⟨w7.heap.size,33,none⟩=some (.slice r.po r.pars.length r.pc):=(by
      have hk:=(uh HB89).kept (uh HA).2.1 (zaj (uh HO9) (uh HB89) (by decide))
      rw[hk.cell,uh HRC]
      exact (zst r (uh HRID)).2)))
   obtain ⟨hoA,ggA,hatA⟩:=uh HA
   obtain ⟨hr,hmin,hp7⟩:=uh HIa
   have hGA:w.grownBy wA none:=zae (uh HG9) ggA (fun x e=>Or.inl ((uh HO9).lt x e).1)
   have hMA:MapAt wA (w.heap.size+1) (metK K):=(uh HM9).kept ggA ((uh HM9).own (uh HO9))
   have hWA:WaitAt wA w.heap.size (w.heap.size+2) po v7 G:=(uh HW9).kept ggA (zaj (uh HO9) (uh HW9).blk (by decide)) (by
    cases hvb:v7.ownBlock with
    | none=>exact Or.inl rfl
    | some b =>
     refine Or.inr fun e => ?_
     have hib:=zs4 (uh HO9) e.symm
     exact hib.own (uh HW9).own (by decide) hvb.symm)
   have hPA:∀ q∈H,Ids wA q.po q.pc q.pars∧∀ ad,q.po=some ad→IdB wA ad.block∧(Value.slice (some ⟨gA,0,none⟩) (T.length+1) cA).ownBlock≠some ad.block:=fun q hq=>by
    have hsame:∀ ad,q.po=some ad→wA.heap[ad.block]? = W9.heap[ad.block]? := fun ad e=>ggA.block _ ((uh HP9 q hq).2 ad e).1.lt (fun e2=>((uh HP9 q hq).2 ad e).2 e2.symm)
    refine ⟨(uh HP9 q hq).1.same hsame,fun ad e=>⟨((uh HP9 q hq).2 ad e).1.same (hsame ad e),fun e2 => ?_⟩⟩
    have e3:gA=ad.block:=by simpa[Value.ownBlock] using e2
    rcases hatA with h1 | h1
    ·exact ((uh HP9 q hq).2 ad e).2 (by rw[← e3];exact h1)
    ·have:=((uh HP9 q hq).2 ad e).1.lt
     omega
   have hrp:r.pars=prS S r.id:=((uh HI).com r hr).2
   have hsub:∀ q∈G,q∈H:=fun q hq=>hp7.mem_iff.1 (List.mem_append_left _ hq)
   obtain ⟨t1,t2,t3,t4,t5⟩:=(uh HI).told hr hmin hp7
   have hGl:G.length≤H.length:=by have:=hp7.length_eq;simp at this;omega
   have hstA:zx7 w (w.heap.size+1) (w.heap.size+2) po S (T++[r.id]) (.slice (some ⟨gA,0,none⟩) (T.length+1) cA) (G.map (·.id)) G.length r.po r.pc (prS S r.id) wA K []:=by
    refine ⟨G,⟨hGA,hMA,⟨v7,hWA⟩,uh HHP,fun q hq=>hPA q (hsub q hq),?_,by omega,uh HS⟩,by simp,t4,t5,fun x hx=>((t3 x).1 hx).1,by simp,by simp,by simp,by rw[← hrp];exact (hPA r hr).1,fun ad e=>((hPA r hr).2 ad e).1⟩
    have e1:(T++[r.id]).length=T.length+1:=by simp
    have e2:(T++[r.id]).flatMap (·.map bv)=T.flatMap (·.map bv)++IB:=by rw[uh HIB];simp
    rw[e1,e2]
    exact hoA
   have cm:=zhp wA 55 (.pointer (some ⟨w.heap.size+2,0,none⟩)) (w.heap.size+1) r.po r.pc (prS S r.id) K [] _ (zlw w (w.heap.size+1) (w.heap.size+2) po S (T++[r.id]) (.slice (some ⟨gA,0,none⟩) (T.length+1) cA) (G.map (·.id)) G.length r.po r.pc (prS S r.id) (by have:=uh HHL;omega) (Nat.le_trans (zdz S r.id).1 (by decide))) hstA (Nat.zero_le _) (Nat.le_trans (zdz S r.id).1 (by decide))
   have e9:(prS S r.id).length=r.pars.length:=by rw[hrp]
   rw[e9] at cm
   have hTn:T.length<S.length+1:=by
    have h2:=zbn t1.nodup (fun x hx=>zoe (t1.com x hx))
    simp only[idsS,List.length_map,List.length_append,List.length_cons,List.length_nil] at h2
    omega
   have HTN:=hide hTn
   obtain ⟨tl,htl⟩:∃ n,n=T.length:=⟨_,rfl⟩
   have HTLN:=hide htl
   rw[← htl]
   clear hoA ggA hatA hr hmin hp7 hGA hMA hWA hPA hrp hsub t1 t2 t3 t4 t5 hGl hstA e9 hTn htl
   refine cm.mono ?_
   rintro e wB ⟨rfl,hSB⟩
   have HSB:=hide hSB
   clear cm hSB
   go_wp2_with fail
   go_roundg (S.length+1 - (T++[r.id]).length)
   case measure =>
    have h1:=uh HK
    have h2:=uh HTN
    simp only[List.length_append,List.length_cons,List.length_nil]
    omega
   case rel =>
    obtain ⟨hr,hmin,hp7⟩:=uh HIa
    obtain ⟨E,q1,q2,q3,q4,q5,q6,q7,q8,q9,q10⟩:=uh HSB
    rw[List.nil_append] at q2
    rw[uh HTLN]
    exact ⟨_,_,E,q1,(uh HI).next hr hmin hp7 q2 q3 q4,Nat.le_refl _⟩
theorem zv6 {S:List ObE} {x:List UInt8} (h:(comS S x).isSome=true):∃ e,lkS S x=some e∧e.k=3:=by
 unfold comS at h
 cases hl:lkS S x with
 | none=>rw[hl] at h;simp[comO] at h
 | some e =>
  refine ⟨e,rfl,?_⟩
  rw[hl] at h
  by_cases hk:e.k=3
  ·exact hk
  ·exfalso
   simp[comO,telC,hk] at h
def HOf (S H:List ObE) (L:List (List UInt8)):Prop:=∀ e,e∈H↔e∈S∧e.id∈L
theorem HOf.nil (S:List ObE):HOf S [] []:=fun e=>by simp
theorem HOf.put {S H:List ObE} {L:List (List UInt8)} (hS:SetS S) (hH:SetS H) (h:HOf S H L) {x:List UInt8} {e:ObE} (he:lkS S x=some e):HOf S (putS H e) (L++[x]):=by
 obtain ⟨h1,h2⟩:=ze1 he
 intro y
 rw[zdw hH.ris,h y]
 constructor
 ·rintro (rfl | ⟨⟨a,b⟩,_⟩)
  ·exact ⟨h1,by simp[h2]⟩
  ·exact ⟨a,List.mem_append_left _ b⟩
 ·rintro ⟨a,b⟩
  by_cases hy:y.id=e.id
  ·left
   have q1:=zgf hS.ris.nodup a
   rw[hy,h2,he] at q1
   injection q1 with q1
   exact q1.symm
  ·right
   refine ⟨⟨a,?_⟩,hy⟩
   rcases List.mem_append.1 b with b | b
   ·exact b
   ·exact absurd ((List.mem_singleton.1 b).trans h2.symm) hy
theorem HOf.few {S H:List ObE} {L:List (List UInt8)} (hH:SetS H) (h:HOf S H L):H.length≤S.length:=by
 have:=zbn (K:=idsS H) (U:=idsS S) hH.ris.nodup (fun x hx=>by
  obtain ⟨e,he,rfl⟩:=List.mem_map.1 hx
  exact List.mem_map.2 ⟨e,((h e).1 he).1,rfl⟩)
 simpa[idsS] using this
theorem HOf.not {S H:List ObE} {L:List (List UInt8)} (h:HOf S H L) {x:List UInt8} (hx:x∉L):hasS H x=false:=by
 cases hh:hasS H x with
 | false=>rfl
 | true =>
  obtain ⟨e,he,rfl⟩:=List.mem_map.1 ((zn5 H x).1 hh)
  exact absurd ((h e).1 he).2 hx
structure Mrg (A B:List (List UInt8)) (n i:Nat):Prop where
 le:n≤A.length
 rest:∀ x∈A.drop n,x∈B.drop i
theorem Mrg.start {A B:List (List UInt8)} (h:∀ x∈A,x∈B):Mrg A B 0 0:=⟨Nat.zero_le _,by simpa using h⟩
theorem Mrg.hit {A B:List (List UInt8)} {n i:Nat} (h:Mrg A B n i) (hA:Ris A) (hn:n<A.length) (hi:i<B.length) (he:B[i]=A[n]):Mrg A B (n+1) (i+1):=by
 refine ⟨hn,fun x hx => ?_⟩
 have hr:Ris (A.drop n):=List.Pairwise.sublist (List.drop_sublist _ _) hA
 rw[List.drop_eq_getElem_cons hn] at hr
 have hlt:=hr.cons.1 x hx
 have:=h.rest x (by rw[List.drop_eq_getElem_cons hn];exact List.mem_cons_of_mem _ hx)
 rw[List.drop_eq_getElem_cons hi,he] at this
 rcases List.mem_cons.1 this with rfl | h1
 ·exact absurd rfl (zfo hlt)
 ·exact h1
theorem Mrg.done {A B:List (List UInt8)} {n i:Nat} (h:Mrg A B n i) (hi:B.length≤i):n=A.length:=by
 have h1:=h.le
 rcases Nat.lt_or_ge n A.length with h2 | h2
 ·have:=h.rest A[n] (by rw[List.drop_eq_getElem_cons h2];exact List.mem_cons_self)
  rw[List.drop_of_length_le hi] at this
  cases this
 ·omega
def oneI:List UInt8:=shaL (putL 1 [97])
def oneC:ChgL:=⟨oneI,[],1,[],[]⟩
def oneD:List UInt8:=chgB oneC
def oneT:List UInt8:=shaL (putL 3 oneD)
theorem zgj:oneI.length=32:=zbc _
theorem zdi:oneT.length=32:=zbc _
theorem zx8:(oneI == oneT)=false:=by kernel_rfl
theorem zs7:oneI≠oneT:=beq_eq_false_iff_ne.1 zx8
theorem zv7:zau 1 [97]=0:=by decide
theorem zx9:oneC.Ok:=⟨zgj,by simp[oneC],by decide,by decide,by decide⟩
theorem zog:oneD.length=49:=by
 unfold oneD chgB oneC
 simp[zgj,zbs,layS]
theorem zoh:zcf oneC=(0,oneD):=by
 unfold zcf
 rw[if_neg (by simp[oneC])]
 have h1:zdv oneC.pars oneC.pars.length=true:=by decide
 rw[if_pos h1]
 unfold fitB
 rw[if_neg (by show ¬ 16384<oneD.length;rw[zog];omega)]
 rfl
theorem zkv:zbh oneD=oneC:=zq6 oneC (by simp[oneC]) zx9
theorem zs8:telC 3 oneD=(0,oneC):=by
 unfold telC
 rw[if_pos rfl,zkv,if_pos zoh]
theorem zlx:zau 3 oneD=0:=by
 unfold zau
 rw[if_neg (by omega),if_neg (by rw[zog];omega),if_neg (by omega),if_pos rfl]
 unfold zfk
 rw[zkv,if_pos zoh]
 rfl
theorem zs9:zbm 3 oneD=[oneI]:=by
 unfold zbm
 rw[if_neg (by rw[zlx];simp),if_neg (by omega),if_pos rfl]
 unfold zfk
 rw[zkv,if_pos zoh]
 rfl
def zqi:List ObE:=putS [] ⟨oneI,1,[97]⟩
def oneS:List ObE:=putS zqi ⟨oneT,3,oneD⟩
theorem zta:Ris (idsS []):=List.Pairwise.nil
theorem zly:Ris (idsS zqi):=zkk zta _
theorem zkw:lkS oneS oneI=some ⟨oneI,1,[97]⟩:=by
 unfold oneS
 rw[zm0 zly,if_neg zs7]
 unfold zqi
 rw[zm0 zta,if_pos rfl]
theorem zgk:lkS oneS oneT=some ⟨oneT,3,oneD⟩:=by
 unfold oneS
 rw[zm0 zly,if_pos rfl]
theorem zv8:(idsS oneS).length=2:=by
 unfold oneS zqi idsS
 simp only[putS,List.length_map]
 have h:=zs7
 simp only[if_neg h]
 split
 ·rfl
 ·rfl
theorem ztb:nxS oneS oneT=[oneI]:=(congrArg nxO zgk).trans zs9
theorem zy9:zbm 1 [97]=[]:=by decide
theorem zya:nxS oneS oneI=[]:=(congrArg nxO zkw).trans zy9
theorem zv9 (e:ObE):prO (some e)=(telC e.k e.d).2.pars:=rfl
theorem ztc (e:ObE):comO (some e)=if (telC e.k e.d).1=0 then some (telC e.k e.d).2.time else none:=rfl
theorem zi4:oneC.pars=[]:=rfl
theorem ztd:oneC.time=1:=rfl
theorem zyb:prS oneS oneT=[]:=by
 unfold prS
 rw[zgk,zv9]
 simp only
 rw[zs8]
 exact zi4
theorem zte (x:List UInt8):Rch (nxS oneS) [oneT] x↔x=oneT∨x=oneI:=by
 constructor
 ·intro h
  induction h with
  | root hm=>left;simpa using hm
  | next _ hm ih =>
   rcases ih with rfl | rfl
   ·rw[ztb] at hm;right;simpa using hm
   ·rw[zya] at hm;simp at hm
 ·rintro (rfl | rfl)
  ·exact Rch.root (List.mem_singleton.2 rfl)
  ·exact Rch.next (x:=oneT) (Rch.root (List.mem_singleton.2 rfl)) (by rw[ztb];simp)
theorem ztf {T:List (List UInt8)} (hr:Ris T) (h:∀ x,x∈T↔Rch (nxS oneS) [oneT] x∧hasS oneS x=true):T.length=2:=by
 have hp:T.Perm [oneT,oneI]:=(List.perm_ext_iff_of_nodup hr.nodup (by simp[Ne.symm zs7])).2 fun x=>by
  rw[h x,zte]
  constructor
  ·intro hx;rcases hx.1 with rfl | rfl <;> simp
  ·intro hx
   have hx' : x=oneT∨x=oneI:=by simpa using hx
   refine ⟨hx',?_⟩
   unfold hasS
   rcases hx' with rfl | rfl
   ·rw[zgk];rfl
   ·rw[zkw];rfl
 rw[hp.length_eq];rfl
theorem zna {M:List (List UInt8)} (h:∀ x,x∈M↔Rch (nxS oneS) [oneT] x∧hasS oneS x=false):M=[]:=by
 cases M with
 | nil=>rfl
 | cons y M =>
  have:=(h y).1 (by simp)
  have h2:=this.2
  unfold hasS at h2
  rcases (zte y).1 this.1 with rfl | rfl
  ·rw[zgk] at h2;cases h2
  ·rw[zkw] at h2;cases h2
theorem zyc:comS oneS oneT=some 1:=by
 unfold comS
 rw[zgk,ztc]
 simp only
 rw[zs8]
 simp only[if_true,ztd]
theorem zyd {T:List (List UInt8)} (h:zi1 oneS oneT T):T=[oneT]:=by
 refine h.one (Or.inr ⟨.one (by rw[zyc];rfl),fun x hx => ?_⟩)
 obtain ⟨c,hc,hp⟩:=hx.1
 rw[List.mem_singleton.1 hc,zyb] at hp
 simp at hp
end Go.Proofs.YthhnfloohbdaiaaGreatDoor
