/- Lemmas. -/
import Derived.Test.YthhnfloohbdaiaaGreatDoorRGRchM
import Derived.Deep.LoopGhost
namespace Go.Proofs.YthhnfloohbdaiaaGreatDoor
open Go.RowKit
set_option maxRecDepth 100000
theorem zgd (a:CmR):cmLt a a=false:=by unfold cmLt;rw[if_pos rfl];exact zfx _
theorem zgy (a b c:CmR) (h1:cmLt a b=true) (h2:cmLt b c=true):cmLt a c=true:=by
 unfold cmLt at *
 by_cases e1:a.time=b.time
 ·by_cases e2:b.time=c.time
  ·rw[if_pos e1] at h1
   rw[if_pos e2] at h2
   rw[if_pos (e1.trans e2)]
   exact zc4 _ _ _ h1 h2
  ·rw[if_neg e2] at h2
   rw[if_neg (by omega)]
   simp at h2 ⊢
   omega
 ·rw[if_neg e1] at h1
  by_cases e2:b.time=c.time
  ·rw[if_neg (by omega)]
   simp at h1 ⊢
   omega
  ·rw[if_neg e2] at h2
   simp at h1 h2
   rw[if_neg (by omega)]
   simp
   omega
theorem zgz (a b:CmR) (h:cmLt a b=true):cmLt b a=false:=by
 cases h2:cmLt b a with
 | false=>rfl
 | true =>
  have:=zgy _ _ _ h h2
  rw[zgd] at this
  cases this
theorem zjp (a b:CmR) (h1:cmLt a b=false) (h2:cmLt b a=false):a.time=b.time∧a.id=b.id:=by
 unfold cmLt at *
 by_cases e1:a.time=b.time
 ·rw[if_pos e1] at h1
  rw[if_pos e1.symm] at h2
  exact ⟨e1,zc3 _ _ h1 h2⟩
 ·rw[if_neg e1] at h1
  rw[if_neg (fun e=>e1 e.symm)] at h2
  simp at h1 h2
  omega
theorem zp8 (a b c:CmR) (h:a.time=b.time∧a.id=b.id):cmLt a c=cmLt b c∧cmLt c a=cmLt c b:=by
 unfold cmLt
 rw[h.1,h.2]
 exact ⟨rfl,rfl⟩
theorem zdu (a b c:CmR) (h1:cmLt a b=false) (h2:cmLt b c=false):cmLt a c=false:=by
 cases h3:cmLt a c with
 | false=>rfl
 | true =>
  cases h4:cmLt b a with
  | true =>
   have:=zgy _ _ _ h4 h3
   rw[h2] at this
   cases this
  | false =>
   have he:=zjp a b h1 h4
   rw[(zp8 a b c he).1,h2] at h3
   cases h3
def atH (H:List CmR) (i:Nat):CmR:=H.getD i default
theorem zec {H:List CmR} {i:Nat} (h:i<H.length):atH H i=H[i]:=by unfold atH;rw[List.getD_eq_getElem?_getD,List.getElem?_eq_getElem h];rfl
theorem zd1 {H:List CmR} {i j:Nat} (hi:i<H.length) (hj:j<H.length) (k:Nat):atH (zdf H i j hi hj) k=if k=j then atH H i else if k=i then atH H j else atH H k:=by
 unfold zdf atH
 rw[List.getD_eq_getElem?_getD,List.getElem?_set,List.getElem?_set,List.length_set]
 by_cases h1:k=j
 ·subst h1
  rw[if_pos rfl,if_pos hj,if_pos rfl,List.getD_eq_getElem?_getD,List.getElem?_eq_getElem hi]
 ·rw[if_neg (fun e=>h1 e.symm),if_neg h1]
  by_cases h2:k=i
  ·subst h2
   rw[if_pos rfl,if_pos hi,if_pos rfl,List.getD_eq_getElem?_getD,List.getElem?_eq_getElem hj]
  ·rw[if_neg (fun e=>h2 e.symm),if_neg h2,List.getD_eq_getElem?_getD]
theorem zsv {H:List CmR} {i j:Nat} (hi:i<H.length) (hj:j<H.length):(zdf H i j hi hj).length=H.length:=by simp[zdf]
theorem zee {H:List CmR} {i j:Nat} (hi:i<H.length) (hj:j<H.length):(zdf H i j hi hj).Perm H:=by
 have h:=Array.swap_perm (xs:=H.toArray) (i:=i) (j:=j) (by simpa using hi) (by simpa using hj)
 have h2:=h.toList
 simpa[zdf] using h2
def zcx (H:List CmR) (n:Nat):Prop:=∀ i,0<i→i<n→cmLt (atH H i) (atH H ((i - 1) / 2))=false
def zi8 (H:List CmR) (n j:Nat):Prop:=(∀ i,0<i→i<n→i≠j→cmLt (atH H i) (atH H ((i - 1) / 2))=false)∧(0<j→∀ c,0<c→c<n→(c - 1) / 2=j→cmLt (atH H c) (atH H ((j - 1) / 2))=false)
def zem (H:List CmR) (n j:Nat):Prop:=(∀ i,0<i→i<n→(i - 1) / 2≠j→cmLt (atH H i) (atH H ((i - 1) / 2))=false)∧(0<j→∀ c,0<c→c<n→(c - 1) / 2=j→cmLt (atH H c) (atH H ((j - 1) / 2))=false)
theorem zi8.end0 {H:List CmR} {n:Nat} (h:zi8 H n 0):zcx H n:=fun i h1 h2=>h.1 i h1 h2 (by omega)
theorem zi8.end {H:List CmR} {n j:Nat} (h:zi8 H n j) (hj:cmLt (atH H j) (atH H ((j - 1) / 2))=false):zcx H n:=fun i h1 h2=>by
 by_cases e:i=j
 ·subst e;exact hj
 ·exact h.1 i h1 h2 e
theorem zi8.step {H:List CmR} {n j p:Nat} (hp:p=(j - 1) / 2) (h:zi8 H n j) (h0:0<j) (hjn:j<n) (hi:p<H.length) (hj:j<H.length) (hlt:cmLt (atH H j) (atH H p)=true):zi8 (zdf H p j hi hj) n p:=by
 have hpj:p<j:=by omega
 have hE:∀ k,atH (zdf H p j hi hj) k=if k=j then atH H p else if k=p then atH H j else atH H k:=fun k=>zd1 hi hj k
 constructor
 ·intro i h1 h2 h3
  rw[hE,hE]
  by_cases e1:i=j
  ·subst e1
   rw[if_pos rfl,← hp,if_neg (by omega),if_pos rfl]
   exact zgz _ _ hlt
  ·rw[if_neg e1,if_neg h3]
   by_cases e2:(i - 1) / 2=j
   ·rw[if_pos e2]
    have:=h.2 h0 i h1 h2 e2
    rwa [← hp] at this
   ·rw[if_neg e2]
    by_cases e3:(i - 1) / 2=p
    ·rw[if_pos e3]
     have h5:=h.1 i h1 h2 e1
     rw[e3] at h5
     cases h6:cmLt (atH H i) (atH H j) with
     | false=>rfl
     | true =>
      have:=zgy _ _ _ h6 hlt
      rw[h5] at this
      cases this
    ·rw[if_neg e3]
     exact h.1 i h1 h2 e1
 ·intro hp0 c h1 h2 h3
  rw[hE,hE]
  have e4:(p - 1) / 2≠j:=by omega
  have e5:(p - 1) / 2≠p:=by omega
  rw[if_neg e4,if_neg e5]
  have hpp:=h.1 p hp0 (by omega) (by omega)
  by_cases e1:c=j
  ·rw[if_pos e1];exact hpp
  ·rw[if_neg e1,if_neg (by omega)]
   have h5:=h.1 c h1 h2 e1
   rw[h3] at h5
   exact zdu _ _ _ h5 hpp
theorem zem.end {H:List CmR} {n j:Nat} (h:zem H n j) (hj:∀ c,0<c→c<n→(c - 1) / 2=j→cmLt (atH H c) (atH H j)=false):zcx H n:=fun i h1 h2=>by
 by_cases e:(i - 1) / 2=j
 ·rw[e];exact hj i h1 h2 e
 ·exact h.1 i h1 h2 e
theorem zem.step {H:List CmR} {n i j:Nat} (h:zem H n i) (hj0:0<j) (hjn:j<n) (hpar:(j - 1) / 2=i) (hi:i<H.length) (hj:j<H.length) (hlt:cmLt (atH H j) (atH H i)=true) (hsib:∀ c,0<c→c<n→(c - 1) / 2=i→cmLt (atH H c) (atH H j)=false):zem (zdf H i j hi hj) n j:=by
 have hij:i<j:=by omega
 have hE:∀ k,atH (zdf H i j hi hj) k=if k=j then atH H i else if k=i then atH H j else atH H k:=fun k=>zd1 hi hj k
 constructor
 ·intro k h1 h2 h3
  rw[hE,hE,if_neg h3]
  by_cases e1:(k - 1) / 2=i
  ·rw[if_pos e1]
   by_cases e2:k=j
   ·rw[if_pos e2];exact zgz _ _ hlt
   ·rw[if_neg e2,if_neg (by omega)]
    exact hsib k h1 h2 e1
  ·rw[if_neg e1,if_neg (fun e=>e1 (by rw[e];exact hpar))]
   by_cases e2:k=i
   ·rw[if_pos e2,e2]
    exact h.2 (by omega) j hj0 hjn hpar
   ·rw[if_neg e2]
    exact h.1 k h1 h2 e1
 ·intro _ c h1 h2 h3
  rw[hE,hE,hpar]
  rw[if_neg (by omega),if_neg (by omega),if_neg (by omega),if_pos rfl]
  have:=h.1 c h1 h2 (by omega)
  rwa [h3] at this
theorem zcx.top {H:List CmR} {n:Nat} (h:zcx H n):∀ k,k<n→cmLt (atH H k) (atH H 0)=false:=by
 intro k
 induction k using Nat.strongRecOn with
 | _ k ih =>
  intro hk
  by_cases h0:k=0
  ·subst h0;exact zgd _
  ·exact zdu _ _ _ (h k (by omega) hk) (ih ((k - 1) / 2) (by omega) (by omega))
theorem zcx.less {H G:List CmR} {n:Nat} (h:zcx H n) (he:∀ i,i<n→atH G i=atH H i):zcx G n:=fun i h1 h2=>by
 rw[he i h2,he _ (by omega)]
 exact h i h1 h2
theorem mLen (v:Value) (w:World):(Go.method 408 101 v "Len").run Tryz.prog w = .ok (56,v) w:=by kernel_rfl
theorem zyp (v:Value) (w:World):(Go.method 408 101 v "Less").run Tryz.prog w = .ok (198,v) w:=by kernel_rfl
theorem zxn (v:Value) (w:World):(Go.method 408 101 v "Swap").run Tryz.prog w = .ok (201,v) w:=by kernel_rfl
theorem zy7 (v:Value) (w:World):(Go.method 408 101 v "Push").run Tryz.prog w = .ok (200,v) w:=by kernel_rfl
theorem mPop (v:Value) (w:World):(Go.method 408 101 v "Pop").run Tryz.prog w = .ok (199,v) w:=by kernel_rfl
theorem ziw {w a b:World} {r:Option Nat} (h:w.grownBy a r) (k:a.grownBy b r):w.grownBy b r:=zac h k (fun _ e=>Or.inr e)
set_option maxHeartbeats 4000000 in
theorem zyq (w:World) (base wb:Nat) (sp:Option Addr) (v:Value) (H:List CmR) (h:WaitAt w base wb sp v H) (j:Nat) (hj:j<H.length) (hU:zi8 H H.length j) (hl:H.length≤100000) :
  Calls Tryz.prog 106 #[.iface 101 (.pointer (some ⟨wb,0,none⟩)),.int .i64 (j:Int)] w fun e w'=>e = .returned (.tuple #[])∧∃ H',H'.Perm H∧zcx H' H.length∧WaitAt w' base wb sp v H'∧w.grownBy w' v.ownBlock:=by
 have m1:=zyp
 have m2:=zxn
 obtain ⟨n,hn⟩:∃ n,n=H.length:=⟨_,rfl⟩
 rw[← hn] at hj hU hl ⊢
 obtain ⟨HN,HH,HU⟩:=zh3 hn h hU
 clear hn h hU
 go_enter Tryz.func106,Tryz.ntmps106
 go_wp2_with fail
 go_loopg [1] j (fun k sj wr=>∃ (i:Nat) (G:List CmR),sj = .int .i64 i∧i<n∧Hid (WaitAt wr base wb sp v G∧zi8 G n i∧G.Perm H∧w.grownBy wr v.ownBlock)∧i≤k)
 case atStart=>exact ⟨j,H,rfl,hj,⟨uh HH,uh HU,List.Perm.refl _,zaa _ _⟩,Nat.le_refl _⟩
 case round =>
  obtain ⟨i,G,rfl,hi,HG,hk⟩:=hrel
  have HK:=hide hk
  clear hk
  have hGl:G.length=n:=by rw[(uh HG).2.2.1.length_eq,uh HN]
  rcases Nat.eq_zero_or_pos i with rfl | hi0
  ·have hE:=(uh HG).2.1.end0
   have HE:=hide hE
   clear hE hGl
   go_upto_region 1 with fail
   refine zbt fun O hO => ?_
   refine zad (by rw[hO];kernel_rfl) (.int .i64 0) (fun K9 hK9=>by go_simp;exact hK9) ?_
   (try simp only[pq])
   refine zad (by rw[hO];kernel_rfl) (.int .i64 0) (fun K9 hK9=>by go_simp;exact hK9) ?_
   (try simp only[pq])
   refine zad (by rw[hO];kernel_rfl) (.bool true) (fun K9 hK9=>by go_simp;exact hK9) ?_
   (try simp only[pq])
   refine zad (by rw[hO];kernel_rfl) (.bool true) (fun K9 hK9=>by go_simp;exact hK9) ?_
   (try simp only[pq])
   refine zam (by rw[hO];kernel_rfl) ?_
   (try simp only[pq])
   refine zam (by rw[hO];kernel_rfl) ?_
   (try simp only[pq])
   refine zam (by rw[hO];kernel_rfl) ?_
   (try simp only[pq])
   refine zam (by rw[hO];kernel_rfl) ?_
   (try simp only[pq])
   refine zam (by rw[hO];kernel_rfl) ?_
   (try simp only[pq])
   refine zad (by rw[hO];kernel_rfl) (.bool true) (fun K9 hK9=>by go_simp;exact hK9) ?_
   (try simp only[pq])
   go_wp2
   go_end0
   obtain ⟨a1,a2,a3,a4⟩:=uh HG
   exact ⟨rfl,G,a3,uh HE,a1,a4⟩
  ·obtain ⟨q,rfl⟩:∃ q,i=q+1:=⟨i - 1,by omega⟩
   obtain ⟨p,hp⟩:∃ p,p=q / 2:=⟨_,rfl⟩
   have hpq:p≤q:=by omega
   have hp2:p=(q+1 - 1) / 2:=by rw[hp];rfl
   have hw1:IntKind.i64.wrap (((q+1:Nat):Int) - 1)=(q:Int):=by rw[IntKind.wrap_i64];omega
   have hw2:((q:Int)+1) - 1=(q:Int):=by omega
   have hd:Int.tdiv (q:Int) 2=(p:Int):=by rw[hp,Int.tdiv_eq_ediv_of_nonneg (by omega)];omega
   have hd2:(q:Int) / 2=(p:Int):=by rw[hp];omega
   have hne:¬ ((p:Int)=(q:Int)+1):=by omega
   have hneb:((p:Int) == (q:Int)+1)=false:=by simpa using hne
   have ce:(((q+1:Nat)):Int)=(q:Int)+1:=by omega
   have hiG:q+1<G.length:=by omega
   have hpG:p<G.length:=by omega
   have cl:=ze0 wr base wb sp v G (uh HG).1 (q+1) p hiG hpG (by omega)
   obtain ⟨y,hy⟩:∃ y,y=cmLt G[q+1] G[p]:=⟨_,rfl⟩
   rw[← hy] at cl
   have hy2:y=cmLt (atH G (q+1)) (atH G p):=by rw[hy,zec hiG,zec hpG]
   obtain ⟨HY,HP,HGL,HHG,HHP⟩:=zh5 hy2 hp2 hGl hiG hpG
   rw[ce] at cl ⊢
   clear hp hp2 hy hy2 hGl hiG hpG ce
   cases y with
   | false =>
    go_wp2_with (go_at_call 198;refine cl.mono ?_;rintro e w2 ⟨rfl,g2⟩;clear cl)
    go_end0
    obtain ⟨a1,a2,a3,a4⟩:=uh HG
    exact ⟨rfl,G,a3,a2.end (by rw[← uh HP];exact (uh HY).symm),a1.none g2,tn a4 g2⟩
   | true =>
    have cs:∀ w2,wr.grownBy w2 none→Calls Tryz.prog 201 #[.pointer (some ⟨wb,0,none⟩),.int .i64 (p:Int),.int .i64 ((q:Int)+1)] w2 fun e w'=>e = .returned (.tuple #[])∧WaitAt w' base wb sp v (zdf G p (q+1) (uh HHP) (uh HHG))∧w2.grownBy w' v.ownBlock:=fun w2 g2 =>
     ze1 w2 base wb sp v G ((uh HG).1.none g2) p (q+1) (uh HHP) (uh HHG) (by have:=uh HGL;omega)
    have HCS:=hide cs
    clear cs
    go_wp2_with (first
     | (go_at_call 198;refine cl.mono ?_;rintro e w2 ⟨rfl,g2⟩;clear cl;have cs:=uh HCS w2 g2)
     | (go_at_call 201;refine cs.mono ?_;rintro e w3 ⟨rfl,hW3,g3⟩;clear cs;have HW3:=hide hW3;clear hW3))
    go_roundg p
    case measure=>have:=uh HK;omega
    case rel =>
     obtain ⟨a1,a2,a3,a4⟩:=uh HG
     refine ⟨p,zdf G p (q+1) (uh HHP) (uh HHG),rfl,by omega,⟨uh HW3,a2.step (uh HP) (by omega) hi (uh HHP) (uh HHG) (uh HY).symm,(zee _ _).trans a3,ziw (tn a4 g2) g3⟩,Nat.le_refl _⟩
set_option maxHeartbeats 8000000 in
theorem zvm (w:World) (base wb:Nat) (sp:Option Addr) (v:Value) (H:List CmR) (h:WaitAt w base wb sp v H) (n:Nat) (hn:n≤H.length) (hD:zem H n 0) (hl:H.length≤100000) :
  Calls Tryz.prog 83 #[.iface 101 (.pointer (some ⟨wb,0,none⟩)),.int .i64 0,.int .i64 (n:Int)] w fun e w'=>∃ y,e = .returned y∧∃ H',H'.Perm H∧zcx H' n∧WaitAt w' base wb sp v H'∧(∀ k,n≤k→atH H' k=atH H k)∧w.grownBy w' v.ownBlock:=by
 have m1:=zyp
 have m2:=zxn
 obtain ⟨N,hN⟩:∃ N,N=H.length:=⟨_,rfl⟩
 rw[← hN] at hn hl
 obtain ⟨HN,HH,HD⟩:=zh3 hN h hD
 clear hN h hD
 go_enter Tryz.func83,Tryz.ntmps83
 go_wp2_with fail
 go_loopg [7] n (fun k si wr=>∃ (i:Nat) (G:List CmR),si = .int .i64 i∧i≤n∧Hid (WaitAt wr base wb sp v G∧zem G n i∧G.Perm H∧w.grownBy wr v.ownBlock)∧Hid (∀ k,n≤k→atH G k=atH H k)∧n - i≤k)
 case atStart=>exact ⟨0,H,rfl,Nat.zero_le _,⟨uh HH,uh HD,List.Perm.refl _,zaa _ _⟩,fun _ _=>rfl,by omega⟩
 case round =>
  obtain ⟨i,G,rfl,hi,HG,HKP,hk⟩:=hrel
  have HK:=hide hk
  clear hk
  have hGl:G.length=N:=by rw[(uh HG).2.2.1.length_eq,uh HN]
  have HGL:=hide hGl
  obtain ⟨j1,hj1⟩:∃ j,j=2*i+1:=⟨_,rfl⟩
  obtain ⟨j2,hj2⟩:∃ j,j=j1+1:=⟨_,rfl⟩
  have e1:2*(i:Int)+1=(j1:Int):=by omega
  have e2:(j1:Int)+1=(j2:Int):=by omega
  have b1:j1≤300000:=by omega
  have hnn:¬ ((j1:Int)<0):=by omega
  obtain ⟨HJ1,HJ2⟩:=zh2 hj1 hj2
  by_cases hA:j1<n
  ·have hA1:decide (n≤j1)=false:=by simp;omega
   have hA2:¬ n≤j1:=by omega
   by_cases hB:j2<n
   ·have hJ1G:j1<G.length:=by omega
    have hJ2G:j2<G.length:=by omega
    have c6:=ze0 wr base wb sp v G (uh HG).1 j2 j1 hJ2G hJ1G (by omega)
    obtain ⟨y6,hy6⟩:∃ y,y=cmLt G[j2] G[j1]:=⟨_,rfl⟩
    rw[← hy6] at c6
    have hz6:y6=cmLt (atH G j2) (atH G j1):=by rw[hy6,zec hJ2G,zec hJ1G]
    have HZ6:=hide hz6
    clear hGl hj1 hj2 hJ1G hJ2G hy6 hz6
    cases y6 with
    | false =>
     go_upto_region 8 with (go_at_call 198;refine c6.mono ?_;rintro e w6 ⟨rfl,g6⟩;clear c6)
     have hJG:j1<G.length:=by have:=uh HGL;omega
     have hIG:i<G.length:=by have:=uh HGL;have:=uh HJ1;omega
     have hJ0:0<j1:=by have:=uh HJ1;omega
     have hJp:(j1 - 1) / 2=i:=by have:=uh HJ1;have:=uh HJ2;omega
     have c8:=ze0 w6 base wb sp v G ((uh HG).1.none g6) j1 i hJG hIG (by have:=uh HGL;omega)
     obtain ⟨y8,hy8⟩:∃ y,y=cmLt G[j1] G[i]:=⟨_,rfl⟩
     rw[← hy8] at c8
     have hz8:y8=cmLt (atH G j1) (atH G i):=by rw[hy8,zec hJG,zec hIG]
     have hsib:∀ c,0<c→c<n→(c - 1) / 2=i→cmLt (atH G c) (atH G j1)=false:=fun c h1 h2 h3=>by
          have h4:=uh HJ1
          have h5:=uh HJ2
          rcases (by omega:c=j1∨c=j2) with rfl | rfl
          ·exact zgd _
          ·exact (uh HZ6).symm
     obtain ⟨HZ8,HSB,HJG,HIG,HJ0,HJP⟩:=zh6 hz8 hsib hJG hIG hJ0 hJp
     have HGW:=hide g6
     clear hy8 hz8 hsib hJG hIG hJ0 hJp
     cases y8 with
     | false =>
      go_wp2_with (go_at_call 198;refine c8.mono ?_;rintro e w8 ⟨rfl,g8⟩;clear c8)
      go_ret
      obtain ⟨a1,a2,a3,a4⟩:=uh HG
      have gA:=tn (uh HGW) g8
      refine ⟨_,rfl,G,a3,a2.end (fun c h1 h2 h3=>zdu _ _ _ (uh HSB c h1 h2 h3) (uh HZ8).symm),a1.none gA,fun k hk=>uh HKP k hk,tn a4 gA⟩
     | true =>
      have cs:∀ w8,w6.grownBy w8 none→Calls Tryz.prog 201 #[.pointer (some ⟨wb,0,none⟩),.int .i64 (i:Int),.int .i64 (j1:Int)] w8 fun e w'=>e = .returned (.tuple #[])∧WaitAt w' base wb sp v (zdf G i j1 (uh HIG) (uh HJG))∧w8.grownBy w' v.ownBlock:=fun w8 g8=>ze1 w8 base wb sp v G ((uh HG).1.none (tn (uh HGW) g8)) i j1 (uh HIG) (uh HJG) (by have:=uh HGL;omega)
      have HCS:=hide cs
      clear cs
      go_wp2_with (first | (go_at_call 198;refine c8.mono ?_;rintro e w8 ⟨rfl,g8⟩;clear c8;have cs:=uh HCS w8 g8) | (go_at_call 201;refine cs.mono ?_;rintro e w9 ⟨rfl,hW9,g9⟩;clear cs;have HW9:=hide hW9;clear hW9))
      go_roundg (n - j1)
      case measure=>have:=uh HK;have:=uh HJ1;have:=uh HJ2;omega
      case rel =>
       obtain ⟨a1,a2,a3,a4⟩:=uh HG
       refine ⟨j1,zdf G i j1 (uh HIG) (uh HJG),rfl,by omega,⟨uh HW9,a2.step (uh HJ0) (by omega) (uh HJP) (uh HIG) (uh HJG) (uh HZ8).symm (uh HSB),(zee _ _).trans a3,ziw (tn a4 (tn (uh HGW) g8)) g9⟩,fun k hk => ?_,Nat.le_refl _⟩
       rw[zd1,if_neg (by omega),if_neg (by have:=uh HJ1;have:=uh HJ2;omega)]
       exact uh HKP k hk
    | true =>
     go_upto_region 8 with (go_at_call 198;refine c6.mono ?_;rintro e w6 ⟨rfl,g6⟩;clear c6)
     have hJG:j2<G.length:=by have:=uh HGL;omega
     have hIG:i<G.length:=by have:=uh HGL;have:=uh HJ1;omega
     have hJ0:0<j2:=by have:=uh HJ1;omega
     have hJp:(j2 - 1) / 2=i:=by have:=uh HJ1;have:=uh HJ2;omega
     have c8:=ze0 w6 base wb sp v G ((uh HG).1.none g6) j2 i hJG hIG (by have:=uh HGL;omega)
     obtain ⟨y8,hy8⟩:∃ y,y=cmLt G[j2] G[i]:=⟨_,rfl⟩
     rw[← hy8] at c8
     have hz8:y8=cmLt (atH G j2) (atH G i):=by rw[hy8,zec hJG,zec hIG]
     have hsib:∀ c,0<c→c<n→(c - 1) / 2=i→cmLt (atH G c) (atH G j2)=false:=fun c h1 h2 h3=>by
          have h4:=uh HJ1
          have h5:=uh HJ2
          rcases (by omega:c=j1∨c=j2) with rfl | rfl
          ·exact zgz _ _ (uh HZ6).symm
          ·exact zgd _
     obtain ⟨HZ8,HSB,HJG,HIG,HJ0,HJP⟩:=zh6 hz8 hsib hJG hIG hJ0 hJp
     have HGW:=hide g6
     clear hy8 hz8 hsib hJG hIG hJ0 hJp
     cases y8 with
     | false =>
      go_wp2_with (go_at_call 198;refine c8.mono ?_;rintro e w8 ⟨rfl,g8⟩;clear c8)
      go_ret
      obtain ⟨a1,a2,a3,a4⟩:=uh HG
      have gA:=tn (uh HGW) g8
      refine ⟨_,rfl,G,a3,a2.end (fun c h1 h2 h3=>zdu _ _ _ (uh HSB c h1 h2 h3) (uh HZ8).symm),a1.none gA,fun k hk=>uh HKP k hk,tn a4 gA⟩
     | true =>
      have cs:∀ w8,w6.grownBy w8 none→Calls Tryz.prog 201 #[.pointer (some ⟨wb,0,none⟩),.int .i64 (i:Int),.int .i64 (j2:Int)] w8 fun e w'=>e = .returned (.tuple #[])∧WaitAt w' base wb sp v (zdf G i j2 (uh HIG) (uh HJG))∧w8.grownBy w' v.ownBlock:=fun w8 g8=>ze1 w8 base wb sp v G ((uh HG).1.none (tn (uh HGW) g8)) i j2 (uh HIG) (uh HJG) (by have:=uh HGL;omega)
      have HCS:=hide cs
      clear cs
      go_wp2_with (first | (go_at_call 198;refine c8.mono ?_;rintro e w8 ⟨rfl,g8⟩;clear c8;have cs:=uh HCS w8 g8) | (go_at_call 201;refine cs.mono ?_;rintro e w9 ⟨rfl,hW9,g9⟩;clear cs;have HW9:=hide hW9;clear hW9))
      go_roundg (n - j2)
      case measure=>have:=uh HK;have:=uh HJ1;have:=uh HJ2;omega
      case rel =>
       obtain ⟨a1,a2,a3,a4⟩:=uh HG
       refine ⟨j2,zdf G i j2 (uh HIG) (uh HJG),rfl,by omega,⟨uh HW9,a2.step (uh HJ0) (by omega) (uh HJP) (uh HIG) (uh HJG) (uh HZ8).symm (uh HSB),(zee _ _).trans a3,ziw (tn a4 (tn (uh HGW) g8)) g9⟩,fun k hk => ?_,Nat.le_refl _⟩
       rw[zd1,if_neg (by omega),if_neg (by have:=uh HJ1;have:=uh HJ2;omega)]
       exact uh HKP k hk
   ·have hB1:decide (j2<n)=false:=by simp;omega
    clear hGl hj1 hj2
    go_upto_region 6 with fail
    refine zbt fun O hO => ?_
    refine zad (by rw[hO];kernel_rfl) (.int .i64 (j2:Int)) (fun K9 hK9=>by go_simp;exact hK9) ?_
    (try simp only[pq])
    refine zad (by rw[hO];kernel_rfl) (.int .i64 (n:Int)) (fun K9 hK9=>by go_simp;exact hK9) ?_
    (try simp only[pq])
    refine zad (by rw[hO];kernel_rfl) (.bool false) (fun K9 hK9=>by go_simp;exact hK9) ?_
    (try simp only[pq])
    refine zad (by rw[hO];kernel_rfl) (.bool false) (fun K9 hK9=>by go_simp;exact hK9) ?_
    (try simp only[pq])
    refine zam (by rw[hO];kernel_rfl) ?_
    (try simp only[pq])
    refine zam (by rw[hO];kernel_rfl) ?_
    (try simp only[pq])
    refine zam (by rw[hO];kernel_rfl) ?_
    (try simp only[pq])
    refine zam (by rw[hO];kernel_rfl) ?_
    (try simp only[pq])
    refine zad (by rw[hO];kernel_rfl) (.bool false) (fun K9 hK9=>by go_simp;exact hK9) ?_
    (try simp only[pq])
    go_upto_region 8 with fail
    have hJG:j1<G.length:=by have:=uh HGL;omega
    have hIG:i<G.length:=by have:=uh HGL;have:=uh HJ1;omega
    have hJ0:0<j1:=by have:=uh HJ1;omega
    have hJp:(j1 - 1) / 2=i:=by have:=uh HJ1;have:=uh HJ2;omega
    have c8:=ze0 wr base wb sp v G ((uh HG).1.none (zaa wr none)) j1 i hJG hIG (by have:=uh HGL;omega)
    obtain ⟨y8,hy8⟩:∃ y,y=cmLt G[j1] G[i]:=⟨_,rfl⟩
    rw[← hy8] at c8
    have hz8:y8=cmLt (atH G j1) (atH G i):=by rw[hy8,zec hJG,zec hIG]
    have hsib:∀ c,0<c→c<n→(c - 1) / 2=i→cmLt (atH G c) (atH G j1)=false:=fun c h1 h2 h3=>by
         have:c=j1:=by have:=uh HJ1;have:=uh HJ2;omega
         rw[this];exact zgd _
    obtain ⟨HZ8,HSB,HJG,HIG,HJ0,HJP⟩:=zh6 hz8 hsib hJG hIG hJ0 hJp
    have HGW:=hide (zaa wr none)
    clear hy8 hz8 hsib hJG hIG hJ0 hJp
    cases y8 with
    | false =>
     go_wp2_with (go_at_call 198;refine c8.mono ?_;rintro e w8 ⟨rfl,g8⟩;clear c8)
     go_ret
     obtain ⟨a1,a2,a3,a4⟩:=uh HG
     have gA:=tn (uh HGW) g8
     refine ⟨_,rfl,G,a3,a2.end (fun c h1 h2 h3=>zdu _ _ _ (uh HSB c h1 h2 h3) (uh HZ8).symm),a1.none gA,fun k hk=>uh HKP k hk,tn a4 gA⟩
    | true =>
     have cs:∀ w8,wr.grownBy w8 none→Calls Tryz.prog 201 #[.pointer (some ⟨wb,0,none⟩),.int .i64 (i:Int),.int .i64 (j1:Int)] w8 fun e w'=>e = .returned (.tuple #[])∧WaitAt w' base wb sp v (zdf G i j1 (uh HIG) (uh HJG))∧w8.grownBy w' v.ownBlock:=fun w8 g8=>ze1 w8 base wb sp v G ((uh HG).1.none (tn (uh HGW) g8)) i j1 (uh HIG) (uh HJG) (by have:=uh HGL;omega)
     have HCS:=hide cs
     clear cs
     go_wp2_with (first | (go_at_call 198;refine c8.mono ?_;rintro e w8 ⟨rfl,g8⟩;clear c8;have cs:=uh HCS w8 g8) | (go_at_call 201;refine cs.mono ?_;rintro e w9 ⟨rfl,hW9,g9⟩;clear cs;have HW9:=hide hW9;clear hW9))
     go_roundg (n - j1)
     case measure=>have:=uh HK;have:=uh HJ1;have:=uh HJ2;omega
     case rel =>
      obtain ⟨a1,a2,a3,a4⟩:=uh HG
      refine ⟨j1,zdf G i j1 (uh HIG) (uh HJG),rfl,by omega,⟨uh HW9,a2.step (uh HJ0) (by omega) (uh HJP) (uh HIG) (uh HJG) (uh HZ8).symm (uh HSB),(zee _ _).trans a3,ziw (tn a4 (tn (uh HGW) g8)) g9⟩,fun k hk => ?_,Nat.le_refl _⟩
      rw[zd1,if_neg (by omega),if_neg (by have:=uh HJ1;have:=uh HJ2;omega)]
      exact uh HKP k hk
  ·have hA1:decide (n≤j1)=true:=by simp;omega
   have hA2:n≤j1:=by omega
   have hE:=(uh HG).2.1.end (fun c h1 h2 h3=>by omega)
   have HE:=hide hE
   clear hE hGl hj1 hj2
   go_upto_region 3 with fail
   refine zbt fun O hO => ?_
   refine zad (by rw[hO];kernel_rfl) (.int .i64 (j1:Int)) (fun K9 hK9=>by go_simp;exact hK9) ?_
   (try simp only[pq])
   refine zad (by rw[hO];kernel_rfl) (.int .i64 (n:Int)) (fun K9 hK9=>by go_simp;exact hK9) ?_
   (try simp only[pq])
   refine zad (by rw[hO];kernel_rfl) (.bool true) (fun K9 hK9=>by go_simp;exact hK9) ?_
   (try simp only[pq])
   refine zad (by rw[hO];kernel_rfl) (.bool true) (fun K9 hK9=>by go_simp;exact hK9) ?_
   (try simp only[pq])
   refine zam (by rw[hO];kernel_rfl) ?_
   (try simp only[pq])
   refine zam (by rw[hO];kernel_rfl) ?_
   (try simp only[pq])
   refine zad (by rw[hO];kernel_rfl) (.bool true) (fun K9 hK9=>by go_simp;exact hK9) ?_
   (try simp only[pq])
   go_wp2
   go_ret
   obtain ⟨a1,a2,a3,a4⟩:=uh HG
   first
    | exact ⟨_,rfl,G,a3,uh HE,a1,uh HKP,a4⟩
    | exact ⟨⟨_,rfl⟩,G,a3,uh HE,a1,uh HKP,a4⟩
theorem zp9 {w a b:World} {pb:Nat} {v v' : Value} (h:ByPile w a pb v) (k:a.grownBy b v'.ownBlock) (hv:∀ k,v'.ownBlock=some k→v.ownBlock=some k∨w.heap.size≤k):ByPile w b pb v :=
 ⟨k.os.trans h.os,k.tape.trans h.tape,k.output.trans h.output,Nat.le_trans h.size k.size,fun i hi h1 h2=>by
  rw[k.block i (Nat.lt_of_lt_of_le hi h.size) (fun e=>by
   rcases hv i e.symm with h3 | h3
   ·exact h2 h3.symm
   ·omega),h.block i hi h1 h2]⟩
theorem zsw {H:List CmR} (r:CmR) (h:zcx H H.length):zi8 (H++[r]) (H.length+1) H.length:=by
 have hat:∀ i,i<H.length→atH (H++[r]) i=atH H i:=fun i hi=>by
  unfold atH
  rw[List.getD_eq_getElem?_getD,List.getD_eq_getElem?_getD,List.getElem?_append_left hi]
 refine ⟨fun i h1 h2 h3 => ?_,fun h0 c h1 h2 h3=>by omega⟩
 rw[hat i (by omega),hat _ (by omega)]
 exact h i h1 (by omega)
set_option maxHeartbeats 4000000 in
theorem zsx (w:World) (base wb:Nat) (sp:Option Addr) (v:Value) (H:List CmR) (h:WaitAt w base wb sp v H) (r:CmR) (hr:r.id.length=32) (hH:zcx H H.length) (hL:H.length≤90000) :
  Calls Tryz.prog 82 #[.iface 101 (.pointer (some ⟨wb,0,none⟩)),.iface 109 (.agg (cmC r).toArray)] w fun e w'=>e = .returned (.tuple #[])∧∃ v' H',WaitAt w' base wb sp v' H'∧H'.Perm (H++[r])∧zcx H' H'.length∧ByPile w w' wb v∧(∀ k,v'.ownBlock=some k→v.ownBlock=some k∨w.heap.size≤k):=by
 have m1:=zy7
 have m2:=mLen
 have cp:=zsj w base wb sp v H h r hr (by omega)
 obtain ⟨RV,hRV⟩:∃ x,x=Value.agg (cmC r).toArray:=⟨_,rfl⟩
 rw[← hRV] at cp ⊢
 have HU:=hide (zsw r hH)
 obtain ⟨n,hn⟩:∃ n,n=H.length:=⟨_,rfl⟩
 have HN:=hide hn
 have hL' : n≤90000:=by omega
 clear h hr hH hL hRV hn
 go_enter Tryz.func82,Tryz.ntmps82
 go_wp2_with fail
 refine cp.mono ?_
 rintro e w1 ⟨rfl,v1,hW1,hP1,hv1⟩
 have cl:=zki w1 base wb sp v1 _ hW1
 have el:(H++[r]).length=n+1:=by rw[uh HN];simp
 rw[el] at cl
 have ew:(((n+1:Nat)):Int)=(n:Int)+1:=by omega
 rw[ew] at cl
 have cu:=zyq w1 base wb sp v1 _ hW1 n (by omega) (by rw[el];have:=uh HU;rw[← uh HN] at this;exact this) (by omega)
 have hw:IntKind.i64.wrap ((n:Int)+1 - 1)=(n:Int):=by rw[IntKind.wrap_i64];omega
 have hw2:(n:Int)+1 - 1=(n:Int):=by omega
 obtain ⟨HP1,HV1,HEL⟩:=zh3 hP1 hv1 el
 clear cp hW1 hP1 hv1 el ew
 go_wp2_with (first
  | (go_at_call 56;refine cl.mono ?_;rintro e w2 ⟨rfl,e2⟩;subst w2;clear cl))
 refine cu.mono ?_
 rintro e w3 ⟨rfl,H3,p3,q3,hW3,g3⟩
 have HQ:=hide (And.intro p3 (And.intro q3 (And.intro hW3 g3)))
 clear cu p3 q3 hW3 g3
 go_wp2
 go_end0
 obtain ⟨p3,q3,hW3,g3⟩:=uh HQ
 exact ⟨rfl,v1,H3,hW3,p3,by rw[p3.length_eq];exact q3,zp9 (uh HP1) g3 (uh HV1),uh HV1⟩
theorem zm3 {H:List CmR} (n:Nat) (hn:H.length=n+1) (h:zcx H (n+1)):zem (zdf H 0 n (by omega) (by omega)) n 0:=by
 refine ⟨fun i h1 h2 h3 => ?_,fun h0=>by omega⟩
 rw[zd1,zd1,if_neg (by omega),if_neg (by omega),if_neg (by omega),if_neg h3]
 exact h i h1 (by omega)
theorem zls {H:List CmR} (n:Nat) (hn:H.length=n+1):H=H.take n++[atH H n]:=by
 rw[zec (by omega)]
 conv=>lhs;rw[← List.take_append_drop n H,List.drop_eq_getElem_cons (by omega)]
 rw[List.drop_of_length_le (by omega)]
set_option maxHeartbeats 4000000 in
theorem zvn (w:World) (base wb:Nat) (sp:Option Addr) (v:Value) (H:List CmR) (h:WaitAt w base wb sp v H) (h0:0<H.length) (hH:zcx H H.length) (hL:H.length≤90000) :
  Calls Tryz.prog 57 #[.iface 101 (.pointer (some ⟨wb,0,none⟩))] w fun e w'=>∃ r v' H',e = .returned (.iface 109 (.agg (cmC r).toArray))∧r∈H∧(∀ x∈H,cmLt x r=false)∧WaitAt w' base wb sp v' H'∧(H'++[r]).Perm H∧zcx H' H'.length∧ByPile w w' wb v∧v'.ownBlock=v.ownBlock:=by
 have m1:=mLen
 have m2:=zxn
 have m3:=mPop
 obtain ⟨n,hn⟩:∃ n,H.length=n+1:=⟨H.length - 1,by omega⟩
 have cl:=zki w base wb sp v H h
 have cs:=ze1 w base wb sp v H h 0 n (by omega) (by omega) (by omega)
 rw[hn] at cl hH
 have ew:(((n+1:Nat)):Int)=(n:Int)+1:=by omega
 rw[ew] at cl
 have hw:IntKind.i64.wrap ((n:Int)+1 - 1)=(n:Int):=by rw[IntKind.wrap_i64];omega
 have hw2:(n:Int)+1 - 1=(n:Int):=by omega
 obtain ⟨G,hG⟩:∃ G,G=zdf H 0 n (by omega) (by omega):=⟨_,rfl⟩
 rw[← hG] at cs
 have hGl:G.length=n+1:=by rw[hG,zsv];exact hn
 have hGD:zem G n 0:=by rw[hG];exact zm3 n hn hH
 have hGp:G.Perm H:=by rw[hG];exact zee _ _
 have hGn:atH G n=atH H 0:=by rw[hG,zd1,if_pos rfl]
 have htop:∀ x∈H,cmLt x (atH H 0)=false:=fun x hx=>by
  obtain ⟨i,hi,rfl⟩:=List.mem_iff_getElem.1 hx
  rw[← zec hi]
  exact hH.top i (by omega)
 have hmem:atH H 0∈H:=by rw[zec h0];exact List.getElem_mem h0
 have hn9:n≤90000:=by omega
 obtain ⟨HGL,HGD,HGP,HGN,HTOP,HMEM⟩:=zh6 hGl hGD hGp hGn htop hmem
 have c0:((0:Nat):Int)=0:=rfl
 rw[c0] at cs
 clear h h0 hH hL hn ew hG hGl hGD hGp hGn htop hmem c0
 go_enter Tryz.func57,Tryz.ntmps57
 go_wp2_with (first
  | (go_at_call 56;refine cl.mono ?_;rintro e w1 ⟨rfl,e1⟩;subst w1;clear cl)
  | (go_at_call 201;refine cs.mono ?_;rintro e w2 ⟨rfl,hW2,g2⟩;clear cs;have HW2:=hide hW2;clear hW2;have cd:=zvm w2 base wb sp v G (uh HW2) n (by have:=uh HGL;omega) (uh HGD) (by have:=uh HGL;omega)))
 refine cd.mono ?_
 rintro e w3 ⟨y3,rfl,G3,p3,q3,hW3,hk3,g3⟩
 have hl3:G3.length=n+1:=by rw[p3.length_eq];exact uh HGL
 have hs3:=zls n hl3
 have hr3:atH G3 n=atH H 0:=by rw[hk3 n (Nat.le_refl _)];exact uh HGN
 rw[hr3] at hs3
 have hW3':=hW3
 rw[hs3] at hW3'
 have cp:=zvc w3 base wb sp v (G3.take n) (atH H 0) hW3' (by rw[List.length_take];omega)
 have HF:Hid ((G3.take n++[atH H 0]).Perm H∧zcx (G3.take n) (G3.take n).length):=by
  refine ⟨by rw[← hs3];exact p3.trans (uh HGP),?_⟩
  rw[List.length_take,hl3,Nat.min_eq_left (Nat.le_succ n)]
  refine q3.less fun i hi => ?_
  unfold atH
  rw[List.getD_eq_getElem?_getD,List.getD_eq_getElem?_getD,List.getElem?_take_of_lt hi]
 have HGG:=hide (And.intro g2 g3)
 obtain ⟨RC,hRC⟩:∃ x,x=Value.agg (cmC (atH H 0)).toArray:=⟨_,rfl⟩
 rw[← hRC] at cp
 have HRC:=hide hRC
 clear cd p3 q3 hW3 hk3 g3 hl3 hs3 hr3 hW3' hRC g2
 go_wp2_with (go_at_call 199;refine cp.mono ?_;rintro e w4 ⟨rfl,v4,hW4,g4,hv4⟩;clear cp;have HW4:=hide (And.intro hW4 (And.intro g4 hv4));clear hW4 g4 hv4)
 go_ret
 obtain ⟨hW4,g4,hv4⟩:=uh HW4
 obtain ⟨g2,g3⟩:=uh HGG
 refine ⟨atH H 0,v4,G3.take n,by rw[uh HRC];rfl,uh HMEM,uh HTOP,hW4,(uh HF).1,(uh HF).2,?_,hv4⟩
 have g23:=ziw g2 g3
 refine ⟨g4.os.trans g23.os,g4.tape.trans g23.tape,g4.output.trans g23.output,Nat.le_trans g23.size g4.size,fun k hk h1 h2 => ?_⟩
 rw[g4.block k (Nat.lt_of_lt_of_le hk g23.size) (fun e=>h1 (by cases e;rfl)),g23.block k hk h2]
set_option maxHeartbeats 4000000 in
theorem zm4 (w:World) (m:Nat) (K:List (List UInt8 × Value)) (h:MapAt w m K) (hK:K.length≤90000) :
  Calls Tryz.prog 45 #[.map (some m)] w fun e w'=>∃ v L,e = .returned v∧Ris L∧(∀ x,x∈L↔x∈K.map (·.1))∧w'.ownsRow w.heap.size 33 32 v L.length (L.flatMap (·.map bv))∧w.grownBy w' none:=by
 obtain ⟨W1,hrg,hO1,g1⟩:=h.over 95 94 Tryz.underlying95
 obtain ⟨Z,hZ,hzv⟩:=zdq
 obtain ⟨HZ,HO1,HG1,HK⟩:=zh4 hZ hO1 g1 hK
 clear hZ hO1 g1 h hK
 go_enter Tryz.func45,Tryz.ntmps45
 go_wp2_with fail
 go_loopg [3] K.length (fun k v wr=>∃ done,Hid (OverAt wr m w.heap.size K done∧wr.ownsRow w.heap.size 33 32 v done.length (done.flatMap (·.map bv))∧w.grownBy wr none)∧K.length - done.length≤k)
 case atStart=>exact ⟨[],⟨uh HO1,World.ownsRow_nil _ _ _ _,uh HG1⟩,by simp⟩
 case round =>
  rename_i v3 _
  obtain ⟨done,HD,hk⟩:=hrel
  have HKK:=hide hk
  clear hk
  have hlen:done.length≤K.length:=by
   have:=zbl (uh HD).1.nodup (uh HD).1.inn
   simpa using this
  rcases (uh HD).1.next 0 with ⟨hall,hr0⟩ | ⟨x,v,w2,hxv,hxd,hr0,hO2,he2,g2,-⟩
  ·have hnx:∀ ty,(Instr.next (.pointer (some ⟨w.heap.size,0,none⟩)) false ty).run Tryz.prog wr = .ok (.tuple #[.bool false]) wr:=fun ty=>hr0
   have hiff:∀ x,x∈done↔x∈K.map (·.1):=fun x=>⟨(uh HD).1.inn x,hall x⟩
   have hwid:∀ x∈done,x.length=32:=fun x hx=>by
    obtain ⟨p,hp,rfl⟩:=List.mem_map.1 ((uh HD).1.inn x hx)
    exact (uh HD).1.wide p hp
   obtain ⟨a3,c3,rfl⟩:=zbi (uh HD).2.1
   have cs:=zln wr w.heap.size _ done (uh HD).2.1 hwid (uh HD).1.nodup (by have:=uh HK;omega)
   have HI:=hide hiff
   obtain ⟨n9,hn9⟩:∃ n,n=done.length:=⟨_,rfl⟩
   have HN9:=hide hn9
   rw[← hn9] at cs
   rw[← hn9]
   clear hall hr0 hiff hwid hlen hn9
   go_wp2_with (go_at_call 72;refine cs.mono ?_;rintro e w4 ⟨rfl,L',q1,q2,q3,q4,q5⟩;have HQ:=hide (And.intro q1 (And.intro q2 (And.intro q3 (And.intro q4 q5))));clear q1 q2 q3 q4 q5 cs)
   go_ret
   obtain ⟨q1,q2,q3,q4,q5⟩:=uh HQ
   refine ⟨_,L',rfl,q1,fun x=>(q2 x).trans (uh HI x),by rw[q3];exact q4,zac (uh HD).2.2 q5 (fun x e=>Or.inl ?_)⟩
   exact ((uh HD).2.1.lt x (by rw[← uh HN9];exact e)).1
  ·have hnx:∀ ty,(Instr.next (.pointer (some ⟨w.heap.size,0,none⟩)) false ty).run Tryz.prog wr = .ok (.tuple #[.bool true,keyV x,v]) w2:=fun ty=>hr0
   have hx:x.length=32:=(uh HD).1.wide _ hxv
   obtain ⟨XB,hXB⟩:∃ l,l=x.map bv:=⟨_,rfl⟩
   have hkv:keyV x = .agg XB.toArray:=by rw[hXB];rfl
   rw[hkv] at hnx he2
   have hXl:XB.length=32:=by rw[hXB];simp[hx]
   have hX1:∀ u∈XB,u.oneCell'=true:=by rw[hXB];exact za4 _
   have hXo:XB.toArray.all (·.oneCell')=true:=all_oneCell_toArray hX1
   have hiX:(Tryz.prog.info? 33).map (·.size)=some XB.length:=by rw[hXl];exact zar
   have hiX2:(Tryz.prog.info? 33).map (·.size)=some XB.toArray.size:=by simpa using hiX
   have hZX:Z.toList.toArray.size=XB.toArray.size:=by have:=uh HZ;simp[this,hXl]
   have ho2:=(uh HD).2.1.kept g2 (Or.inr fun e=>(uh HD).1.own (uh HD).2.1 e.symm)
   have gw2:w.grownBy w2 none:=zac (uh HD).2.2 g2 (fun y e=>Or.inl (by cases e;exact Nat.le_refl _))
   obtain ⟨W3,hW3,hB3,g3⟩:=zbb w2 33 Z XB
   have hBZ:Blk (w2.alloc (.cells Z 33)) w2.heap.size 33 Z.toList:=by simpa using Blk.new w2 33 Z.toList
   have hr3:=zak hB3
   obtain ⟨W5,hW5,hB5,g5⟩:=zaf W3 33 XB
   have hbs:(Instr.buildSlice 29 1 #[(0,.agg XB.toArray)]).run Tryz.prog W3 = .ok (.slice (some ⟨W3.heap.size,0,none⟩) 1 1) W5:=by rw[hW5,hXB];exact zfg x hx W3
   have g25:=tn g3 g5
   have ho5:=zbe ho2 g25 (fun _ e=>by cases e)
   have hO5:=hO2.none g25
   have G5:=tn gw2 g25
   have hne:w.heap.size≤W5.heap.size:=G5.size
   obtain ⟨HXB,HBZ,HW3,HX1,HXO,HIX⟩:=zh6 hXB hBZ hW3 hX1 hXo hiX
   obtain ⟨HIX2,HZX,HBS,HO5,HV5,HB5⟩:=zh6 hiX2 hZX hbs ho5 hO5 hB5
   obtain ⟨HG5,HXL⟩:=zh2 G5 hXl
   have hn9:done.length≤100000:=by have:=uh HK;omega
   obtain ⟨HXD,HLE⟩:=zh2 hxd hlen
   clear hXB hBZ hW3 hX1 hXo hiX hiX2 hZX hbs ho5 hO5 hB5 G5 hXl ho2 gw2 g3 g5 g25 hO2 g2 hB3 hW5 hkv hr0 HD hx hxv hxd hlen
   go_wp2_with (first
    | (have hB9:=uh HBZ;refine wpList_store_row rfl 33 _ _ rfl w2.heap.size XB.toArray rfl rfl _ _ hB9 (uh HIX2) (uh HZX) (uh HXO) ?_;clear hB9;rw[← uh HW3])
    | (refine wpList_load_mid rfl 33 _ rfl w2.heap.size 0 rfl XB _ hr3 Tryz.underlying33 rfl (uh HIX) ?_;clear hr3)
    | (refine zau rfl 29 _ rfl (.agg XB.toArray) _ rfl (uh HBS) ?_)
    | (refine zb5 rfl _ _ rfl w.heap.size _ _ _ rfl (uh HO5) _ XB (uh HB5) (uh HXL) (uh HX1) rfl hn9 hne ?_;intro v6 w6 ho6 g6;have HO6:=hide ho6;have HV6:=hide ((uh HV5).kept g6 ((uh HV5).map.own (uh HO5)) ((uh HV5).own (uh HO5)));have HG6:=hide (zac (uh HG5) g6 (fun x e=>Or.inl ((uh HO5).lt x e).1));clear ho6 g6))
   go_roundg (K.length - (done++[x]).length)
   case measure =>
    have h1:=uh HKK
    have h2:=zbl (uh HV6).nodup (uh HV6).inn
    simp only[List.length_append,List.length_cons,List.length_nil,List.length_map] at h2 ⊢
    omega
   case rel =>
    refine ⟨done++[x],⟨uh HV6,?_,uh HG6⟩,Nat.le_refl _⟩
    have e1:(done++[x]).length=done.length+1:=by simp
    have e2:(done++[x]).flatMap (·.map bv)=done.flatMap (·.map bv)++XB:=by rw[uh HXB];simp
    rw[e1,e2]
    exact uh HO6
end Go.Proofs.YthhnfloohbdaiaaGreatDoor
