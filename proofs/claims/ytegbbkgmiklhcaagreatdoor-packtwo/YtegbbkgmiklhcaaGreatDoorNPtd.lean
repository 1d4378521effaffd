/- Lemmas. -/
import Derived.Test.YtegbbkgmiklhcaaGreatDoorNLet
import Derived.Test.YtegbbkgmiklhcaaGreatDoorMCpy
import Derived.Lib.OthersKept
import Derived.Laws.AppendOwnNone
namespace Go.Proofs.YtegbbkgmiklhcaaGreatDoor
open Go.RowKit
set_option maxRecDepth 100000
theorem zdy {w a:World} {r:Option Nat} (h:w.grownBy a r) (k:Nat) (s:ByteArray) (p:Nat) (hk:w.heap.size≤k∨r=some k):w.grownBy (a.iterAt k s p) r :=
 zac h (s:=some k) ⟨rfl,rfl,rfl,by simp[World.iterAt],fun j _ hne=>Lib.iterAt_other a k j s p (fun e=>hne (by rw[e]))⟩ (fun x e=>by cases e;exact hk)
def zb4 (c:UInt8):Bool := !(c == 47) && !(c == 0)
theorem zkg {c:UInt8} (h:128≤c.toNat):zb4 c=true:=by
 have h1:¬ c=47:=fun e=>by subst e;revert h;decide
 have h2:¬ c=0:=fun e=>by subst e;revert h;decide
 simp[zb4,h1,h2]
theorem zly (c:UInt8):zb4 c=(!(((c.toNat:Nat):Int) == 47) && !(((c.toNat:Nat):Int) == 0)):=by
 have h1:(c == 47)=(((c.toNat:Nat):Int) == 47):=by
  rw[Bool.eq_iff_iff];simp only[beq_iff_eq]
  rw[← UInt8.toNat_inj,show (47:UInt8).toNat=47 from rfl];omega
 have h2:(c == 0)=(((c.toNat:Nat):Int) == 0):=by
  rw[Bool.eq_iff_iff];simp only[beq_iff_eq]
  rw[← UInt8.toNat_inj,show (0:UInt8).toNat=0 from rfl];omega
 rw[zb4,h1,h2]
theorem znp (p:List UInt8):zcj p=(!(p == []) && decide (p.length≤64) && !(p == [46]) && !(p == [46,46]) && p.all zb4):=rfl
theorem znq {l:List UInt8} {f:UInt8→Bool} {k:Nat} (h:k<l.length):(l.drop k).all f=(f l[k] && (l.drop (k+1)).all f):=by
 rw[List.drop_eq_getElem_cons h,List.all_cons]
theorem znr {l:List UInt8} {k n:Nat} (h:∀ c∈(l.drop k).take n,128≤c.toNat):(l.drop k).all zb4=(l.drop (k+n)).all zb4:=by
 conv=>lhs;rw[← List.take_append_drop n (l.drop k)]
 rw[List.all_append,List.drop_drop]
 have:((l.drop k).take n).all zb4=true:=List.all_eq_true.2 fun c hc=>zkg (h c hc)
 rw[this,Bool.true_and]
set_option maxHeartbeats 1000000 in
theorem zns (w:World) (l:List UInt8) (hl:l.length≤100000):Calls Tryz.prog 135 #[.string (str l)] w fun e w'=>e = .returned (.bool (zcj l))∧w.grownBy w' none:=by
 obtain ⟨S,hS⟩:∃ S,S=str l:=⟨_,rfl⟩
 obtain ⟨n,hn⟩:∃ n,n=l.length:=⟨_,rfl⟩
 have hsz:S.size=n:=by rw[hS,zba,hn]
 obtain ⟨b1,hb1⟩:∃ b,b=(l == []):=⟨_,rfl⟩
 obtain ⟨b2,hb2⟩:∃ b,b=(l == [46]):=⟨_,rfl⟩
 obtain ⟨b3,hb3⟩:∃ b,b=(l == [46,46]):=⟨_,rfl⟩
 obtain ⟨LL,hLL⟩:∃ L,L=S.toList:=⟨_,rfl⟩
 have hLl:LL=l:=by rw[hLL,hS,zct]
 have e1:LL.isEmpty=b1:=by rw[hLl,hb1];cases l <;> rfl
 have e2:(LL == [46])=b2:=by rw[hLl,hb2]
 have e3:(LL == [46,46])=b3:=by rw[hLl,hb3]
 have hP:zcj l=(!b1 && decide (n≤64) && !b2 && !b3 && l.all zb4):=by rw[znp,hb1,hb2,hb3,hn]
 rw[← hS]
 have hT:=hLL.symm
 obtain ⟨HS,HN,HL,HP⟩:=zh4 hS hn hl hP
 clear hS hn hl hb1 hb2 hb3 hLL hLl hP
 cases b1
 ·have n1:¬ LL=[]:=by simpa using e1
  by_cases h64:n≤64
  ·have h64i:¬ (64:Int)<(n:Int):=by omega
   cases b2
   ·have n2:¬ LL=[46]:=by simpa using e2
    cases b3
    ·have n3:¬ LL=[46,46]:=by simpa using e3
     have hP2:zcj l=l.all zb4:=by rw[uh HP];simp[h64]
     have HP2:=hide hP2
     clear HP hP2
     go_enter Tryz.func135,Tryz.ntmps135
     go_wp2
     clear n1 n2 n3 e1 e2 e3 hT
     go_loopw [4] (fun _ wr=>∃ pos:Nat,pos≤n∧Hid ((l.drop pos).all zb4=l.all zb4)∧wr.heap[w.heap.size]? = some (.stringIter S pos)∧w.grownBy wr none) (fun _ wr=>n - wr.iterPos w.heap.size)
     case atStart=>exact ⟨0,Nat.zero_le _,by exact rfl,World.iter_heap _ _ _,zai (zab _ _) _⟩
     case round =>
      obtain ⟨pos,hpn,hD,hit,hg⟩:=hrel
      by_cases hlt:pos<n
      ·have hpl:pos<l.length:=by rw[← uh HN];exact hlt
       have hnx:∀ ty,(Instr.next (.pointer (some ⟨w.heap.size,0,none⟩)) true ty).run Tryz.prog wr=_:=fun ty=>Lib.run_next_any_at wr w.heap.size S pos ty hit (by rw[hsz];exact hlt)
       obtain ⟨x,hx⟩:∃ x,x=(Utf8.decode S pos).1:=⟨_,rfl⟩
       obtain ⟨m,hm⟩:∃ m,m=(Utf8.decode S pos).2:=⟨_,rfl⟩
       rw[← hx,← hm] at hnx
       have hat:=zfa l pos hpl
       rw[← uh HS,← hx,← hm] at hat
       have hgo:1≤m∧pos+m≤n:=by
        rcases hat with ⟨_,e⟩ | ⟨_,_,h3,h4,_⟩
        ·have:(Utf8.decode S pos).2=1:=by rw[e]
         omega
        ·have:=uh HN;omega
       have hxx:((l.drop pos).all zb4=false∧(x=47∨x=0))∨((l.drop pos).all zb4=(l.drop (pos+m)).all zb4∧x≠47∧x≠0):=by
        rcases hat with ⟨h1,e⟩ | ⟨_,h2,_,_,h5⟩
        ·have e1:x=l[pos].toNat:=by rw[hx,e]
         have e2:m=1:=by rw[hm,e]
         subst e2
         rw[znq hpl,zly,← e1]
         by_cases h47:x=47
         ·left;exact ⟨by rw[h47];rfl,Or.inl h47⟩
         ·by_cases h0:x=0
          ·left;exact ⟨by rw[h0];rfl,Or.inr h0⟩
          ·right
           refine ⟨?_,h47,h0⟩
           have q1:((x:Int) == 47)=false:=by simp;omega
           have q2:((x:Int) == 0)=false:=by simp;omega
           rw[q1,q2];rfl
        ·right
         exact ⟨znr h5,by omega,by omega⟩
       have hit2:=Lib.iterAt_heap wr w.heap.size S pos (pos+m) hit
       have hg2:=zdy hg w.heap.size S (pos+m) (Or.inl (Nat.le_refl _))
       obtain ⟨HG,HI,HI0⟩:=zh3 hgo hit2 hit
       clear hat hx hm hgo hit hit2
       rcases hxx with ⟨hf,hx⟩ | ⟨hf,hx1,hx2⟩
       ·have HR:Hid (zcj l=false):=by rw[uh HP2,← hD.out,hf];exact rfl
        clear hf hD
        rcases hx with rfl | rfl
        all_goals
         go_wp2
         go_ret
         exact ⟨by rw[uh HR];rfl,hg2⟩
       ·have q1:((x:Int) == 47)=false:=by simp;omega
        have q2:((x:Int) == 0)=false:=by simp;omega
        have HF:Hid ((l.drop (pos+m)).all zb4=l.all zb4):=by rw[← hf];exact hD
        clear hf hx1 hx2 hD
        go_wp2
        go_roundw
        case rel=>exact ⟨pos+m,(uh HG).2,HF,uh HI,hg2⟩
        case measure =>
         have h1:=(uh HG).1
         have h2:=uh HI
         have h3:=uh HI0
         simp only[World.iterPos,h2,h3]
         omega
      ·have hnx:∀ ty,(Instr.next (.pointer (some ⟨w.heap.size,0,none⟩)) true ty).run Tryz.prog wr=_:=fun ty=>Lib.run_next_end_at wr w.heap.size S pos ty hit (by rw[hsz];exact hlt)
       have HR:Hid (zcj l=true):=by
        rw[uh HP2,← hD.out,List.drop_eq_nil_of_le (by rw[← uh HN];omega)]
        exact rfl
       clear hD
       go_wp2
       go_ret
       exact ⟨by rw[uh HR];rfl,hg⟩
    ·have n3:LL=[46,46]:=by simpa using e3
     have HR:=hide (show zcj l=false by rw[uh HP];simp)
     clear HP
     go_enter Tryz.func135,Tryz.ntmps135
     go_wp2
     go_ret
     exact ⟨by rw[uh HR];rfl,zab _ _⟩
   ·have HR:=hide (show zcj l=false by rw[uh HP];simp)
    have n2:LL=[46]:=by simpa using e2
    clear HP
    go_enter Tryz.func135,Tryz.ntmps135
    go_wp2
    go_ret
    exact ⟨by rw[uh HR];rfl,zab _ _⟩
  ·have h64i:(64:Int)<(n:Int):=by omega
   have HR:=hide (show zcj l=false by rw[uh HP];simp[h64])
   clear HP
   go_enter Tryz.func135,Tryz.ntmps135
   go_wp2
   go_ret
   exact ⟨by rw[uh HR];rfl,zab _ _⟩
 ·have HR:Hid (zcj l=false):=by rw[uh HP];exact rfl
  have n1:LL=[]:=by simpa using e1
  clear HP
  go_enter Tryz.func135,Tryz.ntmps135
  go_wp2
  go_ret
  exact ⟨by rw[uh HR];rfl,zab _ _⟩
theorem znt:(Tryz.prog.info? 9).map (fun i=>(i.zero,i.size,i.bytes))=some (some (.string ⟨#[]⟩),1,16):=by kernel_rfl
def stv (x:List UInt8):Value := .string (str x)
def Stg (w:World) (base:Nat) (v:Value) (L:List (List UInt8)):Prop:=w.ownsRow base 9 1 v L.length (L.map stv)
theorem Stg.nil (w:World) (base:Nat):Stg w base (.slice none 0 0) []:=World.ownsRow_nil w base _ 1
theorem Stg.kept {w a:World} {base:Nat} {v:Value} {L:List (List UInt8)} (h:Stg w base v L) (g:w.grownBy a none):Stg a base v L :=
 World.ownsRow.kept h g (by cases v.ownBlock <;> simp)
structure Stl (w:World) (base:Nat) (ao:Option Addr) (c:Nat) (L:List (List UInt8)):Prop where
 zip:ao=none→L.length=0
 new:∀ ad,ao=some ad→base≤ad.block∧ad.block<w.heap.size
 cell:∀ ad,ao=some ad→ad.off=0∧ad.spot=none∧∀ i (h:i<L.length),w.cell? ⟨ad.block,i,none⟩=some (.string (str L[i]))
theorem Stg.open {w:World} {base:Nat} {v:Value} {L:List (List UInt8)} (h:Stg w base v L):∃ ao c,v = .slice ao L.length c∧Stl w base ao c L:=by
 rcases h.2 with ⟨rfl,h2⟩ | ⟨g,cap,cur,rfl,hg,hh,h3,h4,h5,h6⟩
 ·rw[h2]
  exact ⟨none,0,rfl,fun _=>h2,(fun _ e=>by cases e),(fun _ e=>by cases e)⟩
 ·refine ⟨some ⟨g,0,none⟩,cap,rfl,(fun e=>by cases e),(fun ad e => ?_),(fun ad e => ?_)⟩
  ·cases e
   exact ⟨hg,(Array.getElem?_eq_some_iff.1 hh).1⟩
  ·cases e
   refine ⟨rfl,rfl,fun i hi => ?_⟩
   have h7:(cur.toList.take (L.length*1))[i]? = (L.map stv)[i]? := by rw[h6]
   rw[List.getElem?_take_of_lt (by omega)] at h7
   simp[World.cell?,hh,hi,stv] at h7 ⊢
   exact h7
theorem Stl.kept {w a:World} {base:Nat} {ao:Option Addr} {c:Nat} {L:List (List UInt8)} (h:Stl w base ao c L) (g:w.grownBy a none):Stl a base ao c L :=
 ⟨h.zip,fun ad e=>⟨(h.new ad e).1,Nat.lt_of_lt_of_le (h.new ad e).2 g.size⟩,fun ad e=>⟨(h.cell ad e).1,(h.cell ad e).2.1,fun i hi=>g.cell ((h.cell ad e).2.2 i hi) (by simp)⟩⟩
theorem Stl.lower {w:World} {base b2:Nat} {ao:Option Addr} {c:Nat} {L:List (List UInt8)} (h:Stl w base ao c L) (hb:b2≤base):Stl w b2 ao c L :=
 ⟨h.zip,fun ad e=>⟨Nat.le_trans hb (h.new ad e).1,(h.new ad e).2⟩,h.cell⟩
theorem Stl.at {w:World} {base:Nat} {ao:Option Addr} {c:Nat} {L:List (List UInt8)} (h:Stl w base ao c L) (i:Nat) (hi:i<L.length):∃ b,ao=some ⟨b,0,none⟩∧w.cell? ⟨b,i,none⟩=some (.string (str L[i])):=by
 cases ao with
 | none=>have:=h.zip rfl;omega
 | some ad =>
  obtain ⟨h1,h2,h3⟩:=h.cell ad rfl
  obtain ⟨b,o,s⟩:=ad
  simp only at h1 h2
  subst h1 h2
  exact ⟨b,rfl,h3 i hi⟩
theorem zcp {w:World} {ops:Array Oper} {rest:List Oper} {o:Oper} {a:Act} {Q:Exit→Act→World→Prop} (hgd:o.guard=none) (s x:Operand)
  (ho:o.op = .call { callee := .builtin .append,args := #[s,x],argTypes := #[67,67] })
  (base:Nat) (v:Value) (L:List (List UInt8)) (y:List UInt8) (b:Nat) (hs:a.eval s=v) (hown:Stg w base v L)
  (hx:a.eval x = .slice (some ⟨b,0,none⟩) 1 1) (hb:w.cell? ⟨b,0,none⟩=some (stv y)) (hn:L.length≤1000000) (hbase:base≤w.heap.size)
  (h:∀ v' w',Stg w' base v' (L++[y])→w.grownBy w' v.ownBlock→wpList Tryz.prog ops Q rest (a.put o.dst v') w'):wpList Tryz.prog ops Q (o::rest) a w:=by
 obtain ⟨i0,hi,hz0,hz1,hz2⟩:=info_parts znt
 exact wpList_append_own w hgd s x 67 ho base 9 i0 (.string ⟨#[]⟩) 1 16 Tryz.underlying67 hi hz0 hz1 hz2 rfl (by decide) v L.length (L.map stv) hs hown ⟨b,0,none⟩ 1 1 [stv y] hx (by simp)
  (fun j u hj=>by
   match j,hj with
   | 0,hj=>simp at hj;subst hj;simpa[Addr.add] using hb)
  (fun u hu=>by simp at hu;subst hu;rfl) (by unfold maxLen;omega) (by omega) hbase
  (fun v' w' q1 q2 _=>h v' w' (by unfold Stg;simpa using q1) q2)
theorem zjd {a:World} {base:Nat} {v:Value} {L:List (List UInt8)} (h:Stg a base v L) {k:Nat} {s:ByteArray} {p:Nat} (hk:a.heap[k]? = some (.stringIter s p)):v.ownBlock≠some k:=by
 rcases h.2 with ⟨rfl,_⟩ | ⟨g,cap,cur,rfl,_,hh,_⟩
 ·simp[Value.ownBlock]
 ·intro e
  simp[Value.ownBlock] at e
  subst e
  rw[hh] at hk
  cases hk
theorem zkh (a:World) (k:Nat) (s:ByteArray) (q:Nat):a.grownBy (a.iterAt k s q) (some k):=zdy (zab a (some k)) k s q (Or.inr rfl)
theorem Stg.iterAt {a:World} {base:Nat} {v:Value} {L:List (List UInt8)} (h:Stg a base v L) {k:Nat} {s:ByteArray} {p:Nat} (hk:a.heap[k]? = some (.stringIter s p)) (q:Nat):Stg (a.iterAt k s q) base v L :=
 World.ownsRow.kept h (zkh a k s q) (Or.inr (zjd h hk))
theorem Stg.lower {w:World} {b1 b2:Nat} {v:Value} {L:List (List UInt8)} (h:Stg w b1 v L) (hb:b2≤b1):Stg w b2 v L:=by
 refine ⟨h.1,?_⟩
 rcases h.2 with h1 | ⟨g,cap,cur,h1,h2,h3⟩
 ·exact Or.inl h1
 ·exact Or.inr ⟨g,cap,cur,h1,Nat.le_trans hb h2,h3⟩
theorem zhj (w:World) (x:List UInt8):∃ W,W=w.alloc (.cells #[.string (str x)] 9)∧W.cell? ⟨w.heap.size,0,none⟩=some (stv x)∧w.grownBy W none:=by
 refine ⟨_,rfl,?_,zai (zab _ _) _⟩
 have:=heap_alloc_new w (.cells #[.string (str x)] 9)
 unfold World.cell?
 rw[this]
 rfl
set_option maxHeartbeats 2000000 in
theorem zki (w:World) (l:List UInt8) (hl:l.length≤100000):Calls Tryz.prog 149 #[.string (str l)] w fun e w'=>∃ v,e = .returned v∧Stg w' w.heap.size v (za2 l)∧w.grownBy w' none:=by
 obtain ⟨S,hS⟩:∃ S,S=str l:=⟨_,rfl⟩
 obtain ⟨n,hn⟩:∃ n,n=l.length:=⟨_,rfl⟩
 have hsz:S.size=n:=by rw[hS,zba,hn]
 have sl:∀ lo hi:Nat,lo≤hi→hi≤l.length→∀ W,(Instr.slice 9 (.string S) (some (.int .i64 (lo:Int))) (some (.int .i64 (hi:Int))) none).run Tryz.prog W = .ok (.string (str ((l.drop lo).take (hi - lo)))) W:=fun lo hi h1 h2 W=>by rw[hS];exact zlk l lo hi h1 h2 W
 have sf:∀ lo:Nat,lo≤l.length→∀ W,(Instr.slice 9 (.string S) (some (.int .i64 (lo:Int))) none none).run Tryz.prog W = .ok (.string (str (l.drop lo))) W:=fun lo h2 W=>by rw[hS];exact zf1 l lo h2 W
 rw[← hS]
 obtain ⟨HS,HN,HL,SL,SF⟩:=zh5 hS hn hl sl sf
 clear hS hn hl sl sf
 go_enter Tryz.func149,Tryz.ntmps149
 go_wp2
 go_loopw [3,4] (fun v f wr=>∃ pos fr:Nat,pos≤n∧f = .int .i64 fr∧Hid (fr+(cutS (l.take pos)).2.length=pos)∧Stg wr w.heap.size v (cutS (l.take pos)).1∧wr.heap[w.heap.size]? = some (.stringIter S pos)∧w.grownBy wr none) (fun _ _ wr=>n - wr.iterPos w.heap.size)
 case atStart=>exact ⟨0,0,Nat.zero_le _,rfl,by exact rfl,Stg.nil _ _,World.iter_heap _ _ _,zai (zab _ _) _⟩
 case round =>
  obtain ⟨pos,fr,hpn,rfl,hF,hown,hit,hg⟩:=hrel
  have hfr:fr≤pos:=by have:=hF.out;omega
  have hpl0:pos≤l.length:=by rw[← uh HN];exact hpn
  have hcl:=zng (l.take pos)
  have hlast:(l.drop fr).take (pos - fr)=(cutS (l.take pos)).2:=by
   rw[List.length_take_of_le hpl0,show pos - (cutS (l.take pos)).2.length=fr by have:=hF.out;omega] at hcl
   rw[← List.drop_take]
   exact hcl.2
  by_cases hlt:pos<n
  ·have hpl:pos<l.length:=by rw[← uh HN];exact hlt
   have hnx:∀ ty,(Instr.next (.pointer (some ⟨w.heap.size,0,none⟩)) true ty).run Tryz.prog wr=_:=fun ty=>Lib.run_next_any_at wr w.heap.size S pos ty hit (by rw[hsz];exact hlt)
   obtain ⟨x,hx⟩:∃ x,x=(Utf8.decode S pos).1:=⟨_,rfl⟩
   obtain ⟨m,hm⟩:∃ m,m=(Utf8.decode S pos).2:=⟨_,rfl⟩
   rw[← hx,← hm] at hnx
   have hat:=zfa l pos hpl
   rw[← uh HS,← hx,← hm] at hat
   have hgo:1≤m∧pos+m≤n:=by
    rcases hat with ⟨_,e⟩ | ⟨_,_,h3,h4,_⟩
    ·have:(Utf8.decode S pos).2=1:=by rw[e]
     omega
    ·have:=uh HN;omega
   have hxx:(x=47∧m=1∧l[pos]=47)∨(x≠47∧∀ c∈(l.drop pos).take m,c≠47):=by
    rcases hat with ⟨h1,e⟩ | ⟨_,h2,_,_,h5⟩
    ·have e1:x=l[pos].toNat:=by rw[hx,e]
     have e2:m=1:=by rw[hm,e]
     subst e2
     by_cases h47:x=47
     ·left;exact ⟨h47,rfl,UInt8.toNat_inj.1 (by rw[← e1,h47];rfl)⟩
     ·right
      refine ⟨h47,fun c hc => ?_⟩
      rw[List.drop_eq_getElem_cons hpl] at hc
      obtain rfl:c=l[pos]:=List.mem_singleton.1 hc
      intro e3
      rw[e1,e3] at h47
      exact h47 rfl
    ·right
     refine ⟨by omega,fun c hc e3 => ?_⟩
     have:=h5 c hc
     rw[e3] at this
     revert this;decide
   have hit2:=Lib.iterAt_heap wr w.heap.size S pos (pos+m) hit
   have hg2:=zdy hg w.heap.size S (pos+m) (Or.inl (Nat.le_refl _))
   have hown2:=hown.iterAt hit (pos+m)
   obtain ⟨HG,HI,HI0⟩:=zh3 hgo hit2 hit
   have hp0:(0:Int)≤(pos:Int):=by omega
   have hpm:(pos:Int)+1<9223372036854775807:=by have:=uh HL;omega
   clear hat hx hm hgo hit hit2 hcl hown
   rcases hxx with ⟨rfl,rfl,hc⟩ | ⟨hx1,hc⟩
   ·have sl:=uh SL fr pos hfr hpl0
    rw[hlast] at sl
    have hcut:cutS (l.take (pos+1))=((cutS (l.take pos)).1++[(cutS (l.take pos)).2],[]):=by
     rw[List.take_succ_eq_append_getElem hpl,hc,zlq];rfl
    obtain ⟨D,hD⟩:∃ D,D=(cutS (l.take pos)).1:=⟨_,rfl⟩
    obtain ⟨C,hC⟩:∃ C,C=(cutS (l.take pos)).2:=⟨_,rfl⟩
    have hDn:D.length≤1000000:=by
     have h1:=zc5 (l.take pos)
     rw[← zhd,← hD,List.length_append,List.length_take_of_le hpl0] at h1
     have:=uh HL
     omega
    rw[← hC] at sl
    rw[← hD] at hown2
    rw[← hD,← hC] at hcut
    obtain ⟨HD,HC⟩:=zh2 hDn hcut
    obtain ⟨WI,hWI⟩:∃ WI,WI=wr.iterAt w.heap.size S (pos+1):=⟨_,rfl⟩
    rw[← hWI] at hnx hg2 hown2 HI
    obtain ⟨Wa,hWa,hca,ga⟩:=zhj WI C
    have hownA:=hown2.kept ga
    have hgA:=tn hg2 ga
    clear hlast hC hD hcut hDn hF hc hown2
    obtain ⟨HW,HWI⟩:=zh2 hWa hWI
    clear hWa hWI
    go_wp2_with (at_builtin;rw[← uh HW];refine zcp rfl _ _ rfl w.heap.size _ D C WI.heap.size rfl hownA rfl hca (uh HD) hgA.size ?_)
    intro v' w3 hown3 g3
    have hit3:w3.heap[w.heap.size]? = some (.stringIter S (pos+1)):=by
     have h1:=uh HI
     have hlt2:w.heap.size<WI.heap.size:=(Array.getElem?_eq_some_iff.1 h1).1
     have h2:Wa.heap[w.heap.size]? = some (.stringIter S (pos+1)):=by rw[ga.block _ hlt2 (by simp)];exact h1
     rw[g3.block _ (Nat.lt_of_lt_of_le hlt2 ga.size) (fun e=>zjd hownA h2 e.symm)]
     exact h2
    have hg3:w.grownBy w3 none:=zac hgA g3 (fun x e=>Or.inl (hownA.lt x e).1)
    go_wp2
    go_roundw
    case rel=>exact ⟨pos+1,pos+1,(uh HG).2,by go_num,by rw[uh HC];exact rfl,by rw[uh HC];exact hown3,hit3,hg3⟩
    case measure =>
     have h3:=uh HI0
     simp only[World.iterPos,hit3,h3]
     omega
   ·have hcut:cutS (l.take (pos+m))=((cutS (l.take pos)).1,(cutS (l.take pos)).2++(l.drop pos).take m):=by
     rw[zlr,zj4 _ _ hc]
    have hml:((l.drop pos).take m).length=m:=by
     have h1:=(uh HG).2
     have h2:=uh HN
     rw[List.length_take,List.length_drop];omega
    have q1:((x:Int) == 47)=false:=by simp;omega
    obtain ⟨HC,HM⟩:=zh2 hcut hml
    clear hcut hml hc hx1 hlast
    go_wp2
    go_roundw
    case rel =>
     refine ⟨pos+m,fr,(uh HG).2,rfl,?_,by rw[uh HC];exact hown2,uh HI,hg2⟩
     rw[uh HC,List.length_append,uh HM,← Nat.add_assoc,hF.out]
     exact rfl
    case measure =>
     have h1:=(uh HG).1
     have h2:=uh HI
     have h3:=uh HI0
     simp only[World.iterPos,h2,h3]
     omega
  ·have hnx:∀ ty,(Instr.next (.pointer (some ⟨w.heap.size,0,none⟩)) true ty).run Tryz.prog wr=_:=fun ty=>Lib.run_next_end_at wr w.heap.size S pos ty hit (by rw[hsz];exact hlt)
   have hpe:pos=l.length:=by have:=uh HN;omega
   have sf:=uh SF fr (by omega)
   have htk:l.take pos=l:=by rw[hpe,List.take_length]
   have hC:l.drop fr=(cutS l).2:=by
    rw[htk] at hlast
    rw[← hlast,List.take_of_length_le (by rw[List.length_drop];omega)]
   rw[htk] at hown
   rw[hC] at sf
   have hcp:=zhd l
   obtain ⟨D,hD⟩:∃ D,D=(cutS l).1:=⟨_,rfl⟩
   obtain ⟨C,hC2⟩:∃ C,C=(cutS l).2:=⟨_,rfl⟩
   rw[← hD,← hC2] at hcp
   rw[← hD] at hown
   rw[← hC2] at sf
   have hDn:D.length≤1000000:=by
    have h1:=zc5 l
    rw[← hcp,List.length_append] at h1
    have:=uh HL
    omega
   obtain ⟨HD,HC⟩:=zh2 hDn hcp
   obtain ⟨Wa,hWa,hca,ga⟩:=zhj wr C
   have hownA:=hown.kept ga
   have hgA:=tn hg ga
   have HW:=hide hWa
   clear hWa hlast hcl hF hpe htk hC hcp hD hC2 hDn hown
   go_wp2_with (at_builtin;rw[← uh HW];refine zcp rfl _ _ rfl w.heap.size _ D C wr.heap.size rfl hownA rfl hca (uh HD) hgA.size ?_)
   intro v' w3 hown3 g3
   have hg3:w.grownBy w3 none:=zac hgA g3 (fun x e=>Or.inl (hownA.lt x e).1)
   go_wp2
   go_ret
   exact ⟨_,rfl,by rw[← uh HC];exact hown3,hg3⟩
end Go.Proofs.YtegbbkgmiklhcaaGreatDoor
