/- Lemmas. -/
import Derived.Test.YthhnfloohbdaiaaGreatDoorGIdb
namespace Go.Proofs.YthhnfloohbdaiaaGreatDoor
open Go.RowKit
theorem zwl {v8 v7 v7' : Value} {h:Nat} (hap:v7.ownBlock=none∨v7.ownBlock≠v8.ownBlock) (hat:v7'.ownBlock=v7.ownBlock∨v7'.ownBlock=some h) (hlt:∀ k,v8.ownBlock=some k→k<h):v7'.ownBlock=none∨v7'.ownBlock≠v8.ownBlock:=by
 rcases hat with e | e
 ·rw[e];exact hap
 ·refine Or.inr fun e2 => ?_
  have:=hlt h (by rw[← e2];exact e)
  omega
theorem zjv {a b:Value} (h:a.ownBlock=none∨a.ownBlock≠b.ownBlock):b.ownBlock=none∨b.ownBlock≠a.ownBlock:=by
 by_cases e:b.ownBlock=none
 ·exact Or.inl e
 ·rcases h with h | h
  ·exact Or.inr (by rw[h];exact e)
  ·exact Or.inr fun e2=>h e2.symm
end Go.Proofs.YthhnfloohbdaiaaGreatDoor
