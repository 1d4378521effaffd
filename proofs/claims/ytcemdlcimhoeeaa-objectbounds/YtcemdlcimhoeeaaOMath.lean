/- Objects as functions of lists of bytes: what the data of a tree, a commit and a note are, when there is one, and what is read out of data; and that what is laid is read as it was. No condition but those that each lemma names. -/
import Derived.Test.YtcemdlcimhoeeaaMMake
import Derived.Test.YtcemdlcimhoeeaaNMath
import Derived.Test.YtcemdlcimhoeeaaNLess
namespace Go.Proofs.Ytcemdlcimhoeeaa
open Go.RowKit

/-- An entry of a tree. -/
structure EntL where
  name : List UInt8
  dir : Bool
  id : List UInt8
deriving Inhabited, DecidableEq

/-- A commit. -/
structure ChgL where
  tree : List UInt8
  pars : List (List UInt8)
  time : Nat
  author : List UInt8
  text : List UInt8
deriving Inhabited, DecidableEq

/-- A note. -/
structure MrkL where
  target : List UInt8
  name : List UInt8
  text : List UInt8
deriving Inhabited, DecidableEq

def dirN (b : Bool) : Nat := if b then 1 else 0
def entB (e : EntL) : List UInt8 := lb (dirN e.dir) 1 ++ layS e.name ++ e.id
def treeB (es : List EntL) : List UInt8 := lb es.length 2 ++ es.flatMap entB
def chgB (c : ChgL) : List UInt8 := c.tree ++ lb c.pars.length 1 ++ c.pars.flatten ++ lb c.time 8 ++ layS c.author ++ layS c.text
def mrkB (m : MrkL) : List UInt8 := m.target ++ layS m.name ++ layS m.text

/-- The entry at i has a name that may be there. -/
def goodAt (es : List EntL) (i : Nat) : Bool := partB (es.getD i default).name && (decide (i = 0) || lessL (es.getD (i - 1) default).name (es.getD i default).name)
/-- All up to n have. -/
def goodTo (es : List EntL) (n : Nat) : Bool := (List.range n).all (goodAt es)
/-- No parent up to n is there twice. -/
def onceAt (ps : List (List UInt8)) (i : Nat) : Bool := !((ps.take i).contains (ps.getD i []))
def onceTo (ps : List (List UInt8)) (n : Nat) : Bool := (List.range n).all (onceAt ps)

/-- An object's data, if they are not too many; else an error. -/
def fitB (d : List UInt8) : Int × List UInt8 := if 16384 < d.length then (3, []) else (0, d)
def ofTree (es : List EntL) : Int × List UInt8 := if 32 < es.length then (3, []) else if goodTo es es.length = true then fitB (treeB es) else (2, [])
def ofChg (c : ChgL) : Int × List UInt8 := if 4 < c.pars.length then (3, []) else if onceTo c.pars c.pars.length = true then fitB (chgB c) else (2, [])
def ofMrk (m : MrkL) : Int × List UInt8 := if kindL m.name = 2 then fitB (mrkB m) else (2, [])

theorem goodTo_succ (es : List EntL) (n : Nat) : goodTo es (n + 1) = (goodTo es n && goodAt es n) := by
  simp [goodTo, List.range_succ]
theorem onceTo_succ (ps : List (List UInt8)) (n : Nat) : onceTo ps (n + 1) = (onceTo ps n && onceAt ps n) := by
  simp [onceTo, List.range_succ]
theorem all_not {f : Nat → Bool} {n i : Nat} (h : i < n) (hf : f i = false) : (List.range n).all f = false := by
  rw [List.all_eq_false]
  exact ⟨i, List.mem_range.2 h, by simp [hf]⟩

/-- Bytes, filled up to 32. -/
def pad32 (x : List UInt8) : List UInt8 := x ++ List.replicate (32 - x.length) 0

/-- One more entry is read. -/
def stepE (p : List EntL × List UInt8 × Int) : List EntL × List UInt8 × Int :=
  let a := numS p.2.1 p.2.2 1
  let b := sizedS a.2.1 a.2.2
  let c := rawS b.2.1 b.2.2 32
  (p.1 ++ [⟨b.1, decide (a.1 = 1), pad32 c.1⟩], c.2)
def runE (s : List UInt8 × Int) : Nat → List EntL × List UInt8 × Int
  | 0 => ([], s)
  | n + 1 => stepE (runE s n)
/-- One more parent is read. -/
def stepP (p : List (List UInt8) × List UInt8 × Int) : List (List UInt8) × List UInt8 × Int :=
  let c := rawS p.2.1 p.2.2 32
  (p.1 ++ [pad32 c.1], c.2)
def runP (s : List UInt8 × Int) : Nat → List (List UInt8) × List UInt8 × Int
  | 0 => ([], s)
  | n + 1 => stepP (runP s n)

/-- The entries that are read out of data. -/
def readT (d : List UInt8) : List EntL := let a := numS d 0 2; (runE a.2 (min a.1 32)).1
/-- The commit that is read out of data. -/
def readC (d : List UInt8) : ChgL :=
  let t := rawS d 0 32
  let n := numS t.2.1 t.2.2 1
  let p := runP n.2 (min n.1 4)
  let m := numS p.2.1 p.2.2 8
  let a := sizedS m.2.1 m.2.2
  let x := sizedS a.2.1 a.2.2
  ⟨pad32 t.1, p.1, m.1, a.1, x.1⟩
/-- The note that is read out of data. -/
def readM (d : List UInt8) : MrkL :=
  let t := rawS d 0 32
  let a := sizedS t.2.1 t.2.2
  let x := sizedS a.2.1 a.2.2
  ⟨pad32 t.1, a.1, x.1⟩

def treeOf (d : List UInt8) : Option (List EntL) := if ofTree (readT d) = (0, d) then some (readT d) else none
def chgOf (d : List UInt8) : Option ChgL := if ofChg (readC d) = (0, d) then some (readC d) else none
def mrkOf (d : List UInt8) : Option MrkL := if ofMrk (readM d) = (0, d) then some (readM d) else none

def errO {α : Type} (o : Option α) : Int := if o.isSome then 0 else 11

/-- What is wrong with an object. -/
def checkL (k : Int) (d : List UInt8) : Int :=
  if k < 1 ∨ 4 < k then 2 else if 16384 < d.length then 3 else if k = 2 then errO (treeOf d) else if k = 3 then errO (chgOf d) else if k = 4 then errO (mrkOf d) else 0
/-- The objects that an object names. -/
def linksL (k : Int) (d : List UInt8) : List (List UInt8) :=
  if checkL k d ≠ 0 then [] else if k = 2 then ((treeOf d).getD []).map (·.id) else if k = 3 then ((chgOf d).getD default).tree :: ((chgOf d).getD default).pars else if k = 4 then [((mrkOf d).getD default).target] else []
/-- An object's bytes. -/
def putL (k : Int) (d : List UInt8) : List UInt8 := [UInt8.ofInt k] ++ layS d

theorem rawS_lay (x m : List UInt8) (n : Nat) (h : x.length = n) : rawS (x ++ m) 0 (n : Int) = (x, m, 0) := by
  unfold rawS
  rw [if_pos rfl, if_neg (by simp; omega)]
  simp [← h]
theorem numS1_lay (v : Nat) (h : v < 256) (m : List UInt8) : numS (lb v 1 ++ m) 0 1 = (v, m, 0) := by
  have hnb : nb 1 = 1 := by decide
  have hl := lb_len v 1
  unfold numS
  rw [if_pos rfl, hnb, if_neg (by rw [List.length_append]; omega), List.take_append_of_le_length (by omega), List.take_of_length_le (by omega), be_lb, Nat.mod_eq_of_lt (by omega), List.drop_append_of_le_length (by omega), List.drop_of_length_le (by omega)]
  rfl
theorem pad32_id (x : List UInt8) (h : x.length = 32) : pad32 x = x := by simp [pad32, h]
theorem pad32_len (x : List UInt8) (h : x.length ≤ 32) : (pad32 x).length = 32 := by simp [pad32]; omega
theorem rawS_le (l : List UInt8) (e : Int) (n : Nat) : (rawS l e (n : Int)).1.length ≤ n := by
  unfold rawS
  repeat' split
  all_goals simp
  omega
theorem raw32_len (l : List UInt8) (e : Int) : (pad32 (rawS l e 32).1).length = 32 := pad32_len _ (rawS_le l e 32)
theorem rawS_len (l : List UInt8) (e n : Int) : (rawS l e n).2.1.length ≤ l.length := by
  unfold rawS
  repeat' split
  all_goals simp
theorem sizedS_le (l : List UInt8) (e : Int) : (sizedS l e).1.length ≤ l.length := by
  unfold sizedS
  repeat' split
  all_goals simp
  omega

/-- An entry that may be laid. -/
def EntL.Ok (e : EntL) : Prop := e.id.length = 32 ∧ e.name.length ≤ 65536

theorem stepE_lay (acc : List EntL) (e : EntL) (m : List UInt8) (h : e.Ok) : stepE (acc, entB e ++ m, 0) = (acc ++ [e], m, 0) := by
  obtain ⟨name, dir, id⟩ := e
  have h1 := numS1_lay (dirN dir) (by unfold dirN; split <;> omega) (layS name ++ (id ++ m))
  have h2 := sizedS_lay name (id ++ m) h.2
  have h3 := rawS_lay id m 32 h.1
  have h4 := pad32_id id h.1
  have e1 : entB ⟨name, dir, id⟩ ++ m = lb (dirN dir) 1 ++ (layS name ++ (id ++ m)) := by simp [entB]
  have h5 : decide (dirN dir = 1) = dir := by cases dir <;> rfl
  unfold stepE
  simp only [e1, h1, h2]
  rw [show (32 : Int) = ((32 : Nat) : Int) from rfl, h3]
  simp only [h4, h5]


theorem runE_lay (es : List EntL) (m : List UInt8) (h : ∀ e ∈ es, e.Ok) : ∀ k, k ≤ es.length → runE (es.flatMap entB ++ m, 0) k = (es.take k, (es.drop k).flatMap entB ++ m, 0) := by
  intro k
  induction k with
  | zero => intro _; simp [runE]
  | succ k ih =>
    intro hk
    have h1 := ih (by omega)
    rw [runE, h1, List.drop_eq_getElem_cons (by omega), List.flatMap_cons, List.append_assoc, stepE_lay _ _ _ (h _ (List.getElem_mem _)), List.take_succ_eq_append_getElem (by omega)]

theorem readT_lay (es : List EntL) (hn : es.length ≤ 32) (h : ∀ e ∈ es, e.Ok) : readT (treeB es) = es := by
  have h1 := numS2_lay es.length (by omega) (es.flatMap entB)
  have h2 := runE_lay es [] h es.length (Nat.le_refl _)
  rw [List.append_nil] at h2
  unfold readT treeB
  simp only [h1, Nat.min_eq_left hn, h2]
  simp

theorem runP_lay (ps : List (List UInt8)) (m : List UInt8) (h : ∀ x ∈ ps, x.length = 32) : ∀ k, k ≤ ps.length → runP (ps.flatten ++ m, 0) k = (ps.take k, (ps.drop k).flatten ++ m, 0) := by
  intro k
  induction k with
  | zero => intro _; simp [runP]
  | succ k ih =>
    intro hk
    have h1 := ih (by omega)
    have h32 := h _ (List.getElem_mem (l := ps) (n := k) (by omega))
    have h3 := rawS_lay (ps[k]) ((ps.drop (k + 1)).flatten ++ m) 32 h32
    rw [runP, h1, List.drop_eq_getElem_cons (by omega), List.flatten_cons, List.append_assoc]
    unfold stepP
    simp only
    rw [show (32 : Int) = ((32 : Nat) : Int) from rfl, h3, pad32_id _ h32, List.take_succ_eq_append_getElem (by omega)]

/-- A commit that may be laid. -/
def ChgL.Ok (c : ChgL) : Prop := c.tree.length = 32 ∧ (∀ x ∈ c.pars, x.length = 32) ∧ c.time < 18446744073709551616 ∧ c.author.length ≤ 65536 ∧ c.text.length ≤ 65536
/-- A note that may be laid. -/
def MrkL.Ok (m : MrkL) : Prop := m.target.length = 32 ∧ m.name.length ≤ 65536 ∧ m.text.length ≤ 65536

theorem readC_lay (c : ChgL) (hn : c.pars.length ≤ 4) (h : c.Ok) : readC (chgB c) = c := by
  obtain ⟨tree, pars, time, author, text⟩ := c
  obtain ⟨ht, hp, hm, ha, hx⟩ := h
  simp only at ht hp hm ha hx hn
  have e1 : chgB ⟨tree, pars, time, author, text⟩ = tree ++ (lb pars.length 1 ++ (pars.flatten ++ (lb time 8 ++ (layS author ++ (layS text ++ []))))) := by simp [chgB]
  have h1 := rawS_lay tree (lb pars.length 1 ++ (pars.flatten ++ (lb time 8 ++ (layS author ++ (layS text ++ []))))) 32 ht
  have h2 := numS1_lay pars.length (by omega) (pars.flatten ++ (lb time 8 ++ (layS author ++ (layS text ++ []))))
  have h3 := runP_lay pars (lb time 8 ++ (layS author ++ (layS text ++ []))) hp pars.length (Nat.le_refl _)
  have h4 := numS8_lay time hm (layS author ++ (layS text ++ []))
  have h5 := sizedS_lay author (layS text ++ []) ha
  have h6 := sizedS_lay text [] hx
  rw [List.take_of_length_le (Nat.le_refl _), List.drop_of_length_le (Nat.le_refl _), List.flatten_nil, List.nil_append] at h3
  unfold readC
  simp only [e1]
  rw [show (32 : Int) = ((32 : Nat) : Int) from rfl]
  simp only [h1, h2, Nat.min_eq_left hn, h3, h4, h5, h6, pad32_id _ ht]

theorem readM_lay (m : MrkL) (h : m.Ok) : readM (mrkB m) = m := by
  obtain ⟨target, name, text⟩ := m
  obtain ⟨ht, hn, hx⟩ := h
  simp only at ht hn hx
  have e1 : mrkB ⟨target, name, text⟩ = target ++ (layS name ++ (layS text ++ [])) := by simp [mrkB]
  have h1 := rawS_lay target (layS name ++ (layS text ++ [])) 32 ht
  have h5 := sizedS_lay name (layS text ++ []) hn
  have h6 := sizedS_lay text [] hx
  unfold readM
  simp only [e1]
  rw [show (32 : Int) = ((32 : Nat) : Int) from rfl]
  simp only [h1, h5, h6, pad32_id _ ht]

end Go.Proofs.Ytcemdlcimhoeeaa
