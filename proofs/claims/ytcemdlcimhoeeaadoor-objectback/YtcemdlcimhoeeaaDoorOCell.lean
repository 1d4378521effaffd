/- Objects as functions of lists of bytes: what the data of a tree, a commit and a note are, when there is one, and what is read out of data; and that what is laid is read as it was. No condition but those that each lemma names. -/
import Derived.Test.YtcemdlcimhoeeaaDoorLbM
import Derived.Test.YtcemdlcimhoeeaaDoorNLet
import Derived.Test.YtcemdlcimhoeeaaDoorNLess
import Derived.Deep.MidRow
namespace Go.Proofs.YtcemdlcimhoeeaaDoor
open Go.RowKit

/-- An entry of a tree. -/
structure EntL where
  name : List UInt8
  dir : Bool
  id : List UInt8
deriving Inhabited, DecidableEq

/-- A commit. -/
structure ChgL where
  tree : List UInt8
  pars : List (List UInt8)
  time : Nat
  author : List UInt8
  text : List UInt8
deriving Inhabited, DecidableEq

/-- A note. -/
structure MrkL where
  target : List UInt8
  name : List UInt8
  text : List UInt8
deriving Inhabited, DecidableEq

def dirN (b : Bool) : Nat := if b then 1 else 0
def entB (e : EntL) : List UInt8 := lb (dirN e.dir) 1 ++ layS e.name ++ e.id
def treeB (es : List EntL) : List UInt8 := lb es.length 2 ++ es.flatMap entB
def chgB (c : ChgL) : List UInt8 := c.tree ++ lb c.pars.length 1 ++ c.pars.flatten ++ lb c.time 8 ++ layS c.author ++ layS c.text
def mrkB (m : MrkL) : List UInt8 := m.target ++ layS m.name ++ layS m.text

/-- The entry at i has a name that may be there. -/
def goodAt (es : List EntL) (i : Nat) : Bool := partB (es.getD i default).name && (decide (i = 0) || lessL (es.getD (i - 1) default).name (es.getD i default).name)
/-- All up to n have. -/
def goodTo (es : List EntL) (n : Nat) : Bool := (List.range n).all (goodAt es)
/-- No parent up to n is there twice. -/
def onceAt (ps : List (List UInt8)) (i : Nat) : Bool := !((ps.take i).contains (ps.getD i []))
def onceTo (ps : List (List UInt8)) (n : Nat) : Bool := (List.range n).all (onceAt ps)

/-- An object's data, if they are not too many; else an error. -/
def fitB (d : List UInt8) : Int × List UInt8 := if 16384 < d.length then (3, []) else (0, d)
def ofTree (es : List EntL) : Int × List UInt8 := if 32 < es.length then (3, []) else if goodTo es es.length = true then fitB (treeB es) else (2, [])
def ofChg (c : ChgL) : Int × List UInt8 := if 4 < c.pars.length then (3, []) else if onceTo c.pars c.pars.length = true then fitB (chgB c) else (2, [])
def ofMrk (m : MrkL) : Int × List UInt8 := if kindL m.name = 2 then fitB (mrkB m) else (2, [])

theorem goodTo_succ (es : List EntL) (n : Nat) : goodTo es (n + 1) = (goodTo es n && goodAt es n) := by
  simp [goodTo, List.range_succ]
theorem onceTo_succ (ps : List (List UInt8)) (n : Nat) : onceTo ps (n + 1) = (onceTo ps n && onceAt ps n) := by
  simp [onceTo, List.range_succ]
theorem all_not {f : Nat → Bool} {n i : Nat} (h : i < n) (hf : f i = false) : (List.range n).all f = false := by
  rw [List.all_eq_false]
  exact ⟨i, List.mem_range.2 h, by simp [hf]⟩

/-- Bytes, filled up to 32. -/
def pad32 (x : List UInt8) : List UInt8 := x ++ List.replicate (32 - x.length) 0

/-- One more entry is read. -/
def stepE (p : List EntL × List UInt8 × Int) : List EntL × List UInt8 × Int :=
  let a := numS p.2.1 p.2.2 1
  let b := sizedS a.2.1 a.2.2
  let c := rawS b.2.1 b.2.2 32
  (p.1 ++ [⟨b.1, decide (a.1 = 1), pad32 c.1⟩], c.2)
def runE (s : List UInt8 × Int) : Nat → List EntL × List UInt8 × Int
  | 0 => ([], s)
  | n + 1 => stepE (runE s n)
/-- One more parent is read. -/
def stepP (p : List (List UInt8) × List UInt8 × Int) : List (List UInt8) × List UInt8 × Int :=
  let c := rawS p.2.1 p.2.2 32
  (p.1 ++ [pad32 c.1], c.2)
def runP (s : List UInt8 × Int) : Nat → List (List UInt8) × List UInt8 × Int
  | 0 => ([], s)
  | n + 1 => stepP (runP s n)

/-- The entries that are read out of data. -/
def readT (d : List UInt8) : List EntL := let a := numS d 0 2; (runE a.2 (min a.1 32)).1
/-- The commit that is read out of data. -/
def readC (d : List UInt8) : ChgL :=
  let t := rawS d 0 32
  let n := numS t.2.1 t.2.2 1
  let p := runP n.2 (min n.1 4)
  let m := numS p.2.1 p.2.2 8
  let a := sizedS m.2.1 m.2.2
  let x := sizedS a.2.1 a.2.2
  ⟨pad32 t.1, p.1, m.1, a.1, x.1⟩
/-- The note that is read out of data. -/
def readM (d : List UInt8) : MrkL :=
  let t := rawS d 0 32
  let a := sizedS t.2.1 t.2.2
  let x := sizedS a.2.1 a.2.2
  ⟨pad32 t.1, a.1, x.1⟩

def treeOf (d : List UInt8) : Option (List EntL) := if ofTree (readT d) = (0, d) then some (readT d) else none
def chgOf (d : List UInt8) : Option ChgL := if ofChg (readC d) = (0, d) then some (readC d) else none
def mrkOf (d : List UInt8) : Option MrkL := if ofMrk (readM d) = (0, d) then some (readM d) else none

def errO {α : Type} (o : Option α) : Int := if o.isSome then 0 else 11

/-- What is wrong with an object. -/
def checkL (k : Int) (d : List UInt8) : Int :=
  if k < 1 ∨ 4 < k then 2 else if 16384 < d.length then 3 else if k = 2 then errO (treeOf d) else if k = 3 then errO (chgOf d) else if k = 4 then errO (mrkOf d) else 0
/-- The objects that an object names. -/
def linksL (k : Int) (d : List UInt8) : List (List UInt8) :=
  if checkL k d ≠ 0 then [] else if k = 2 then ((treeOf d).getD []).map (·.id) else if k = 3 then ((chgOf d).getD default).tree :: ((chgOf d).getD default).pars else if k = 4 then [((mrkOf d).getD default).target] else []
/-- An object's bytes. -/
def putL (k : Int) (d : List UInt8) : List UInt8 := [UInt8.ofInt k] ++ layS d

theorem rawS_lay (x m : List UInt8) (n : Nat) (h : x.length = n) : rawS (x ++ m) 0 (n : Int) = (x, m, 0) := by
  unfold rawS
  rw [if_pos rfl, if_neg (by simp; omega)]
  simp [← h]
theorem numS1_lay (v : Nat) (h : v < 256) (m : List UInt8) : numS (lb v 1 ++ m) 0 1 = (v, m, 0) := by
  have hnb : nb 1 = 1 := by decide
  have hl := lb_len v 1
  unfold numS
  rw [if_pos rfl, hnb, if_neg (by rw [List.length_append]; omega), List.take_append_of_le_length (by omega), List.take_of_length_le (by omega), be_lb, Nat.mod_eq_of_lt (by omega), List.drop_append_of_le_length (by omega), List.drop_of_length_le (by omega)]
  rfl
theorem pad32_id (x : List UInt8) (h : x.length = 32) : pad32 x = x := by simp [pad32, h]
theorem pad32_len (x : List UInt8) (h : x.length ≤ 32) : (pad32 x).length = 32 := by simp [pad32]; omega
theorem rawS_le (l : List UInt8) (e : Int) (n : Nat) : (rawS l e (n : Int)).1.length ≤ n := by
  unfold rawS
  repeat' split
  all_goals simp
  omega
theorem raw32_len (l : List UInt8) (e : Int) : (pad32 (rawS l e 32).1).length = 32 := pad32_len _ (rawS_le l e 32)
theorem rawS_len (l : List UInt8) (e n : Int) : (rawS l e n).2.1.length ≤ l.length := by
  unfold rawS
  repeat' split
  all_goals simp
theorem sizedS_le (l : List UInt8) (e : Int) : (sizedS l e).1.length ≤ l.length := by
  unfold sizedS
  repeat' split
  all_goals simp
  omega

/-- An entry that may be laid. -/
def EntL.Ok (e : EntL) : Prop := e.id.length = 32 ∧ e.name.length ≤ 65536

theorem stepE_lay (acc : List EntL) (e : EntL) (m : List UInt8) (h : e.Ok) : stepE (acc, entB e ++ m, 0) = (acc ++ [e], m, 0) := by
  obtain ⟨name, dir, id⟩ := e
  have h1 := numS1_lay (dirN dir) (by unfold dirN; split <;> omega) (layS name ++ (id ++ m))
  have h2 := sizedS_lay name (id ++ m) h.2
  have h3 := rawS_lay id m 32 h.1
  have h4 := pad32_id id h.1
  have e1 : entB ⟨name, dir, id⟩ ++ m = lb (dirN dir) 1 ++ (layS name ++ (id ++ m)) := by simp [entB]
  have h5 : decide (dirN dir = 1) = dir := by cases dir <;> rfl
  unfold stepE
  simp only [e1, h1, h2]
  rw [show (32 : Int) = ((32 : Nat) : Int) from rfl, h3]
  simp only [h4, h5]


theorem runE_lay (es : List EntL) (m : List UInt8) (h : ∀ e ∈ es, e.Ok) : ∀ k, k ≤ es.length → runE (es.flatMap entB ++ m, 0) k = (es.take k, (es.drop k).flatMap entB ++ m, 0) := by
  intro k
  induction k with
  | zero => intro _; simp [runE]
  | succ k ih =>
    intro hk
    have h1 := ih (by omega)
    rw [runE, h1, List.drop_eq_getElem_cons (by omega), List.flatMap_cons, List.append_assoc, stepE_lay _ _ _ (h _ (List.getElem_mem _)), List.take_succ_eq_append_getElem (by omega)]

theorem readT_lay (es : List EntL) (hn : es.length ≤ 32) (h : ∀ e ∈ es, e.Ok) : readT (treeB es) = es := by
  have h1 := numS2_lay es.length (by omega) (es.flatMap entB)
  have h2 := runE_lay es [] h es.length (Nat.le_refl _)
  rw [List.append_nil] at h2
  unfold readT treeB
  simp only [h1, Nat.min_eq_left hn, h2]
  simp

theorem runP_lay (ps : List (List UInt8)) (m : List UInt8) (h : ∀ x ∈ ps, x.length = 32) : ∀ k, k ≤ ps.length → runP (ps.flatten ++ m, 0) k = (ps.take k, (ps.drop k).flatten ++ m, 0) := by
  intro k
  induction k with
  | zero => intro _; simp [runP]
  | succ k ih =>
    intro hk
    have h1 := ih (by omega)
    have h32 := h _ (List.getElem_mem (l := ps) (n := k) (by omega))
    have h3 := rawS_lay (ps[k]) ((ps.drop (k + 1)).flatten ++ m) 32 h32
    rw [runP, h1, List.drop_eq_getElem_cons (by omega), List.flatten_cons, List.append_assoc]
    unfold stepP
    simp only
    rw [show (32 : Int) = ((32 : Nat) : Int) from rfl, h3, pad32_id _ h32, List.take_succ_eq_append_getElem (by omega)]

/-- A commit that may be laid. -/
def ChgL.Ok (c : ChgL) : Prop := c.tree.length = 32 ∧ (∀ x ∈ c.pars, x.length = 32) ∧ c.time < 18446744073709551616 ∧ c.author.length ≤ 65536 ∧ c.text.length ≤ 65536
/-- A note that may be laid. -/
def MrkL.Ok (m : MrkL) : Prop := m.target.length = 32 ∧ m.name.length ≤ 65536 ∧ m.text.length ≤ 65536

theorem readC_lay (c : ChgL) (hn : c.pars.length ≤ 4) (h : c.Ok) : readC (chgB c) = c := by
  obtain ⟨tree, pars, time, author, text⟩ := c
  obtain ⟨ht, hp, hm, ha, hx⟩ := h
  simp only at ht hp hm ha hx hn
  have e1 : chgB ⟨tree, pars, time, author, text⟩ = tree ++ (lb pars.length 1 ++ (pars.flatten ++ (lb time 8 ++ (layS author ++ (layS text ++ []))))) := by simp [chgB]
  have h1 := rawS_lay tree (lb pars.length 1 ++ (pars.flatten ++ (lb time 8 ++ (layS author ++ (layS text ++ []))))) 32 ht
  have h2 := numS1_lay pars.length (by omega) (pars.flatten ++ (lb time 8 ++ (layS author ++ (layS text ++ []))))
  have h3 := runP_lay pars (lb time 8 ++ (layS author ++ (layS text ++ []))) hp pars.length (Nat.le_refl _)
  have h4 := numS8_lay time hm (layS author ++ (layS text ++ []))
  have h5 := sizedS_lay author (layS text ++ []) ha
  have h6 := sizedS_lay text [] hx
  rw [List.take_of_length_le (Nat.le_refl _), List.drop_of_length_le (Nat.le_refl _), List.flatten_nil, List.nil_append] at h3
  unfold readC
  simp only [e1]
  rw [show (32 : Int) = ((32 : Nat) : Int) from rfl]
  simp only [h1, h2, Nat.min_eq_left hn, h3, h4, h5, h6, pad32_id _ ht]

theorem readM_lay (m : MrkL) (h : m.Ok) : readM (mrkB m) = m := by
  obtain ⟨target, name, text⟩ := m
  obtain ⟨ht, hn, hx⟩ := h
  simp only at ht hn hx
  have e1 : mrkB ⟨target, name, text⟩ = target ++ (layS name ++ (layS text ++ [])) := by simp [mrkB]
  have h1 := rawS_lay target (layS name ++ (layS text ++ [])) 32 ht
  have h5 := sizedS_lay name (layS text ++ []) hn
  have h6 := sizedS_lay text [] hx
  unfold readM
  simp only [e1]
  rw [show (32 : Int) = ((32 : Nat) : Int) from rfl]
  simp only [h1, h5, h6, pad32_id _ ht]

end Go.Proofs.YtcemdlcimhoeeaaDoor

/- Entries, commits and notes in memory, in words of our own; and that such words outlast what a call adds to memory. No condition but those that each lemma names. -/
namespace Go.Proofs.YtcemdlcimhoeeaaDoor
open Go.RowKit

/-- The cells of an entry. -/
def enC (e : EntL) : List Value := .string (str e.name) :: .bool e.dir :: e.id.map bv
/-- The cells of a commit whose parents lie at po. -/
def chC (c : ChgL) (po : Option Addr) (pc : Nat) : List Value := c.tree.map bv ++ [.slice po c.pars.length pc, .int .u64 (c.time : Int), .string (str c.author), .string (str c.text)]
/-- The cells of a note. -/
def mkC (m : MrkL) : List Value := m.target.map bv ++ [.string (str m.name), .string (str m.text)]

theorem enC_len (e : EntL) (h : e.id.length = 32) : (enC e).length = 34 := by simp [enC, h]
theorem chC_len (c : ChgL) (po : Option Addr) (pc : Nat) (h : c.tree.length = 32) : (chC c po pc).length = 36 := by simp [chC, h]
theorem mkC_len (m : MrkL) (h : m.target.length = 32) : (mkC m).length = 34 := by simp [mkC, h]
theorem enC_one (e : EntL) : ∀ u ∈ enC e, u.oneCell' = true := by
  intro u hu
  simp only [enC, List.mem_cons] at hu
  rcases hu with rfl | rfl | hu
  · rfl
  · rfl
  · exact bv_one _ u hu
theorem chC_one (c : ChgL) (po : Option Addr) (pc : Nat) : ∀ u ∈ chC c po pc, u.oneCell' = true := by
  intro u hu
  simp only [chC, List.mem_append, List.mem_cons, List.not_mem_nil, or_false] at hu
  rcases hu with hu | rfl | rfl | rfl | rfl
  · exact bv_one _ u hu
  all_goals rfl
theorem mkC_one (m : MrkL) : ∀ u ∈ mkC m, u.oneCell' = true := by
  intro u hu
  simp only [mkC, List.mem_append, List.mem_cons, List.not_mem_nil, or_false] at hu
  rcases hu with hu | rfl | rfl
  · exact bv_one _ u hu
  all_goals rfl
theorem chC_at (c : ChgL) (po : Option Addr) (pc : Nat) (h : c.tree.length = 32) : (chC c po pc)[32]? = some (.slice po c.pars.length pc) ∧ (chC c po pc)[33]? = some (.int .u64 (c.time : Int)) ∧ (chC c po pc)[34]? = some (.string (str c.author)) ∧ (chC c po pc)[35]? = some (.string (str c.text)) := by
  have hl : (c.tree.map bv).length = 32 := by simp [h]
  unfold chC
  refine ⟨?_, ?_, ?_, ?_⟩ <;> rw [List.getElem?_append_right (by omega), hl] <;> rfl
theorem mkC_at (m : MrkL) (h : m.target.length = 32) : (mkC m)[32]? = some (.string (str m.name)) ∧ (mkC m)[33]? = some (.string (str m.text)) := by
  have hl : (m.target.map bv).length = 32 := by simp [h]
  unfold mkC
  refine ⟨?_, ?_⟩ <;> rw [List.getElem?_append_right (by omega), hl] <;> rfl

theorem info_ent : (Tryd.prog.info? 41).map (·.size) = some 34 := by kernel_rfl
theorem info_obj : (Tryd.prog.info? 34).map (·.size) = some 2 := by kernel_rfl
theorem info_chg : (Tryd.prog.info? 28).map (·.size) = some 36 := by kernel_rfl
theorem info_mrk : (Tryd.prog.info? 30).map (·.size) = some 34 := by kernel_rfl
theorem info_id : (Tryd.prog.info? 24).map (·.size) = some 32 := by kernel_rfl

/-- The slice value '.slice ao es.length c' holds the entries es. -/
structure Ens (w : World) (ao : Option Addr) (c : Nat) (es : List EntL) : Prop where
  zip : ao = none → es.length = 0 ∧ c = 0
  fits : es.length ≤ c
  most : c ≤ maxLen
  shape : ∀ ad, ao = some ad → 0 < es.length → ad.spot = none
  row : ∀ ad, ao = some ad → ∀ i (h : i < es.length), w.rangeAt ad.block (ad.off + i * 34) (enC es[i])
  ids : ∀ e ∈ es, e.id.length = 32

/-- The slice value '.slice ao ps.length c' holds the names ps of objects. -/
structure Ids (w : World) (ao : Option Addr) (c : Nat) (ps : List (List UInt8)) : Prop where
  zip : ao = none → ps.length = 0 ∧ c = 0
  fits : ps.length ≤ c
  most : c ≤ maxLen
  shape : ∀ ad, ao = some ad → 0 < ps.length → ad.spot = none
  row : ∀ ad, ao = some ad → ∀ i (h : i < ps.length), w.rangeAt ad.block (ad.off + i * 32) (ps[i].map bv)
  ids : ∀ x ∈ ps, x.length = 32

theorem Ens.nil (w : World) : Ens w none 0 [] := ⟨fun _ => ⟨rfl, rfl⟩, Nat.le_refl _, Nat.zero_le _, (fun _ e => by cases e), (fun _ e => by cases e), (fun _ h => by simp at h)⟩
theorem Ids.nil (w : World) : Ids w none 0 [] := ⟨fun _ => ⟨rfl, rfl⟩, Nat.le_refl _, Nat.zero_le _, (fun _ e => by cases e), (fun _ e => by cases e), (fun _ h => by simp at h)⟩
theorem Ens.kept {w a : World} {ao : Option Addr} {c : Nat} {es : List EntL} {r : Option Nat} (h : Ens w ao c es) (g : w.grownBy a r) (hr : ∀ x, r = some x → Off ao x) : Ens a ao c es :=
  ⟨h.zip, h.fits, h.most, h.shape, fun ad e i hi => range_kept (h.row ad e i hi) g (fun e2 => hr _ e2.symm ad e rfl), h.ids⟩
theorem Ids.kept {w a : World} {ao : Option Addr} {c : Nat} {ps : List (List UInt8)} {r : Option Nat} (h : Ids w ao c ps) (g : w.grownBy a r) (hr : ∀ x, r = some x → Off ao x) : Ids a ao c ps :=
  ⟨h.zip, h.fits, h.most, h.shape, fun ad e i hi => range_kept (h.row ad e i hi) g (fun e2 => hr _ e2.symm ad e rfl), h.ids⟩
theorem Ens.none {w a : World} {ao : Option Addr} {c : Nat} {es : List EntL} (h : Ens w ao c es) (g : w.grownBy a Option.none) : Ens a ao c es := h.kept g (fun _ e => by cases e)
theorem Ids.none {w a : World} {ao : Option Addr} {c : Nat} {ps : List (List UInt8)} (h : Ids w ao c ps) (g : w.grownBy a Option.none) : Ids a ao c ps := h.kept g (fun _ e => by cases e)

theorem Ens.at {w : World} {ao : Option Addr} {c : Nat} {es : List EntL} (h : Ens w ao c es) (i : Nat) (hi : i < es.length) : ∃ b o, ao = some ⟨b, o, Option.none⟩ ∧ ∀ k (hk : k < es.length), w.rangeAt b (o + k * 34) (enC es[k]) := by
  obtain ⟨ad, had⟩ : ∃ ad, ao = some ad := by
    cases ao with
    | none => have := (h.zip rfl).1; omega
    | some ad => exact ⟨ad, rfl⟩
  have hs := h.shape ad had (by omega)
  have h0 := h.row ad had
  obtain ⟨b, o, s⟩ := ad
  simp only at hs h0
  subst hs
  exact ⟨b, o, had, h0⟩
theorem Ids.at {w : World} {ao : Option Addr} {c : Nat} {ps : List (List UInt8)} (h : Ids w ao c ps) (i : Nat) (hi : i < ps.length) : ∃ b o, ao = some ⟨b, o, Option.none⟩ ∧ ∀ k (hk : k < ps.length), w.rangeAt b (o + k * 32) (ps[k].map bv) := by
  obtain ⟨ad, had⟩ : ∃ ad, ao = some ad := by
    cases ao with
    | none => have := (h.zip rfl).1; omega
    | some ad => exact ⟨ad, rfl⟩
  have hs := h.shape ad had (by omega)
  have h0 := h.row ad had
  obtain ⟨b, o, s⟩ := ad
  simp only at hs h0
  subst hs
  exact ⟨b, o, had, h0⟩
theorem Ids.take {w : World} {ao : Option Addr} {c : Nat} {ps : List (List UInt8)} (h : Ids w ao c ps) (n : Nat) (hn : n ≤ ps.length) : Ids w ao c (ps.take n) := by
  refine ⟨(fun e => ?_), ?_, h.most, (fun ad e hp => h.shape ad e (by simp at hp; omega)), (fun ad e i hi => ?_), (fun x hx => h.ids x (List.mem_of_mem_take hx))⟩
  · have := h.zip e
    exact ⟨by simp; omega, this.2⟩
  · have := h.fits; simp; omega
  · have hi' : i < ps.length := by simp at hi; omega
    have := h.row ad e i hi'
    simpa using this

theorem flat_at {α : Type} (f : α → List Value) (k : Nat) (L : List α) (h : ∀ x ∈ L, (f x).length = k) (i j : Nat) (hi : i < L.length) (hj : j < k) : (L.flatMap f)[i * k + j]? = (f L[i])[j]? := by
  induction L generalizing i with
  | nil => simp at hi
  | cons x L ih =>
    have hx := h x (by simp)
    rw [List.flatMap_cons]
    cases i with
    | zero => rw [Nat.zero_mul, Nat.zero_add, List.getElem?_append_left (by omega)]; rfl
    | succ i =>
      rw [List.getElem?_append_right (by rw [hx, Nat.succ_mul]; omega), hx, show (i + 1) * k + j - k = i * k + j by rw [Nat.succ_mul]; omega]
      exact ih (fun y hy => h y (List.mem_cons_of_mem _ hy)) i (by simpa using hi)
theorem flat_len2 {α : Type} (f : α → List Value) (k : Nat) (L : List α) (h : ∀ x ∈ L, (f x).length = k) : (L.flatMap f).length = L.length * k := by
  induction L with
  | nil => simp
  | cons x L ih =>
    have hx := h x (by simp)
    rw [List.flatMap_cons, List.length_append, hx, ih (fun y hy => h y (List.mem_cons_of_mem _ hy)), List.length_cons, Nat.succ_mul]
    omega

/-- What the call itself has laid. -/
theorem own_rows {α : Type} (f : α → List Value) (k : Nat) {w : World} {base : Nat} {t : TypeId} {v : Value} {L : List α} (h : w.ownsRow base t k v L.length (L.flatMap f)) (hf : ∀ x ∈ L, (f x).length = k) :
    ∃ ao c, v = .slice ao L.length c ∧ (ao = none → L.length = 0 ∧ c = 0) ∧ L.length ≤ c ∧ c ≤ maxLen ∧ (∀ ad, ao = some ad → ad.spot = none ∧ base ≤ ad.block) ∧ ∀ ad, ao = some ad → ∀ i (h : i < L.length), w.rangeAt ad.block (ad.off + i * k) (f L[i]) := by
  rcases h.2 with ⟨rfl, h2⟩ | ⟨g, cap, cur, rfl, hg, hh, h3, h4, h5, h6⟩
  · have := List.eq_nil_of_length_eq_zero h2
    subst this
    exact ⟨none, 0, rfl, fun _ => ⟨rfl, rfl⟩, Nat.le_refl _, Nat.zero_le _, (fun _ e => by cases e), fun _ e => by cases e⟩
  · refine ⟨_, _, rfl, (fun e => by cases e), h3, h4, (fun ad e => by cases e; exact ⟨rfl, hg⟩), fun ad e i hi j v hv => ?_⟩
    cases e
    have hj : j < k := by rw [← hf L[i] (List.getElem_mem _)]; exact (List.getElem?_eq_some_iff.1 hv).1
    have h7 : (cur.toList.take (L.length * k))[i * k + j]? = (L.flatMap f)[i * k + j]? := by rw [h6]
    have h8 : (i + 1) * k ≤ L.length * k := Nat.mul_le_mul_right k hi
    rw [Nat.succ_mul] at h8
    rw [List.getElem?_take_of_lt (by omega), flat_at f k L hf i j hi hj, hv] at h7
    simp only [World.cell?, hh, Nat.zero_add]
    simpa using h7

theorem Ens.own {w : World} {base : Nat} {v : Value} {es : List EntL} (h : w.ownsRow base 41 34 v es.length (es.flatMap enC)) (hi : ∀ e ∈ es, e.id.length = 32) : ∃ ao c, v = .slice ao es.length c ∧ Ens w ao c es := by
  obtain ⟨ao, c, h1, h2, h3, h4, h5, h6⟩ := own_rows enC 34 h (fun x hx => enC_len x (hi x hx))
  exact ⟨ao, c, h1, h2, h3, h4, fun ad e _ => (h5 ad e).1, h6, hi⟩
theorem Ids.own {w : World} {base : Nat} {v : Value} {ps : List (List UInt8)} (h : w.ownsRow base 24 32 v ps.length (ps.flatMap (·.map bv))) (hi : ∀ x ∈ ps, x.length = 32) : ∃ ao c, v = .slice ao ps.length c ∧ Ids w ao c ps := by
  obtain ⟨ao, c, h1, h2, h3, h4, h5, h6⟩ := own_rows (fun x : List UInt8 => x.map bv) 32 h (fun x hx => by simp [hi x hx])
  exact ⟨ao, c, h1, h2, h3, h4, fun ad e _ => (h5 ad e).1, h6, hi⟩

end Go.Proofs.YtcemdlcimhoeeaaDoor
