/- What is sealed, its tag, and what is opened, as functions of lists. No program is spoken of here. No condition but those that each lemma names. -/
import Derived.Test.YtjckdgapefaokaaDoorCMath
import Derived.Test.YtjckdgapefaokaaDoorPMath2
namespace Go.Proofs.YtjckdgapefaokaaDoor

/-- As few zeros as make a multiple of 16. -/
def zer16 (n : Nat) : List UInt8 := List.replicate ((16 - n % 16) % 16) 0
theorem zer16_length (n : Nat) : (zer16 n).length = (16 - n % 16) % 16 := by simp [zer16]
theorem zer16_mod (n : Nat) : (n + (zer16 n).length) % 16 = 0 := by rw [zer16_length]; omega
/-- What the tag is told of. -/
def macT (be x : List UInt8) : List UInt8 := ((((be ++ zer16 be.length) ++ x) ++ zer16 x.length) ++ leB 8 be.length) ++ leB 8 x.length
theorem macT_length (be x : List UInt8) : (macT be x).length ≤ be.length + x.length + 46 := by
  simp only [macT, List.length_append, zer16_length, leB_length]; omega
/-- THE TAG of a sealed text. -/
def tagA (k n be x : List UInt8) : List UInt8 := tagL ((blockL k n 0).take 32) (macT be x)
theorem tagA_length (k n be x : List UInt8) : (tagA k n be x).length = 16 := tagL_length _ _
/-- WHAT IS SEALED. -/
def sealL (k n be t : List UInt8) : List UInt8 := streamL k n 1 t ++ tagA k n be (streamL k n 1 t)
theorem sealL_length (k n be t : List UInt8) : (sealL k n be t).length = t.length + 16 := by simp [sealL, tagA_length, streamL_length]
/-- Is it opened? -/
def openB (k n be y : List UInt8) : Bool := decide (16 ≤ y.length) && (tagA k n be (y.take (y.length - 16)) == y.drop (y.length - 16))
/-- WHAT IS OPENED. -/
def openL (k n be y : List UInt8) : List UInt8 := if openB k n be y then streamL k n 1 (y.take (y.length - 16)) else []

theorem sealL_take (k n be t : List UInt8) : (sealL k n be t).take t.length = streamL k n 1 t := by
  rw [sealL, List.take_append_of_le_length (by rw [streamL_length]; omega), List.take_of_length_le (by rw [streamL_length]; omega)]
theorem sealL_drop (k n be t : List UInt8) : (sealL k n be t).drop t.length = tagA k n be (streamL k n 1 t) := by
  rw [sealL, List.drop_append_of_le_length (by rw [streamL_length]; omega), List.drop_of_length_le (by rw [streamL_length]; omega), List.nil_append]
theorem open_seal (k n be t : List UInt8) : openB k n be (sealL k n be t) = true := by
  rw [openB, sealL_length, show t.length + 16 - 16 = t.length by omega, sealL_take, sealL_drop]
  simp
theorem open_text (k n be t : List UInt8) : openL k n be (sealL k n be t) = t := by
  rw [openL, if_pos (open_seal k n be t), sealL_length, show t.length + 16 - 16 = t.length by omega, sealL_take, streamL_twice]
/-- With another byte in the tag it is not opened. -/
theorem open_turned (k n be t : List UInt8) (i : Nat) (x : UInt8) (h1 : t.length ≤ i) (h2 : i < t.length + 16) (hx : x ≠ (sealL k n be t).getD i 0) : openB k n be ((sealL k n be t).set i x) = false := by
  rw [openB, List.length_set, sealL_length, show t.length + 16 - 16 = t.length by omega, List.take_set_of_le h1, sealL_take]
  have hne : tagA k n be (streamL k n 1 t) ≠ ((sealL k n be t).set i x).drop t.length := by
    intro e
    have e2 := congrArg (fun l => l.getD (i - t.length) 0) e
    rw [← sealL_drop] at e2
    simp only [List.getD, List.getElem?_drop, show t.length + (i - t.length) = i by omega] at e2
    rw [List.getElem?_set_self (by rw [sealL_length]; exact h2)] at e2
    exact hx e2.symm
  rw [beq_eq_false_iff_ne.2 hne, Bool.and_false]
theorem open_short (k n be y : List UInt8) (h : y.length < 16) : openB k n be y = false := by
  rw [openB, decide_eq_false (by omega)]; rfl
theorem openL_no {k n be y : List UInt8} (h : openB k n be y = false) : openL k n be y = [] := by rw [openL, h]; rfl
/-- The first bytes do not hang on what follows, nor on what is beside. -/
theorem seal_begins (k n be be2 t : List UInt8) (m : Nat) (h : m ≤ t.length) : (sealL k n be t).take m = (sealL k n be2 (t.take m)).take m := by
  have h1 : (t.take m).length = m := by rw [List.length_take]; omega
  have h2 := sealL_take k n be2 (t.take m)
  rw [h1] at h2
  rw [h2, streamL_take, ← sealL_take k n be t, List.take_take, show min m t.length = m by omega]

end Go.Proofs.YtjckdgapefaokaaDoor

/- A box, as functions of lists: what is drawn, sealed, known and opened, in both modes; and what its laws lean on. No program is spoken of here. No condition but those that each lemma names. -/
namespace Go.Proofs.YtjckdgapefaokaaDoor

/-- What was sealed: the sealed text; its key, what was beside it, and the text (in the mode Real: none). -/
structure Ent where
  s : List UInt8
  k : List UInt8
  be : List UInt8
  tx : List UInt8
deriving Inhabited, DecidableEq

/-- A box: its mode, its source's texts, how many bytes were told, what was sealed. -/
structure BoxS where
  mode : Nat
  T : List UInt8
  u : Nat
  L : List Ent

/-- The sealed texts. -/
def BoxS.ss (b : BoxS) : List (List UInt8) := b.L.map (·.s)
/-- WAS IT SEALED HERE? -/
def BoxS.known (b : BoxS) (s : List UInt8) : Bool := b.ss.contains s

/-- In the mode Ideal: n tries are left. -/
def BoxS.tries (k be tx : List UInt8) : Nat → BoxS → BoxS × Option (List UInt8)
  | 0, b => (b, none)
  | n + 1, b => if b.known (told b.T b.u (tx.length + 28)) then BoxS.tries k be tx n { b with u := b.u + (tx.length + 28) }
    else ({ b with u := b.u + (tx.length + 28), L := b.L ++ [⟨told b.T b.u (tx.length + 28), k, be, tx⟩] }, some (told b.T b.u (tx.length + 28)))

/-- WHAT IS SEALED, and the box behind it. -/
def BoxS.seal (b : BoxS) (k be tx : List UInt8) : BoxS × Option (List UInt8) :=
  if b.mode = 0 then ({ b with u := b.u + 12, L := b.L ++ [⟨told b.T b.u 12 ++ sealL k (told b.T b.u 12) be tx, [], [], []⟩] }, some (told b.T b.u 12 ++ sealL k (told b.T b.u 12) be tx))
  else b.tries k be tx 8

/-- WHAT IS OPENED. -/
def BoxS.opn (b : BoxS) (k be s : List UInt8) : Option (List UInt8) :=
  if b.mode = 0 then (if s.length < 28 then none else if openB k (s.take 12) be (s.drop 12) then some (openL k (s.take 12) be (s.drop 12)) else none)
  else (b.L.find? fun e => e.s == s && (e.k == k && e.be == be)).map (·.tx)

theorem BoxS.tries_kept (k be tx : List UInt8) : ∀ (n : Nat) (b : BoxS), (b.tries k be tx n).1.mode = b.mode ∧ (b.tries k be tx n).1.T = b.T
  | 0, _ => ⟨rfl, rfl⟩
  | n + 1, b => by
    unfold BoxS.tries
    split
    · exact BoxS.tries_kept k be tx n _
    · exact ⟨rfl, rfl⟩

/-- In the mode Ideal the sealed bytes hang on lengths and draws alone. -/
theorem BoxS.alike (k1 be1 t1 k2 be2 t2 : List UInt8) (ht : t1.length = t2.length) : ∀ (n : Nat) (a b : BoxS), a.T = b.T → a.u = b.u → a.ss = b.ss →
    (a.tries k1 be1 t1 n).2 = (b.tries k2 be2 t2 n).2 ∧ (a.tries k1 be1 t1 n).1.u = (b.tries k2 be2 t2 n).1.u ∧ (a.tries k1 be1 t1 n).1.ss = (b.tries k2 be2 t2 n).1.ss
  | 0, a, b, _, h2, h3 => ⟨rfl, h2, h3⟩
  | n + 1, a, b, h1, h2, h3 => by
    have hk : a.known (told a.T a.u (t1.length + 28)) = b.known (told b.T b.u (t2.length + 28)) := by unfold BoxS.known; rw [h1, h2, h3, ht]
    unfold BoxS.tries
    rw [hk]
    split
    · exact BoxS.alike k1 be1 t1 k2 be2 t2 ht n _ _ h1 (by simp only; rw [h2, ht]) h3
    · refine ⟨by rw [h1, h2, ht], by simp only; rw [h2, ht], ?_⟩
      have h4 : a.L.map (fun e : Ent => e.s) = b.L.map (fun e : Ent => e.s) := h3
      unfold BoxS.ss
      simp only [List.map_append, List.map_cons, List.map_nil]
      rw [h4, h1, h2, ht]

/-- The sealed texts are apart. -/
theorem find_one (P : Ent → Bool) : ∀ (L : List Ent) (e : Ent), (L.map (·.s)).Nodup → e ∈ L → (L.find? fun x => x.s == e.s && P x) = if P e then some e else none
  | [], _, _, h => by simp at h
  | x :: L, e, hn, he => by
    rw [List.map_cons, List.nodup_cons] at hn
    rcases List.mem_cons.1 he with rfl | he
    · rw [List.find?_cons]
      cases hp : P e with
      | true => simp
      | false =>
        simp only [beq_self_eq_true, Bool.and_false]
        rw [List.find?_eq_none.2]
        · simp
        · intro y hy hc
          rw [Bool.and_eq_true, beq_iff_eq] at hc
          exact hn.1 (by rw [← hc.1]; exact List.mem_map_of_mem hy)
    · have hne : x.s ≠ e.s := fun h => hn.1 (by rw [h]; exact List.mem_map_of_mem he)
      rw [List.find?_cons, show (x.s == e.s && P x) = false by rw [beq_eq_false_iff_ne.2 hne]; rfl]
      exact find_one P L e hn.2 he

theorem opn_known {b : BoxS} (hm : b.mode = 1) {k be s x : List UInt8} (h : b.opn k be s = some x) : b.known s = true := by
  unfold BoxS.opn at h
  rw [if_neg (by rw [hm]; omega), Option.map_eq_some_iff] at h
  obtain ⟨e, he, _⟩ := h
  have h1 := List.mem_of_find?_eq_some he
  have h2 := List.find?_some he
  rw [Bool.and_eq_true, beq_iff_eq] at h2
  unfold BoxS.known
  rw [List.contains_iff_mem, ← h2.1]
  exact List.mem_map_of_mem h1

theorem BoxS.tries_nodup (k be tx : List UInt8) : ∀ (n : Nat) (b : BoxS), b.ss.Nodup → (b.tries k be tx n).1.ss.Nodup
  | 0, _, h => h
  | n + 1, b, h => by
    unfold BoxS.tries
    split
    · exact BoxS.tries_nodup k be tx n _ h
    · rename_i hk
      have hn : told b.T b.u (tx.length + 28) ∉ b.L.map (fun e : Ent => e.s) := fun hm => hk (by unfold BoxS.known; rw [List.contains_iff_mem]; exact hm)
      have h4 : (b.L.map (fun e : Ent => e.s)).Nodup := h
      unfold BoxS.ss
      simp only [List.map_append, List.map_cons, List.map_nil]
      rw [List.nodup_append]
      refine ⟨h4, by simp, ?_⟩
      intro x hx y hy e
      have hy' : y = told b.T b.u (tx.length + 28) := by simpa using hy
      exact hn (by rw [← hy', ← e]; exact hx)

/-- In the mode Ideal: what was sealed is opened by its key, with what was beside it, and by nothing else. -/
theorem opn_of {b : BoxS} (hm : b.mode = 1) (hn : b.ss.Nodup) {e : Ent} (he : e ∈ b.L) (k be : List UInt8) : b.opn k be e.s = if k = e.k ∧ be = e.be then some e.tx else none := by
  unfold BoxS.opn
  rw [if_neg (by rw [hm]; omega), find_one (fun x => x.k == k && x.be == be) b.L e hn he]
  by_cases h : k = e.k ∧ be = e.be
  · obtain ⟨rfl, rfl⟩ := h
    simp
  · rw [if_neg h, if_neg]
    · rfl
    · rw [Bool.and_eq_true, beq_iff_eq, beq_iff_eq]
      exact fun hc => h ⟨hc.1.symm, hc.2.symm⟩

/-- In the mode Real: what is sealed is opened by its key, whatever the box. -/
theorem opn_real {b c : BoxS} (hc : c.mode = 0) (k be tx : List UInt8) : c.opn k be (told b.T b.u 12 ++ sealL k (told b.T b.u 12) be tx) = some tx := by
  have h12 : (told b.T b.u 12).length = 12 := told_length _ _ _
  unfold BoxS.opn
  rw [if_pos hc, if_neg (by rw [List.length_append, h12, sealL_length]; omega), List.take_left' h12, List.drop_left' h12, open_seal, if_pos rfl, open_text]

end Go.Proofs.YtjckdgapefaokaaDoor
