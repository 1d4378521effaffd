/- What a source tells, as a plain function of bytes: the texts' own, and behind them those of the sums that come of the texts' sum and a number. No condition but those that each lemma names. -/
import Derived.Test.YtjckdgapefaokaaDoorDPut
import Derived.Test.YtjckdgapefaokaaDoorCMath
import Derived.Test.YtjckdgapefaokaaDoorMMake
namespace Go.Proofs.YtjckdgapefaokaaDoor
open Go.RowKit

/-- The k-th sum behind the texts. -/
def sumAt (T : List UInt8) (k : Nat) : List UInt8 := shaL (shaL T ++ lb k 8)

theorem sumAt_length (T : List UInt8) (k : Nat) : (sumAt T k).length = 32 := shaL_length _

/-- The i-th byte of a source. -/
def tell (T : List UInt8) (i : Nat) : UInt8 := if i < T.length then T.getD i 0 else (sumAt T ((i - T.length) / 32)).getD ((i - T.length) % 32) 0

/-- n bytes of a source, from the u-th on. -/
def told (T : List UInt8) (u n : Nat) : List UInt8 := (List.range n).map fun i => tell T (u + i)

theorem told_length (T : List UInt8) (u n : Nat) : (told T u n).length = n := by simp [told]

theorem told_at (T : List UInt8) (u n i : Nat) (h : i < (told T u n).length) : (told T u n)[i] = tell T (u + i) := by simp [told]

theorem told_zero (T : List UInt8) (u : Nat) : told T u 0 = [] := rfl

theorem told_add (T : List UInt8) (u n m : Nat) : told T u (n + m) = told T u n ++ told T (u + n) m := by
  apply List.ext_getElem
  · simp [told_length]
  · intro i h1 h2
    rw [told_at]
    by_cases hi : i < n
    · rw [List.getElem_append_left (by rw [told_length]; exact hi), told_at]
    · rw [List.getElem_append_right (by rw [told_length]; omega), told_at, told_length]
      congr 1
      omega

theorem told_take (T : List UInt8) (u n m : Nat) (h : m ≤ n) : (told T u n).take m = told T u m := by
  obtain ⟨k, rfl⟩ : ∃ k, n = m + k := ⟨n - m, by omega⟩
  rw [told_add, List.take_left' (told_length _ _ _)]

theorem told_texts (T : List UInt8) (u n : Nat) (h : u + n ≤ T.length) : told T u n = (T.drop u).take n := by
  apply List.ext_getElem
  · simp [told_length]; omega
  · intro i h1 h2
    rw [told_at]
    rw [told_length] at h1
    have hi : u + i < T.length := by omega
    simp [tell, hi]

theorem told_all (T : List UInt8) : told T 0 T.length = T := by
  rw [told_texts T 0 T.length (by omega)]
  simp

theorem told_sum (T : List UInt8) (f n : Nat) (h : f % 32 + n ≤ 32) : told T (T.length + f) n = ((sumAt T (f / 32)).drop (f % 32)).take n := by
  apply List.ext_getElem
  · simp [told_length, sumAt_length]; omega
  · intro i h1 h2
    rw [told_at]
    rw [told_length] at h1
    have e1 : (T.length + f + i - T.length) / 32 = f / 32 := by omega
    have e2 : (T.length + f + i - T.length) % 32 = f % 32 + i := by omega
    have e3 : ¬ T.length + f + i < T.length := by omega
    have e4 : f % 32 + i < (sumAt T (f / 32)).length := by rw [sumAt_length]; omega
    unfold tell
    rw [if_neg e3, e1, e2]
    simp [List.getD, e4]

/-- The cells of a source: of which texts, and how many bytes were told. -/
def srcC (T : List UInt8) (u : Nat) : List Value := .string (str (T.drop u)) :: ((shaL T).map bv ++ [.int .u64 ((u - T.length : Nat) : Int), .int .i64 (u : Int)])

theorem srcC_length (T : List UInt8) (u : Nat) : (srcC T u).length = 35 := by simp [srcC, shaL_length]

theorem srcC_one (T : List UInt8) (u : Nat) : ∀ v ∈ srcC T u, v.oneCell' = true := by
  intro v hv
  rcases List.mem_cons.1 hv with rfl | h
  · rfl
  · rcases List.mem_append.1 h with h | h
    · exact bv_one _ v h
    · simp at h
      rcases h with rfl | rfl <;> rfl

/-- The cells of a plain source, that nobody made. -/
def zeroC : List Value := .string (str []) :: ((List.replicate 32 (0 : UInt8)).map bv ++ [.int .u64 0, .int .i64 0])

theorem sha_nothing : shaL [] ≠ List.replicate 32 (0 : UInt8) := by
  have h : (shaL []).head? = some 227 := by kernel_rfl
  intro e
  rw [e] at h
  exact absurd h (by decide)

end Go.Proofs.YtjckdgapefaokaaDoor

/- A box, as functions of lists: what is drawn, sealed, known and opened, in both modes; and what its laws lean on. No program is spoken of here. No condition but those that each lemma names. -/
namespace Go.Proofs.YtjckdgapefaokaaDoor

/-- What was sealed: the sealed text; its key, what was beside it, and the text (in the mode Real: none). -/
structure Ent where
  s : List UInt8
  k : List UInt8
  be : List UInt8
  tx : List UInt8
deriving Inhabited, DecidableEq

/-- A box: its mode, its source's texts, how many bytes were told, what was sealed. -/
structure BoxS where
  mode : Nat
  T : List UInt8
  u : Nat
  L : List Ent

/-- The sealed texts. -/
def BoxS.ss (b : BoxS) : List (List UInt8) := b.L.map (·.s)
/-- WAS IT SEALED HERE? -/
def BoxS.known (b : BoxS) (s : List UInt8) : Bool := b.ss.contains s

/-- In the mode Ideal: n tries are left. -/
def BoxS.tries (k be tx : List UInt8) : Nat → BoxS → BoxS × Option (List UInt8)
  | 0, b => (b, none)
  | n + 1, b => if b.known (told b.T b.u (tx.length + 28)) then BoxS.tries k be tx n { b with u := b.u + (tx.length + 28) }
    else ({ b with u := b.u + (tx.length + 28), L := b.L ++ [⟨told b.T b.u (tx.length + 28), k, be, tx⟩] }, some (told b.T b.u (tx.length + 28)))

/-- WHAT IS SEALED, and the box behind it. -/
def BoxS.seal (b : BoxS) (k be tx : List UInt8) : BoxS × Option (List UInt8) :=
  if b.mode = 0 then ({ b with u := b.u + 12, L := b.L ++ [⟨told b.T b.u 12 ++ sealL k (told b.T b.u 12) be tx, [], [], []⟩] }, some (told b.T b.u 12 ++ sealL k (told b.T b.u 12) be tx))
  else b.tries k be tx 8

/-- WHAT IS OPENED. -/
def BoxS.opn (b : BoxS) (k be s : List UInt8) : Option (List UInt8) :=
  if b.mode = 0 then (if s.length < 28 then none else if openB k (s.take 12) be (s.drop 12) then some (openL k (s.take 12) be (s.drop 12)) else none)
  else (b.L.find? fun e => e.s == s && (e.k == k && e.be == be)).map (·.tx)

theorem BoxS.tries_kept (k be tx : List UInt8) : ∀ (n : Nat) (b : BoxS), (b.tries k be tx n).1.mode = b.mode ∧ (b.tries k be tx n).1.T = b.T
  | 0, _ => ⟨rfl, rfl⟩
  | n + 1, b => by
    unfold BoxS.tries
    split
    · exact BoxS.tries_kept k be tx n _
    · exact ⟨rfl, rfl⟩

/-- In the mode Ideal the sealed bytes hang on lengths and draws alone. -/
theorem BoxS.alike (k1 be1 t1 k2 be2 t2 : List UInt8) (ht : t1.length = t2.length) : ∀ (n : Nat) (a b : BoxS), a.T = b.T → a.u = b.u → a.ss = b.ss →
    (a.tries k1 be1 t1 n).2 = (b.tries k2 be2 t2 n).2 ∧ (a.tries k1 be1 t1 n).1.u = (b.tries k2 be2 t2 n).1.u ∧ (a.tries k1 be1 t1 n).1.ss = (b.tries k2 be2 t2 n).1.ss
  | 0, a, b, _, h2, h3 => ⟨rfl, h2, h3⟩
  | n + 1, a, b, h1, h2, h3 => by
    have hk : a.known (told a.T a.u (t1.length + 28)) = b.known (told b.T b.u (t2.length + 28)) := by unfold BoxS.known; rw [h1, h2, h3, ht]
    unfold BoxS.tries
    rw [hk]
    split
    · exact BoxS.alike k1 be1 t1 k2 be2 t2 ht n _ _ h1 (by simp only; rw [h2, ht]) h3
    · refine ⟨by rw [h1, h2, ht], by simp only; rw [h2, ht], ?_⟩
      have h4 : a.L.map (fun e : Ent => e.s) = b.L.map (fun e : Ent => e.s) := h3
      unfold BoxS.ss
      simp only [List.map_append, List.map_cons, List.map_nil]
      rw [h4, h1, h2, ht]

/-- The sealed texts are apart. -/
theorem find_one (P : Ent → Bool) : ∀ (L : List Ent) (e : Ent), (L.map (·.s)).Nodup → e ∈ L → (L.find? fun x => x.s == e.s && P x) = if P e then some e else none
  | [], _, _, h => by simp at h
  | x :: L, e, hn, he => by
    rw [List.map_cons, List.nodup_cons] at hn
    rcases List.mem_cons.1 he with rfl | he
    · rw [List.find?_cons]
      cases hp : P e with
      | true => simp
      | false =>
        simp only [beq_self_eq_true, Bool.and_false]
        rw [List.find?_eq_none.2]
        · simp
        · intro y hy hc
          rw [Bool.and_eq_true, beq_iff_eq] at hc
          exact hn.1 (by rw [← hc.1]; exact List.mem_map_of_mem hy)
    · have hne : x.s ≠ e.s := fun h => hn.1 (by rw [h]; exact List.mem_map_of_mem he)
      rw [List.find?_cons, show (x.s == e.s && P x) = false by rw [beq_eq_false_iff_ne.2 hne]; rfl]
      exact find_one P L e hn.2 he

theorem opn_known {b : BoxS} (hm : b.mode = 1) {k be s x : List UInt8} (h : b.opn k be s = some x) : b.known s = true := by
  unfold BoxS.opn at h
  rw [if_neg (by rw [hm]; omega), Option.map_eq_some_iff] at h
  obtain ⟨e, he, _⟩ := h
  have h1 := List.mem_of_find?_eq_some he
  have h2 := List.find?_some he
  rw [Bool.and_eq_true, beq_iff_eq] at h2
  unfold BoxS.known
  rw [List.contains_iff_mem, ← h2.1]
  exact List.mem_map_of_mem h1

theorem BoxS.tries_nodup (k be tx : List UInt8) : ∀ (n : Nat) (b : BoxS), b.ss.Nodup → (b.tries k be tx n).1.ss.Nodup
  | 0, _, h => h
  | n + 1, b, h => by
    unfold BoxS.tries
    split
    · exact BoxS.tries_nodup k be tx n _ h
    · rename_i hk
      have hn : told b.T b.u (tx.length + 28) ∉ b.L.map (fun e : Ent => e.s) := fun hm => hk (by unfold BoxS.known; rw [List.contains_iff_mem]; exact hm)
      have h4 : (b.L.map (fun e : Ent => e.s)).Nodup := h
      unfold BoxS.ss
      simp only [List.map_append, List.map_cons, List.map_nil]
      rw [List.nodup_append]
      refine ⟨h4, by simp, ?_⟩
      intro x hx y hy e
      have hy' : y = told b.T b.u (tx.length + 28) := by simpa using hy
      exact hn (by rw [← hy', ← e]; exact hx)

/-- In the mode Ideal: what was sealed is opened by its key, with what was beside it, and by nothing else. -/
theorem opn_of {b : BoxS} (hm : b.mode = 1) (hn : b.ss.Nodup) {e : Ent} (he : e ∈ b.L) (k be : List UInt8) : b.opn k be e.s = if k = e.k ∧ be = e.be then some e.tx else none := by
  unfold BoxS.opn
  rw [if_neg (by rw [hm]; omega), find_one (fun x => x.k == k && x.be == be) b.L e hn he]
  by_cases h : k = e.k ∧ be = e.be
  · obtain ⟨rfl, rfl⟩ := h
    simp
  · rw [if_neg h, if_neg]
    · rfl
    · rw [Bool.and_eq_true, beq_iff_eq, beq_iff_eq]
      exact fun hc => h ⟨hc.1.symm, hc.2.symm⟩

/-- In the mode Real: what is sealed is opened by its key, whatever the box. -/
theorem opn_real {b c : BoxS} (hc : c.mode = 0) (k be tx : List UInt8) : c.opn k be (told b.T b.u 12 ++ sealL k (told b.T b.u 12) be tx) = some tx := by
  have h12 : (told b.T b.u 12).length = 12 := told_length _ _ _
  unfold BoxS.opn
  rw [if_pos hc, if_neg (by rw [List.length_append, h12, sealL_length]; omega), List.take_left' h12, List.drop_left' h12, open_seal, if_pos rfl, open_text]

end Go.Proofs.YtjckdgapefaokaaDoor
