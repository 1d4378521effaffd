/- Two boxes side by side, and what the law of the mode Ideal lets them do: bounds, and a text that is turned in its place. No condition but those that each lemma names. -/
import Derived.Test.YtjckdgapefaokaaDoorBLaw
import Derived.Test.YtjckdgapefaokaaDoorBActs
import Derived.Test.YtjckdgapefaokaaDoorBCof
namespace Go.Proofs.YtjckdgapefaokaaDoor
open Go.RowKit

/-- At most 200. -/
def sh200 (n : Nat) : Nat := min n 200
theorem sh200_le (n : Nat) : sh200 n ≤ 200 := Nat.min_le_right _ _
theorem take200_length (l : List UInt8) : (l.take 200).length = sh200 l.length := by rw [List.length_take, Nat.min_comm]; rfl

theorem short8_min (w : World) (ao : Option Addr) (n c : Nat) (h : n ≤ c) : Calls Tryd.prog 11 #[.slice ao n c] w fun e w' => e = .returned (.slice ao (sh200 n) c) ∧ w' = w := by
  have := short8_any w ao c (List.replicate n 0) (by simpa using h)
  rw [take200_length, List.length_replicate] at this
  exact this

/-- New of one text. -/
theorem dnew_one (u V : World) (ao : Option Addr) (c : Nat) (F : List UInt8) (gV : u.grownBy V none) (hF : Bts u ao c F) (hT : Tabs u) (hl : F.length ≤ 1000) : ∃ W, W = V.alloc (.cells #[.slice ao F.length c] 22) ∧ u.grownBy W none ∧ V.grownBy W none ∧
    Calls Tryd.prog 9 #[.slice (some ⟨V.heap.size, 0, none⟩) 1 1] W fun e w' => ∃ b, e = .returned (.pointer (some ⟨b, 0, none⟩)) ∧ V.heap.size ≤ b ∧ SrcAt w' b F 0 ∧ V.grownBy w' none := by
  obtain ⟨W, hW, hB, g⟩ := alloc_one V (.slice ao F.length c)
  refine ⟨W, hW, tn gV g, g, ?_⟩
  have hL := lst_single hB ((hF.old gV).kept g (fun _ e => by cases e))
  have := dnew_any W _ 1 [F] hL (hT.kept0 (tn gV g)) (by simp; omega)
  rw [show ([F] : List (List UInt8)).flatten = F by simp, show ([F] : List (List UInt8)).length = 1 from rfl] at this
  exact this.mono fun e w' ⟨b, he, hb, hS, gg⟩ => ⟨b, he, Nat.le_trans g.size hb, hS, tn g gg⟩

theorem dnew_nil (u V : World) (gV : u.grownBy V none) (hT : Tabs u) : Calls Tryd.prog 9 #[.slice none 0 0] V fun e w' => ∃ b, e = .returned (.pointer (some ⟨b, 0, none⟩)) ∧ V.heap.size ≤ b ∧ SrcAt w' b [] 0 ∧ V.grownBy w' none :=
  dnew_any V none 0 [] ⟨(fun _ => ⟨rfl, rfl⟩), Nat.le_refl _, Nat.zero_le _, (fun _ e => by cases e), (fun _ e => by cases e)⟩ (hT.kept0 gV) (by simp)

theorem tries_bound (k be tx : List UInt8) : ∀ (n : Nat) (b : BoxS), (b.tries k be tx n).1.u ≤ b.u + n * (tx.length + 28) ∧ (b.tries k be tx n).1.L.length ≤ b.L.length + 1
  | 0, b => ⟨by simp [BoxS.tries], by simp [BoxS.tries]⟩
  | n + 1, b => by
    unfold BoxS.tries
    have e : (n + 1) * (tx.length + 28) = n * (tx.length + 28) + (tx.length + 28) := Nat.succ_mul _ _
    split
    · have := tries_bound k be tx n { b with u := b.u + (tx.length + 28) }
      simp only at this
      exact ⟨by omega, this.2⟩
    · simp only [List.length_append, List.length_cons, List.length_nil]
      exact ⟨by omega, by omega⟩

theorem seal_bound (b : BoxS) (k be tx : List UInt8) (ht : tx.length ≤ 200) : (b.seal k be tx).1.u ≤ b.u + 2000 ∧ (b.seal k be tx).1.L.length ≤ b.L.length + 1 ∧ (b.seal k be tx).1.mode = b.mode ∧ (b.seal k be tx).1.T = b.T := by
  unfold BoxS.seal
  split
  · simp only [List.length_append, List.length_cons, List.length_nil]
    exact ⟨by omega, by omega, trivial, trivial⟩
  · have h1 := tries_bound k be tx 8 b
    have h2 := BoxS.tries_kept k be tx 8 b
    exact ⟨by omega, h1.2, h2.1, h2.2⟩

theorem tries_tx (k be tx : List UInt8) (P : Ent → Prop) (hP : ∀ s, P ⟨s, k, be, tx⟩) : ∀ (n : Nat) (b : BoxS), (∀ x ∈ b.L, P x) → ∀ x ∈ (b.tries k be tx n).1.L, P x
  | 0, _, h => h
  | n + 1, b, h => by
    unfold BoxS.tries
    split
    · exact tries_tx k be tx P hP n _ h
    · intro x hx
      rcases List.mem_append.1 hx with hx | hx
      · exact h x hx
      · rw [List.mem_singleton.1 hx]; exact hP _

theorem seal_tx (b : BoxS) (k be tx : List UInt8) (ht : tx.length ≤ 2000) (h : ∀ x ∈ b.L, x.tx.length ≤ 2000) : ∀ x ∈ (b.seal k be tx).1.L, x.tx.length ≤ 2000 := by
  unfold BoxS.seal
  split
  · intro x hx
    rcases List.mem_append.1 hx with hx | hx
    · exact h x hx
    · rw [List.mem_singleton.1 hx]; exact Nat.zero_le _
  · exact tries_tx k be tx _ (fun _ => ht) 8 b h

/-- The first k bytes are turned. -/
def mixL (t : UInt8) (l : List UInt8) (k : Nat) : List UInt8 := (l.take k).map (· + t) ++ l.drop k
theorem mixL_zero (t : UInt8) (l : List UInt8) : mixL t l 0 = l := by simp [mixL]
theorem mixL_length (t : UInt8) (l : List UInt8) (k : Nat) : (mixL t l k).length = l.length := by simp [mixL]; omega
theorem mixL_at (t : UInt8) (l : List UInt8) (k : Nat) (h : k < l.length) : (mixL t l k)[k]? = some l[k] := by
  unfold mixL
  rw [List.getElem?_append_right (by simp; omega)]
  simp [h, Nat.min_eq_left (Nat.le_of_lt h)]
theorem mixL_succ (t : UInt8) (l : List UInt8) (k : Nat) (h : k < l.length) : (mixL t l k).set k (l[k] + t) = mixL t l (k + 1) := by
  unfold mixL
  have hl : ((l.take k).map (· + t)).length = k := by simp; omega
  rw [List.set_append_right _ _ (by omega), hl, Nat.sub_self, List.drop_eq_getElem_cons h, List.set_cons_zero, List.take_succ_eq_append_getElem h]
  simp only [List.map_append, List.map_cons, List.map_nil, List.append_assoc, List.cons_append, List.nil_append]

/-- A byte of a row of one's own, written. -/
theorem own_set {w : World} {base n cap g : Nat} {xs : List Value} (h : w.ownsRow base 5 1 (.slice (some ⟨g, 0, none⟩) n cap) n xs) (k : Nat) (v : Value) :
    (w.setCell ⟨g, k, none⟩ v).ownsRow base 5 1 (.slice (some ⟨g, 0, none⟩) n cap) n (xs.set k v) := by
  obtain ⟨h1, h2⟩ := h
  refine ⟨by rw [List.length_set]; exact h1, ?_⟩
  rcases h2 with ⟨h2, _⟩ | ⟨g', cap', cur, hv, hg, hh, h3, h4, h5, h6⟩
  · cases h2
  · cases hv
    refine Or.inr ⟨g, cap, cur.setIfInBounds k v, rfl, hg, ?_, h3, h4, by simpa using h5, ?_⟩
    · simp [World.setCell, Array.getElem?_modify, hh]
    · rw [← h6, Array.toList_setIfInBounds, List.take_set]

theorem own_there {w : World} {base n cap g : Nat} {xs : List Value} (h : w.ownsRow base 5 1 (.slice (some ⟨g, 0, none⟩) n cap) n xs) (k : Nat) (v : Value) (hk : xs[k]? = some v) : w.cell? ⟨g, k, none⟩ = some v ∧ w.frozen? ⟨g, k, none⟩ = false := by
  obtain ⟨h1, h2⟩ := h
  rcases h2 with ⟨h2, _⟩ | ⟨g', cap', cur, hv, hg, hh, h3, h4, h5, h6⟩
  · cases h2
  · cases hv
    refine ⟨?_, by simp [World.frozen?, hh]⟩
    rw [cell_of_row w g k _ _ _ hh]
    rw [← h6] at hk
    rw [List.getElem?_take] at hk
    split at hk
    · simpa using hk
    · cases hk

theorem u8_add (x y : UInt8) : IntKind.u8.wrap (((x.toNat : Nat) : Int) + ((y.toNat : Nat) : Int)) = (((x + y).toNat : Nat) : Int) := by
  show ((((x.toNat : Nat) : Int) + ((y.toNat : Nat) : Int)) % 256) = _
  rw [UInt8.toNat_add]
  omega

end Go.Proofs.YtjckdgapefaokaaDoor

/- What BoxBack's walks lean on: a row of sealed texts, and what each of them is opened to. No condition but those that each lemma names. -/
namespace Go.Proofs.YtjckdgapefaokaaDoor
open Go.RowKit

/-- A text where it lies: its address, its capacity, its bytes. -/
abbrev Txt := Option Addr × Nat × List UInt8
def slV (x : Txt) : Value := .slice x.1 x.2.2.length x.2.1

theorem own_formE {w : World} {base n : Nat} {e : TypeId} {v : Value} {xs : List Value} (h : w.ownsRow base e 1 v n xs) : ∃ oo oc, v = .slice oo n oc ∧ (0 < n → ∃ g, oo = some ⟨g, 0, none⟩) := by
  rcases h.2 with ⟨h1, h2⟩ | ⟨g, cap, cur, h1, _⟩
  · subst h2; exact ⟨none, 0, h1, fun h => by omega⟩
  · exact ⟨_, cap, h1, fun _ => ⟨g, rfl⟩⟩

/-- A row of the law's own, of texts. -/
structure Sls (w : World) (base : Nat) (v : Value) (S : List Txt) : Prop where
  own : w.ownsRow base 22 1 v S.length (S.map slV)
  txt : ∀ x ∈ S, BtT w x.1 x.2.1 x.2.2

theorem Sls.nil (w : World) (base : Nat) : Sls w base (.slice none 0 0) [] := ⟨World.ownsRow_nil _ _ _ _, fun x h => by simp at h⟩

theorem Sls.none {w a : World} {base : Nat} {v : Value} {S : List Txt} (h : Sls w base v S) (g : w.grownBy a Option.none) : Sls a base v S :=
  ⟨h.own.kept g (by cases hv : v.ownBlock <;> simp), fun x hx => (h.txt x hx).none g⟩

/-- The row's block. -/
theorem Sls.at {w : World} {base : Nat} {v : Value} {S : List Txt} (h : w.ownsRow base 22 1 v S.length (S.map slV)) {p : Nat} (hp : v.ownBlock = some p) : ∃ cur, w.heap[p]? = some (.cells cur 22 (0, 0)) := by
  rcases h.2 with ⟨rfl, _⟩ | ⟨g, cap, cur, rfl, _, hh, _⟩
  · cases hp
  · have : g = p := by simpa [Value.ownBlock] using hp
    subst this
    exact ⟨cur, hh⟩

theorem sl_typ {w : World} {p : Nat} {cur : Array Value} (h : w.heap[p]? = some (.cells cur 22 (0, 0))) : ¬ Typ w p := by
  rintro ⟨c2, m, h2⟩
  rw [h] at h2
  injection h2 with h3
  injection h3 with _ h4
  exact absurd h4 (by decide)

theorem sl_blk {w : World} {p b : Nat} {cur : Array Value} {t : TypeId} {cs : List Value} (h : w.heap[p]? = some (.cells cur 22 (0, 0))) (hb : Blk w b t cs) (ht : t ≠ 22) : b ≠ p := by
  rintro rfl
  unfold Blk at hb
  rw [hb] at h
  injection h with h3
  injection h3 with _ h4
  exact ht h4

theorem sl_map {w : World} {p m : Nat} {cur : Array Value} {f : Ent → Value} {L : List Ent} (h : w.heap[p]? = some (.cells cur 22 (0, 0))) (hm : MapOk f w m L) : m ≠ p := by
  rintro rfl
  obtain ⟨_, _, _, h2, _⟩ := hm
  rw [h2] at h
  cases h

theorem Sls.box {u w a : World} {base bb bs bm : Nat} {v : Value} {S : List Txt} {B : BoxS} (h : Sls w base v S) (hB : BoxAt u w bb bs bm B) (g : By3 w a bb bs bm) : Sls a base v S := by
  refine ⟨⟨h.own.1, ?_⟩, fun x hx => (h.txt x hx).box hB g⟩
  rcases h.own.2 with ⟨h1, h2⟩ | ⟨p, cap, cur, hv, hg, hh, hr⟩
  · exact Or.inl ⟨h1, h2⟩
  · exact Or.inr ⟨p, cap, cur, hv, hg, by
      rw [g.block p (Array.getElem?_eq_some_iff.1 hh).1 (fun e => sl_blk hh hB.blk (by decide) e.symm) (fun e => sl_blk hh hB.src.blk (by decide) e.symm) (fun e => sl_map hh hB.map e.symm)]; exact hh, hr⟩

/-- What outlasts a write into such a row. -/
theorem BtT.sl {w a : World} {base : Nat} {v : Value} {S : List Txt} {ao : Option Addr} {c : Nat} {l : List UInt8} (h : BtT w ao c l) (hS : w.ownsRow base 22 1 v S.length (S.map slV)) (g : w.grownBy a v.ownBlock) : BtT a ao c l :=
  ⟨h.bts.kept g (fun x e ad e2 e3 => by obtain ⟨cur, hh⟩ := Sls.at hS e; exact sl_typ hh (by rw [← e3]; exact h.typ ad e2)), fun ad e => (h.typ ad e).kept g (fun e2 => by obtain ⟨cur, hh⟩ := Sls.at hS e2.symm; exact sl_typ hh (h.typ ad e))⟩

theorem BoxAt.sl {u w a : World} {base bb bs bm : Nat} {v : Value} {S : List Txt} {B : BoxS} (h : BoxAt u w bb bs bm B) (hS : w.ownsRow base 22 1 v S.length (S.map slV)) (g : w.grownBy a v.ownBlock) : BoxAt u a bb bs bm B :=
  ⟨h.nb, h.ns, h.nm, h.blk.kept g (fun e => by obtain ⟨cur, hh⟩ := Sls.at hS e.symm; exact sl_blk hh h.blk (by decide) rfl),
    h.src.kept g (fun e => by obtain ⟨cur, hh⟩ := Sls.at hS e.symm; exact sl_blk hh h.src.blk (by decide) rfl),
    h.map.kept g (fun e => by obtain ⟨cur, hh⟩ := Sls.at hS e.symm; exact sl_map hh h.map rfl)⟩

/-- 'append(sealed, s)'. -/
theorem wpList_append_sl {w : World} {ops : Array Oper} {rest : List Oper} {o : Oper} {a : Act} {Q : Exit → Act → World → Prop} (hgd : o.guard = none) (s x : Operand)
    (ho : o.op = .call { callee := .builtin .append, args := #[s, x], argTypes := #[53, 53] })
    (base : Nat) (v : Value) (S : List Txt) (y : Txt) (hs : a.eval s = v) (p : Nat) (hx : a.eval x = .slice (some ⟨p, 0, none⟩) 1 1) (hp : Blk w p 22 [slV y]) (hS : Sls w base v S) (hy : BtT w y.1 y.2.1 y.2.2) (hn : S.length ≤ 1000) (hbase : base ≤ w.heap.size)
    (h : ∀ v' w', Sls w' base v' (S ++ [y]) → w.grownBy w' v.ownBlock → wpList Tryd.prog ops Q rest (a.put o.dst v') w') : wpList Tryd.prog ops Q (o :: rest) a w := by
  obtain ⟨i0, hi, hz0, hz1, hz2⟩ := info_parts info_slice
  refine wpList_append_own w hgd s x 53 ho base 22 i0 (.slice none 0 0) 1 24 Tryd.underlying53 hi hz0 hz1 hz2 rfl (by decide) v S.length (S.map slV) hs hS.own ⟨p, 0, none⟩ 1 1 [slV y] hx (by simp) ?_ ?_ (by unfold maxLen; omega) (by omega) hbase ?_
  · intro j u hu
    match j, hu with
    | 0, hu =>
      have : slV y = u := by simpa using hu
      rw [← this, Addr.add_lit]
      show w.cell? ⟨p, 0 + 0, none⟩ = _
      rw [hp.cell]; rfl
    | j + 1, hu => simp at hu
  · intro u hu
    rw [List.mem_singleton.1 hu]; rfl
  · intro v' w' q1 q2 _
    refine h v' w' ⟨by simpa using q1, fun z hz => ?_⟩ q2
    rcases List.mem_append.1 hz with hz | hz
    · exact (hS.txt z hz).sl hS.own q2
    · rw [List.mem_singleton.1 hz]; exact hy.sl hS.own q2

/-- The cell of a row's text. -/
theorem Sls.cell {w : World} {base n c g : Nat} {S : List Txt} (h : Sls w base (.slice (some ⟨g, 0, Option.none⟩) n c) S) (i : Nat) (hi : i < S.length) : w.cell? ⟨g, i, Option.none⟩ = some (slV S[i]) := by
  rcases h.own.2 with ⟨h1, _⟩ | ⟨p, cap, cur, hv, hg, hh, h3, h4, h5, h6⟩
  · cases h1
  · cases hv
    rw [cell_of_row w g i _ _ _ hh]
    have h7 : (cur.toList.take (S.length * 1))[i]? = (S.map slV)[i]? := by rw [h6]
    rw [List.getElem?_take_of_lt (by omega), List.getElem?_map, List.getElem?_eq_getElem hi] at h7
    simpa using h7

/-- A key whose first byte is x, and the next one 1. -/
def key2 (x : UInt8) : List UInt8 := x :: 1 :: List.replicate 30 0
theorem key2_length (x : UInt8) : (key2 x).length = 32 := rfl
theorem built_key2 (x : UInt8) : Tryd.prog.built 37 [(0, bv x), (1, .int .u8 1)] = some ((key2 x).map bv).toArray := by kernel_rfl
theorem key12 (x y : UInt8) : key2 x ≠ key1 y := by
  intro e
  have := congrArg (fun l => l.getD 1 0) e
  simp [key2, key1] at this

/-- What was sealed so, of a step. -/
structure Good (B : BoxS) (r : ActR) (s : List UInt8) : Prop where
  len : s.length = (r.tx.take 200).length + 28
  real : B.mode = 0 → ∃ N : List UInt8, N.length = 12 ∧ s = N ++ sealL (key1 r.key) N (r.be.take 200) (r.tx.take 200)
  ideal : B.mode = 1 → (⟨s, key1 r.key, r.be.take 200, r.tx.take 200⟩ : Ent) ∈ B.L

theorem Good.opens {B : BoxS} {r : ActR} {s : List UInt8} (h : Good B r s) (hok : B.Ok) : B.opn (key1 r.key) (r.be.take 200) s = some (r.tx.take 200) := by
  rcases hok.mode with hm | hm
  · obtain ⟨N, h1, h2⟩ := h.real hm
    unfold BoxS.opn
    rw [if_pos hm, if_neg (by rw [h2, List.length_append, h1, sealL_length]; omega), h2, List.take_left' h1, List.drop_left' h1, open_seal, if_pos rfl, open_text]
  · have := opn_of hm (hok.apart hm) (h.ideal hm) (key1 r.key) (r.be.take 200)
    rw [if_pos ⟨rfl, rfl⟩] at this
    exact this

theorem Good.other_key {B : BoxS} {r : ActR} {s : List UInt8} (h : Good B r s) (hok : B.Ok) (hm : B.mode = 1) : B.opn (key2 r.key) (r.be.take 200) s = none := by
  have := opn_of hm (hok.apart hm) (h.ideal hm) (key2 r.key) (r.be.take 200)
  rw [if_neg (fun e => key12 _ _ e.1)] at this
  exact this

theorem Good.other_beside {B : BoxS} {r : ActR} {s : List UInt8} (h : Good B r s) (hok : B.Ok) (hm : B.mode = 1) : B.opn (key1 r.key) (r.be.take 200 ++ [0]) s = none := by
  have := opn_of hm (hok.apart hm) (h.ideal hm) (key1 r.key) (r.be.take 200 ++ [0])
  rw [if_neg (fun e => by have := congrArg List.length e.2; simp at this)] at this
  exact this

theorem Good.grows {B C : BoxS} {r : ActR} {s : List UInt8} (h : Good B r s) (hm : C.mode = B.mode) (hL : ∀ x ∈ B.L, x ∈ C.L) : Good C r s :=
  ⟨h.len, fun e => h.real (hm ▸ e), fun e => hL _ (h.ideal (hm ▸ e))⟩

/-- A Seal of BoxBack's. -/
theorem back_seal {B : BoxS} (r : ActR) (h : B.mode = 0 ∨ Cof B) (hu : B.u ≤ 2708) :
    ∃ s, (B.seal (key1 r.key) (r.be.take 200) (r.tx.take 200)).2 = some s ∧ Good (B.seal (key1 r.key) (r.be.take 200) (r.tx.take 200)).1 r s ∧ ((B.seal (key1 r.key) (r.be.take 200) (r.tx.take 200)).1.mode = 0 ∨ Cof (B.seal (key1 r.key) (r.be.take 200) (r.tx.take 200)).1) ∧
      (B.seal (key1 r.key) (r.be.take 200) (r.tx.take 200)).1.u ≤ B.u + 228 ∧ (∀ x ∈ B.L, x ∈ (B.seal (key1 r.key) (r.be.take 200) (r.tx.take 200)).1.L) ∧ (B.seal (key1 r.key) (r.be.take 200) (r.tx.take 200)).1.mode = B.mode ∧ (B.seal (key1 r.key) (r.be.take 200) (r.tx.take 200)).1.L.length = B.L.length + 1 := by
  have ht : (r.tx.take 200).length ≤ 200 := by rw [List.length_take]; omega
  rcases h with hm | hc
  · have e : B.seal (key1 r.key) (r.be.take 200) (r.tx.take 200) = ({ B with u := B.u + 12, L := B.L ++ [⟨told B.T B.u 12 ++ sealL (key1 r.key) (told B.T B.u 12) (r.be.take 200) (r.tx.take 200), [], [], []⟩] }, some (told B.T B.u 12 ++ sealL (key1 r.key) (told B.T B.u 12) (r.be.take 200) (r.tx.take 200))) := by
      unfold BoxS.seal
      rw [if_pos hm]
    rw [e]
    refine ⟨_, rfl, ⟨?_, fun _ => ⟨_, told_length _ _ _, rfl⟩, fun e2 => absurd (hm.symm.trans e2) (by omega)⟩, Or.inl hm, by simp only; omega, fun x hx => by simp [hx], rfl, by simp⟩
    rw [List.length_append, told_length, sealL_length]; omega
  · obtain ⟨e, h2⟩ := hc.seals (key1 r.key) (r.be.take 200) (r.tx.take 200) hu
    rw [e] at h2 ⊢
    refine ⟨_, rfl, ⟨told_length _ _ _, fun e2 => absurd (hc.2.1.symm.trans e2) (by omega), fun _ => by simp⟩, Or.inr h2, by simp only; omega, fun x hx => by simp [hx], rfl, by simp⟩

theorem alloc_zero (V : World) : ∃ W, W = V.alloc (.cells #[.int .u8 0] 5) ∧ BtT W (some ⟨V.heap.size, 0, none⟩) 1 [0] ∧ V.grownBy W none :=
  ⟨_, rfl, ⟨bts_new V [0] (0, 0) (by decide), fun ad e => by cases e; exact ⟨_, _, heap_alloc_new V _⟩⟩, gb_alloc (gb_refl _ _) _⟩

theorem cof_text (w : World) : ∃ W1, W1 = w.alloc (.cells #[.int .u8 99, .int .u8 111, .int .u8 102, .int .u8 102, .int .u8 114, .int .u8 101, .int .u8 116] 5 (7, 8)) ∧ Bts W1 (some ⟨w.heap.size, 0, none⟩) 7 cofT ∧ w.grownBy W1 none :=
  ⟨_, rfl, bts_new w cofT (7, 8) (by decide), gb_alloc (gb_refl _ _) _⟩

theorem zero_act (w : World) : (zeroValue 35).run Tryd.prog w = .ok (.agg #[.int .i64 0, .int .i64 0, .int .u8 0, .slice none 0 0, .slice none 0 0]) w := by kernel_rfl
theorem info_act : (Tryd.prog.info? 35).map (·.size) = some 5 := by kernel_rfl

end Go.Proofs.YtjckdgapefaokaaDoor
