/- A disk in memory while it is written: what comes last in the order, and what is under way of a sector. No condition but those that each lemma names. -/
import Derived.Test.YtfaipdifkmjdeaaDkS
namespace Go.Proofs.Ytfaipdifkmjdeaa
open Go.RowKit

/-- A disk in memory, the order told apart from what is under way. -/
structure DiskG (u : Nat) (w : World) (F : List Nat) (d s c m : Nat) (X : List Value) (ov : Value) (K : List (Nat × Value)) (S : List (List UInt8)) (O : List Nat) (U : List (Nat × List UInt8)) (l : Int) (b : Bool) : Prop where
  blk : Blk w d 61 [.slice (some ⟨s, 0, none⟩) S.length c, ov, .map (some m), .int .i64 l, .bool b]
  sec : Blk w s 70 (S.flatMap secC ++ X)
  fits : S.length ≤ c ∧ c ≤ maxLen
  ord : w.ownsRow u 3 1 ov O.length (O.map keyN)
  und : Und u w m K U
  inD : d ∈ F
  inS : s ∈ F
  inM : m ∈ F
  inO : ∀ b, ov.ownBlock = some b → b ∈ F
  inK : ∀ p ∈ K, ∀ b, p.2.ownBlock = some b → b ∈ F ∧ b ≠ s
  low : ∀ x ∈ F, u ≤ x ∧ x < w.heap.size

theorem DiskM.g {u : Nat} {w : World} {F : List Nat} {d s c m : Nat} {X : List Value} {ov : Value} {K : List (Nat × Value)} {D : Dsk} (h : DiskM u w F d s c m X ov K D) : DiskG u w F d s c m X ov K D.safe (D.U.map (·.1)) D.U D.left D.down :=
  ⟨h.blk, h.sec, h.fits, by have := h.ord; simpa [Function.comp_def] using this, h.und, h.inD, h.inS, h.inM, h.inO, h.inK, h.low⟩
theorem DiskG.m {u : Nat} {w : World} {F : List Nat} {d s c m : Nat} {X : List Value} {ov : Value} {K : List (Nat × Value)} {D : Dsk} (h : DiskG u w F d s c m X ov K D.safe (D.U.map (·.1)) D.U D.left D.down) (ok : D.Ok) : DiskM u w F d s c m X ov K D :=
  ⟨h.blk, h.sec, h.fits, by have := h.ord; simpa [Function.comp_def] using this, h.und, h.inD, h.inS, h.inM, h.inO, h.inK, h.low, ok⟩
theorem DiskG.fr {u : Nat} {w a : World} {F G : List Nat} {d s c m : Nat} {X : List Value} {ov : Value} {K : List (Nat × Value)} {S : List (List UInt8)} {O : List Nat} {U : List (Nat × List UInt8)} {l : Int} {b : Bool} (h : DiskG u w F d s c m X ov K S O U l b) (g : Fr w a G) (hG : ∀ x ∈ F, x ∉ G) : DiskG u a F d s c m X ov K S O U l b :=
  ⟨g.blk h.blk (hG _ h.inD), g.blk h.sec (hG _ h.inS), h.fits, g.own h.ord (fun b hb => hG _ (h.inO b hb)), h.und.fr g (hG _ h.inM) (fun p hp b hb => hG _ (h.inK p hp b hb).1), h.inD, h.inS, h.inM, h.inO, h.inK, fun x hx => ⟨(h.low x hx).1, Nat.lt_of_lt_of_le (h.low x hx).2 g.size⟩⟩
theorem DiskG.nn {u : Nat} {w a : World} {F : List Nat} {d s c m : Nat} {X : List Value} {ov : Value} {K : List (Nat × Value)} {S : List (List UInt8)} {O : List Nat} {U : List (Nat × List UInt8)} {l : Int} {b : Bool} (h : DiskG u w F d s c m X ov K S O U l b) (g : w.grownBy a Option.none) : DiskG u a F d s c m X ov K S O U l b := h.fr (Fr.none g []) (fun _ _ e => by cases e)

theorem ownBlk (g n c : Nat) : (Value.slice (some ⟨g, 0, none⟩) n c).ownBlock = some g := rfl

/-- One more sector comes last in the order. -/
theorem DiskG.ordered {u : Nat} {w w5 : World} {F : List Nat} {d s c m : Nat} {X : List Value} {ov : Value} {K : List (Nat × Value)} {S : List (List UInt8)} {O : List Nat} {U : List (Nat × List UInt8)} {l : Int} {b : Bool} (h : DiskG u w F d s c m X ov K S O U l b) {g cap i : Nat}
    (ho : w5.ownsRow u 3 1 (.slice (some ⟨g, 0, none⟩) (O.length + 1) cap) (O.length + 1) (O.map keyN ++ [keyN i])) (g5 : w.grownBy w5 ov.ownBlock) (hg : ov.ownBlock = some g ∨ g = w.heap.size) (hlt : g < w5.heap.size) :
    DiskG u (w5.setCell ⟨d, 1, none⟩ (.slice (some ⟨g, 0, none⟩) (O.length + 1) cap)) (g :: F) d s c m X (.slice (some ⟨g, 0, none⟩) (O.length + 1) cap) K S (O ++ [i]) U l b ∧
      Fr w (w5.setCell ⟨d, 1, none⟩ (.slice (some ⟨g, 0, none⟩) (O.length + 1) cap)) F ∧ (g ∈ F ∨ w.heap.size ≤ g) := by
  have n1 : some d ≠ ov.ownBlock := own_apart_t h.ord h.blk (by decide)
  have n2 : some s ≠ ov.ownBlock := own_apart_t h.ord h.sec (by decide)
  have n3 : some m ≠ ov.ownBlock := h.und.map.own h.ord
  have B5 := h.blk.kept g5 n1
  have g6 := gb_set w5 d 1 (.slice (some ⟨g, 0, none⟩) (O.length + 1) cap)
  have nsd : s ≠ d := (blk_nq h.blk h.sec (by decide)).symm
  have nmd : m ≠ d := h.und.map.blk h.blk
  have U5 : Und u w5 m K U := h.und.kept g5 n3 (fun p hp b hb e => by
    rcases own_apart_2 (h.und.row p hp) h.ord (by decide) with h1 | h1
    · rw [hb] at h1; cases h1
    · exact h1 (by rw [hb, e]))
  refine ⟨⟨B5.set 1 _, (h.sec.kept g5 n2).kept g6 (fun e => nsd (by cases e; rfl)), h.fits, ?_, ?_, by simp [h.inD], by simp [h.inS], by simp [h.inM], ?_, ?_, ?_⟩, ?_⟩
  · rw [List.length_append, List.map_append]
    exact ho.kept g6 (Or.inr fun e => own_apart_t ho B5 (by decide) e.symm)
  · exact U5.kept g6 (fun e => nmd (by cases e; rfl)) (fun p hp b hb e => own_apart_t (U5.row p hp) B5 (by decide) (by rw [hb]; exact e.symm))
  · intro b hb
    rw [ownBlk] at hb
    cases hb
    simp
  · intro p hp b hb
    exact ⟨List.mem_cons_of_mem _ (h.inK p hp b hb).1, (h.inK p hp b hb).2⟩
  · intro x hx
    have hsz : w5.heap.size = (w5.setCell ⟨d, 1, none⟩ (.slice (some ⟨g, 0, none⟩) (O.length + 1) cap)).heap.size := by simp [World.setCell]
    rcases List.mem_cons.1 hx with rfl | hx
    · exact ⟨(ho.lt _ rfl).1, by rw [← hsz]; exact hlt⟩
    · exact ⟨(h.low x hx).1, by rw [← hsz]; exact Nat.lt_of_lt_of_le (h.low x hx).2 g5.size⟩
  · exact ⟨(Fr.of g5 (fun x e => Or.inl (h.inO x e))).then g6 (fun x e => Or.inl (by cases e; exact h.inD)), by
      rcases hg with h1 | h1
      · exact Or.inl (h.inO g h1)
      · exact Or.inr (Nat.le_of_eq h1.symm)⟩

/-- The row of a sector that has writes under way lies apart. -/
theorem DiskG.rowOff {u : Nat} {w : World} {F : List Nat} {d s c m : Nat} {X : List Value} {ov : Value} {K : List (Nat × Value)} {S : List (List UInt8)} {O : List Nat} {U : List (Nat × List UInt8)} {l : Int} {b : Bool} (h : DiskG u w F d s c m X ov K S O U l b) (i : Nat) {x : Nat} (hx : ((getI K i).getD (.slice none 0 0)).ownBlock = some x) : x ∈ F ∧ x ≠ s ∧ x ≠ d ∧ x ≠ m := by
  cases hk : getI K i with
  | none => rw [hk, Option.getD_none] at hx; cases hx
  | some v =>
    rw [hk, Option.getD_some] at hx
    have hp := getI_mem hk
    have h1 := h.inK _ hp x hx
    refine ⟨h1.1, h1.2, fun e => ?_, fun e => ?_⟩
    · subst e
      exact own_apart_t (h.und.row _ hp) h.blk (by decide) hx.symm
    · subst e
      exact h.und.map.own (h.und.row _ hp) hx.symm
/-- .. and is one of the call's own, maybe of none. -/
theorem DiskG.rowOwn {u : Nat} {w : World} {F : List Nat} {d s c m : Nat} {X : List Value} {ov : Value} {K : List (Nat × Value)} {S : List (List UInt8)} {O : List Nat} {U : List (Nat × List UInt8)} {l : Int} {b : Bool} (h : DiskG u w F d s c m X ov K S O U l b) (i : Nat) : w.ownsRow u 70 256 ((getI K i).getD (.slice none 0 0)) (rowsU U i).length ((rowsU U i).flatMap secC) := by
  cases hk : getI K i with
  | none =>
    have hi : i ∉ K.map (·.1) := fun hm => by have := (getI_isSome K i).2 hm; rw [hk] at this; cases this
    have : rowsU U i = [] := Classical.byContradiction fun hne => hi ((h.und.keys i).2 (rowsU_ne.1 hne))
    rw [this]
    exact World.ownsRow_nil _ _ _ _
  | some v => exact h.und.row _ (getI_mem hk)

/-- One more write of a sector is under way. -/
theorem DiskG.under {u : Nat} {w w8 w9 : World} {F : List Nat} {d s c m : Nat} {X : List Value} {ov : Value} {K : List (Nat × Value)} {S : List (List UInt8)} {O : List Nat} {U : List (Nat × List UInt8)} {l : Int} {b : Bool} (h : DiskG u w F d s c m X ov K S O U l b) {g cap i : Nat} {t : List UInt8} {n : Nat}
    (ho : w8.ownsRow u 70 256 (.slice (some ⟨g, 0, none⟩) (n + 1) cap) (n + 1) ((rowsU U i ++ [t]).flatMap secC)) (hn : n = (rowsU U i).length) (g8 : w.grownBy w8 ((getI K i).getD (.slice none 0 0)).ownBlock) (hg : ((getI K i).getD (.slice none 0 0)).ownBlock = some g ∨ g = w.heap.size) (hlt : g < w8.heap.size)
    (hM : ImapAt w9 m (putI K i (.slice (some ⟨g, 0, none⟩) (n + 1) cap))) (g9 : w8.grownBy w9 (some m)) :
    DiskG u w9 (g :: F) d s c m X ov (putI K i (.slice (some ⟨g, 0, none⟩) (n + 1) cap)) S O (U ++ [(i, t)]) l b ∧ Fr w w9 F ∧ (g ∈ F ∨ w.heap.size ≤ g) := by
  obtain ⟨v, hv⟩ : ∃ v, v = (getI K i).getD (.slice none 0 0) := ⟨_, rfl⟩
  rw [← hv] at g8 hg
  have hvo : ∀ x, v.ownBlock = some x → ∃ p ∈ K, p.1 = i ∧ p.2 = v := by
    intro x hx
    cases hk : getI K i with
    | none => rw [hk, Option.getD_none] at hv; rw [hv] at hx; cases hx
    | some v' => rw [hk, Option.getD_some] at hv; exact ⟨(i, v'), getI_mem hk, rfl, hv.symm⟩
  have hvt : ∀ {r : Nat} {t' : TypeId} {cs : List Value}, Blk w r t' cs → t' ≠ 70 → some r ≠ v.ownBlock := by
    intro r t' cs hB ht e
    obtain ⟨p, hp, _, e2⟩ := hvo r e.symm
    exact own_apart_t (h.und.row p hp) hB (Ne.symm ht) (by rw [e2]; exact e)
  have nd : some d ≠ v.ownBlock := hvt h.blk (by decide)
  have ns : some s ≠ v.ownBlock := fun e => by
    obtain ⟨p, hp, _, e2⟩ := hvo s e.symm
    exact (h.inK p hp s (by rw [e2]; exact e.symm)).2 rfl
  have nm : some m ≠ v.ownBlock := fun e => by
    obtain ⟨p, hp, _, e2⟩ := hvo m e.symm
    exact h.und.map.own (h.und.row p hp) (by rw [e2]; exact e)
  have mdl : ∀ {r : Nat} {t' : TypeId} {cs : List Value}, Blk w r t' cs → some r ≠ some m := fun hB e => h.und.map.blk hB (by cases e; rfl)
  have hF : Fr w w9 F := (Fr.of g8 (fun x e => by
    obtain ⟨p, hp, _, e2⟩ := hvo x e
    exact Or.inl (h.inK p hp x (by rw [e2]; exact e)).1)).then g9 (fun x e => Or.inl (by cases e; exact h.inM))
  have M8 : ImapAt w8 m K := h.und.map.kept g8 nm
  have others : ∀ p ∈ K, p.1 ≠ i → p.2.ownBlock ≠ some g ∧ w9.ownsRow u 70 256 p.2 (rowsU U p.1).length ((rowsU U p.1).flatMap secC) := by
    intro p hp hpi
    have hpv : p.2.ownBlock = Option.none ∨ p.2.ownBlock ≠ v.ownBlock := by
      cases hb : v.ownBlock with
      | none =>
        cases hb2 : p.2.ownBlock with
        | none => exact Or.inl rfl
        | some y => exact Or.inr (by simp)
      | some x =>
        obtain ⟨q, hq, e1, e2⟩ := hvo x hb
        have := h.und.apart p hp q hq (by rw [e1]; exact hpi)
        rw [e2, hb] at this
        exact Or.inr this
    refine ⟨fun e => ?_, ?_⟩
    · rcases hg with h1 | h1
      · rcases hpv with h2 | h2
        · rw [e] at h2; cases h2
        · exact h2 (by rw [e, h1])
      · have := ((h.und.row p hp).lt g e).2
        omega
    · have h8 := (h.und.row p hp).kept g8 hpv
      exact h8.kept g9 (by
        cases hb : p.2.ownBlock with
        | none => exact Or.inl rfl
        | some y => exact Or.inr fun e => M8.own h8 (by rw [hb, e]))
  have hkeys : ∀ j, j ∈ (putI K i (.slice (some ⟨g, 0, none⟩) (n + 1) cap)).map (·.1) ↔ j ∈ (U ++ [(i, t)]).map (·.1) := by
    intro j
    rw [List.map_append, List.mem_append]
    constructor
    · intro hj
      obtain ⟨p, hp, rfl⟩ := List.mem_map.1 hj
      rcases (putI_mem _ _ _).1 hp with rfl | ⟨h1, _⟩
      · exact Or.inr (by simp)
      · exact Or.inl ((h.und.keys _).1 (List.mem_map.2 ⟨p, h1, rfl⟩))
    · intro hj
      by_cases hji : j = i
      · exact List.mem_map.2 ⟨(i, .slice (some ⟨g, 0, none⟩) (n + 1) cap), (putI_mem _ _ _).2 (Or.inl rfl), hji.symm⟩
      · rcases hj with hj | hj
        · obtain ⟨p, hp, rfl⟩ := List.mem_map.1 ((h.und.keys j).2 hj)
          exact List.mem_map.2 ⟨p, (putI_mem _ _ _).2 (Or.inr ⟨hp, hji⟩), rfl⟩
        · exact absurd (by simpa using hj) hji
  refine ⟨⟨(h.blk.kept g8 nd).kept g9 (mdl h.blk), (h.sec.kept g8 ns).kept g9 (mdl h.sec), h.fits, ?_, ⟨hM, hkeys, ?_, ?_⟩, by simp [h.inD], by simp [h.inS], by simp [h.inM], fun b hb => List.mem_cons_of_mem _ (h.inO b hb), ?_, ?_⟩, hF, by
    rcases hg with h1 | h1
    · obtain ⟨p, hp, _, e2⟩ := hvo g h1
      exact Or.inl (h.inK p hp g (by rw [e2]; exact h1)).1
    · exact Or.inr (Nat.le_of_eq h1.symm)⟩
  · have h8 := h.ord.kept g8 (by
      cases hb : v.ownBlock with
      | none =>
        cases hb2 : ov.ownBlock with
        | none => exact Or.inl rfl
        | some y => exact Or.inr (by simp)
      | some x =>
        obtain ⟨q, hq, e1, e2⟩ := hvo x hb
        have := own_apart_2 h.ord (h.und.row q hq) (by decide)
        rw [e2, hb] at this
        exact this)
    exact h8.kept g9 (by
      cases hb : ov.ownBlock with
      | none => exact Or.inl rfl
      | some y => exact Or.inr fun e => M8.own h8 (by rw [hb, e]))
  · intro p hp
    rcases (putI_mem _ _ _).1 hp with rfl | ⟨h1, h2⟩
    · simp only
      rw [rowsU_snoc, if_pos rfl, List.length_append, ← hn]
      exact ho.kept g9 (Or.inr fun e => M8.own ho (by rw [e]))
    · rw [rowsU_snoc, if_neg (fun e => h2 e.symm)]
      exact (others p h1 h2).2
  · intro p hp q hq hpq
    rcases (putI_mem _ _ _).1 hp with rfl | ⟨h1, h2⟩
    · rcases (putI_mem _ _ _).1 hq with rfl | ⟨h3, h4⟩
      · exact absurd rfl hpq
      · rw [ownBlk]
        exact fun e => (others q h3 h4).1 e.symm
    · rcases (putI_mem _ _ _).1 hq with rfl | ⟨h3, h4⟩
      · rw [ownBlk]
        exact (others p h1 h2).1
      · exact h.und.apart p h1 q h3 hpq
  · intro p hp b hb
    rcases (putI_mem _ _ _).1 hp with rfl | ⟨h1, h2⟩
    · rw [ownBlk] at hb
      cases hb
      refine ⟨by simp, fun e => ?_⟩
      subst e
      rcases hg with h3 | h3
      · exact ns h3.symm
      · have := (h.low _ h.inS).2
        omega
    · exact ⟨List.mem_cons_of_mem _ (h.inK p h1 b hb).1, (h.inK p h1 b hb).2⟩
  · intro x hx
    rcases List.mem_cons.1 hx with rfl | hx
    · exact ⟨(ho.lt _ rfl).1, Nat.lt_of_lt_of_le hlt g9.size⟩
    · exact ⟨(h.low x hx).1, Nat.lt_of_lt_of_le (h.low x hx).2 hF.size⟩

end Go.Proofs.Ytfaipdifkmjdeaa
