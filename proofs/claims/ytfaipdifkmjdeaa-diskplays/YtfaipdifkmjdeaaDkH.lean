/- A disk in memory while its writes end: so many are safe already. No condition but those that each lemma names. -/
import Derived.Test.YtfaipdifkmjdeaaDkF
namespace Go.Proofs.Ytfaipdifkmjdeaa
open Go.RowKit

/-- What is under way is read alone. -/
structure DiskH (u : Nat) (w : World) (F : List Nat) (d s c m : Nat) (X : List Value) (ov : Value) (K : List (Nat × Value)) (S : List (List UInt8)) (O : List Nat) (U : List (Nat × List UInt8)) (l : Int) (b : Bool) : Prop where
  blk : Blk w d 61 [.slice (some ⟨s, 0, none⟩) S.length c, ov, .map (some m), .int .i64 l, .bool b]
  sec : Blk w s 70 (S.flatMap secC ++ X)
  fits : S.length ≤ c ∧ c ≤ maxLen
  ord : w.ownsRow u 3 1 ov O.length (O.map keyN)
  map : ImapAt w m K
  keys : ∀ i, i ∈ K.map (·.1) ↔ i ∈ U.map (·.1)
  row : ∀ p ∈ K, ∃ b o c, p.2 = .slice (some ⟨b, o, none⟩) (rowsU U p.1).length c ∧ Rws w 256 secC (some ⟨b, o, none⟩) c (rowsU U p.1) ∧ b ∈ F ∧ b ≠ s ∧ b ≠ m
  inD : d ∈ F
  inS : s ∈ F
  inM : m ∈ F
  inO : ∀ b, ov.ownBlock = some b → b ∈ F
  low : ∀ x ∈ F, u ≤ x ∧ x < w.heap.size
  wide : ∀ s ∈ S, s.length = 256
  inn : ∀ x ∈ U, x.1 < S.length ∧ x.2.length = 256

theorem DiskM.h {u : Nat} {w : World} {F : List Nat} {d s c m : Nat} {X : List Value} {ov : Value} {K : List (Nat × Value)} {D : Dsk} (h : DiskM u w F d s c m X ov K D) : DiskH u w F d s c m X ov K D.safe (D.U.map (·.1)) D.U D.left D.down :=
  ⟨h.blk, h.sec, h.fits, h.g.ord, h.und.map, h.und.keys, fun p hp => by
    obtain ⟨ao, cc, e, hR, _⟩ := Rws.own secC (h.und.row p hp) (fun x hx => by rw [secC_len]; exact (h.ok.inn _ (rowsU_mem hx)).2)
    have hne : rowsU D.U p.1 ≠ [] := rowsU_ne.2 ((h.und.keys p.1).1 (List.mem_map.2 ⟨p, hp, rfl⟩))
    obtain ⟨b, o, rfl, _⟩ := hR.at 0 (List.length_pos_iff.2 hne)
    have hb := h.inK p hp b (by rw [e]; rfl)
    exact ⟨b, o, cc, e, hR, hb.1, hb.2, fun e2 => h.und.map.own (h.und.row p hp) (by rw [e, ← e2]; rfl)⟩, h.inD, h.inS, h.inM, h.inO, h.low, h.ok.wide, h.ok.inn⟩

theorem Rws.off {α : Type} {w a : World} {K : Nat} {f : α → List Value} {ao : Option Addr} {c : Nat} {L : List α} {r : Option Nat} (h : Rws w K f ao c L) (g : w.grownBy a r) (hr : ∀ ad, ao = some ad → some ad.block ≠ r) : Rws a K f ao c L :=
  ⟨h.zip, h.fits, h.most, h.spot, fun ad e i hi => range_kept (h.row ad e i hi) g (hr ad e)⟩

section
variable {u : Nat} {w a : World} {F : List Nat} {d s c m : Nat} {X : List Value} {ov : Value} {K : List (Nat × Value)} {S : List (List UInt8)} {O : List Nat} {U : List (Nat × List UInt8)} {l : Int} {b : Bool}
theorem DiskH.nn (h : DiskH u w F d s c m X ov K S O U l b) (g : w.grownBy a Option.none) : DiskH u a F d s c m X ov K S O U l b :=
  ⟨h.blk.kept g (by simp), h.sec.kept g (by simp), h.fits, h.ord.kept g (by cases ov.ownBlock <;> simp), h.map.none g, h.keys, fun p hp => by
    obtain ⟨b, o, c, e, hR, q⟩ := h.row p hp
    exact ⟨b, o, c, e, hR.kept g, q⟩, h.inD, h.inS, h.inM, h.inO, fun x hx => ⟨(h.low x hx).1, Nat.lt_of_lt_of_le (h.low x hx).2 g.size⟩, h.wide, h.inn⟩
theorem DiskH.m_d (h : DiskH u w F d s c m X ov K S O U l b) : m ≠ d := h.map.blk h.blk
theorem DiskH.m_s (h : DiskH u w F d s c m X ov K S O U l b) : m ≠ s := h.map.blk h.sec
theorem DiskH.d_s (h : DiskH u w F d s c m X ov K S O U l b) : d ≠ s := blk_nq h.blk h.sec (by decide)

/-- A sector's first write has gone out. -/
theorem DiskH.took {i : Nat} {t : List UInt8} (h : DiskH u w F d s c m X ov K S O ((i, t) :: U) l b) : ∃ bb o cc, getI K i = some (.slice (some ⟨bb, o, none⟩) ((rowsU U i).length + 1) cc) ∧ (rowsU U i).length + 1 ≤ cc ∧ w.rangeAt bb o (secC t) ∧ bb ≠ m ∧
    ∀ w', ImapAt w' m (if (rowsU U i).length = 0 then delI K i else putI K i (.slice (cutK (some ⟨bb, o, none⟩) cc 1 256) (rowsU U i).length (cc - 1))) → w.grownBy w' (some m) →
      DiskH u w' F d s c m X ov (if (rowsU U i).length = 0 then delI K i else putI K i (.slice (cutK (some ⟨bb, o, none⟩) cc 1 256) (rowsU U i).length (cc - 1))) S O U l b := by
  have hk : i ∈ K.map (·.1) := (h.keys i).2 (by simp)
  obtain ⟨p, hp, hpi⟩ := List.mem_map.1 hk
  obtain ⟨bb, o, cc, e, hR, q1, q2, q3⟩ := h.row p hp
  have hpi' : p.1 = i := hpi
  rw [hpi', rowsU_cons, if_pos rfl] at e hR
  rw [List.length_cons] at e
  have hg : getI K i = some (.slice (some ⟨bb, o, none⟩) ((rowsU U i).length + 1) cc) := getI_some h.map.once (by rw [← e, ← hpi']; exact hp)
  have hf := hR.fits
  rw [List.length_cons] at hf
  have hr := hR.row _ rfl 0 (by simp)
  simp only [Nat.zero_mul, Nat.add_zero, List.getElem_cons_zero] at hr
  refine ⟨bb, o, cc, hg, hf, hr, q3, fun w' hM g => ?_⟩
  have kd : some d ≠ some m := fun e => h.m_d (by cases e; rfl)
  have ks : some s ≠ some m := fun e => h.m_s (by cases e; rfl)
  have old : ∀ p ∈ K, p.1 ≠ i → ∃ b o c, p.2 = .slice (some ⟨b, o, none⟩) (rowsU U p.1).length c ∧ Rws w' 256 secC (some ⟨b, o, none⟩) c (rowsU U p.1) ∧ b ∈ F ∧ b ≠ s ∧ b ≠ m := by
    intro p hp hpi
    obtain ⟨b, o, c, e, hR, z1, z2, z3⟩ := h.row p hp
    rw [rowsU_cons, if_neg (Ne.symm hpi)] at e hR
    exact ⟨b, o, c, e, hR.off g (fun ad e2 e3 => by cases e2; exact z3 (by cases e3; rfl)), z1, z2, z3⟩
  have hin := fun x hx => h.inn x (List.mem_cons_of_mem _ hx)
  refine ⟨h.blk.kept g kd, h.sec.kept g ks, h.fits, h.ord.kept g ?_, hM, ?_, ?_, h.inD, h.inS, h.inM, h.inO, fun x hx => ⟨(h.low x hx).1, Nat.lt_of_lt_of_le (h.low x hx).2 g.size⟩, h.wide, hin⟩
  · cases hb : ov.ownBlock with
    | none => exact Or.inl rfl
    | some y => exact Or.inr fun e => h.map.own h.ord (by rw [hb, e])
  · intro j
    by_cases hz : (rowsU U i).length = 0
    · rw [if_pos hz]
      have hni : i ∉ U.map (·.1) := fun hm => rowsU_ne.2 hm (List.eq_nil_of_length_eq_zero hz)
      constructor
      · intro hj
        obtain ⟨p, hp, rfl⟩ := List.mem_map.1 hj
        obtain ⟨h1, h2⟩ := (delI_mem i p).1 hp
        have := (h.keys p.1).1 (List.mem_map.2 ⟨p, h1, rfl⟩)
        rcases List.mem_cons.1 this with h3 | h3
        · exact absurd h3 h2
        · exact h3
      · intro hj
        obtain ⟨p, hp, rfl⟩ := List.mem_map.1 ((h.keys j).2 (List.mem_cons_of_mem _ hj))
        exact List.mem_map.2 ⟨p, (delI_mem i p).2 ⟨hp, fun e => hni (e ▸ hj)⟩, rfl⟩
    · rw [if_neg hz]
      have hi : i ∈ U.map (·.1) := rowsU_ne.1 (fun e => hz (by rw [e]; rfl))
      constructor
      · intro hj
        obtain ⟨p, hp, rfl⟩ := List.mem_map.1 hj
        rcases (putI_mem _ _ _).1 hp with rfl | ⟨h1, h2⟩
        · exact hi
        · have := (h.keys p.1).1 (List.mem_map.2 ⟨p, h1, rfl⟩)
          rcases List.mem_cons.1 this with h3 | h3
          · exact absurd h3 h2
          · exact h3
      · intro hj
        by_cases hji : j = i
        · exact List.mem_map.2 ⟨_, (putI_mem _ _ _).2 (Or.inl rfl), hji.symm⟩
        · obtain ⟨p, hp, rfl⟩ := List.mem_map.1 ((h.keys j).2 (List.mem_cons_of_mem _ hj))
          exact List.mem_map.2 ⟨p, (putI_mem _ _ _).2 (Or.inr ⟨hp, hji⟩), rfl⟩
  · intro p hp
    by_cases hz : (rowsU U i).length = 0
    · rw [if_pos hz] at hp
      obtain ⟨h1, h2⟩ := (delI_mem i p).1 hp
      exact old p h1 h2
    · rw [if_neg hz] at hp
      rcases (putI_mem _ _ _).1 hp with rfl | ⟨h1, h2⟩
      · have hd := (hR.off g (fun ad e2 e3 => by cases e2; exact q3 (by cases e3; rfl))).drop 1 (by simp)
        rw [List.drop_succ_cons, List.drop_zero] at hd
        have hcut : cutK (some ⟨bb, o, none⟩) cc 1 256 = some ⟨bb, o + 1 * 256, none⟩ := by
          unfold cutK
          rw [if_neg (by omega), Option.map_some, Addr.add_lit]
        rw [hcut] at hd
        refine ⟨bb, o + 1 * 256, cc - 1, ?_, hd, q1, q2, q3⟩
        simp only
        rw [hcut]
      · exact old p h1 h2

/-- A sector's bytes are written over. -/
theorem DiskH.wrote {S' : List (List UInt8)} (h : DiskH u w F d s c m X ov K S O U l b) (g : w.grownBy a (some s)) (hB : Blk a s 70 (S'.flatMap secC ++ X)) (hl : S'.length = S.length) (hw : ∀ s ∈ S', s.length = 256) : DiskH u a F d s c m X ov K S' O U l b :=
  ⟨by rw [hl]; exact h.blk.kept g (fun e => h.d_s (by cases e; rfl)), hB, by rw [hl]; exact h.fits, h.ord.kept g (Or.inr fun e => own_apart_t h.ord h.sec (by decide) e.symm), h.map.kept g (fun e => h.m_s (by cases e; rfl)), h.keys, fun p hp => by
    obtain ⟨b, o, c, e, hR, q1, q2, q3⟩ := h.row p hp
    exact ⟨b, o, c, e, hR.off g (fun ad e2 e3 => by cases e2; exact q2 (by cases e3; rfl)), q1, q2, q3⟩, h.inD, h.inS, h.inM, h.inO, fun x hx => ⟨(h.low x hx).1, Nat.lt_of_lt_of_le (h.low x hx).2 g.size⟩, hw, fun x hx => by rw [hl]; exact h.inn x hx⟩
end

/-- What the copy of a write's first bytes leaves of the sectors. -/
theorem lay_cells {w : World} {s : Nat} {S : List (List UInt8)} {X : List Value} (h : Blk w s 70 (S.flatMap secC ++ X)) (hS : ∀ x ∈ S, x.length = 256) (i : Nat) (hi : i < S.length) (t : List UInt8) (ht : t.length = 256) (n : Nat) (hn : n ≤ 256) :
    Blk (w.setCells s (i * 256) ((t.take n).map bv)) s 70 ((lay1 S (i, t) n).flatMap secC ++ X) ∧ w.there s (i * 256) n := by
  obtain ⟨A, B, e, hA⟩ := flat_take S hS i hi
  have hSi := hS _ (List.getElem_mem hi)
  have e2 : S.flatMap secC ++ X = A ++ ((S[i].take n).map bv ++ ((S[i].drop n).map bv ++ (B ++ X))) := by
    rw [e]
    have : secC S[i] = (S[i].take n).map bv ++ (S[i].drop n).map bv := by rw [← List.map_append, List.take_append_drop]; rfl
    rw [this]
    simp only [List.append_assoc]
  rw [e2] at h
  have h1 := Blk.setCells ((t.take n).map bv) ((S[i].take n).map bv) h (by simp [hSi, ht])
  rw [hA] at h1
  have hth : w.there s A.length ((S[i].take n).map bv).length := h.thereIn
  rw [hA] at hth
  refine ⟨?_, by have hl : ((S[i].take n).map bv).length = n := by simp [hSi, hn]
                 rw [hl] at hth; exact hth⟩
  have e3 : (lay1 S (i, t) n).flatMap secC = A ++ ((t.take n).map bv ++ ((S[i].drop n).map bv ++ B)) := by
    unfold lay1
    have hl : i < (S.set i (t.take n ++ S[i].drop n)).length := by rw [List.length_set]; exact hi
    rw [List.getElem?_eq_getElem hi, Option.getD_some]
    have hA2 : (S.take i).flatMap secC = A := by
      have h5 : (S.take i).flatMap secC ++ (S.drop i).flatMap secC = A ++ (secC S[i] ++ B) := by rw [← List.flatMap_append, List.take_append_drop]; exact e
      exact (List.append_inj h5 (by rw [hA, flat_len2 secC 256 _ (fun x hx => by rw [secC_len]; exact hS x (List.mem_of_mem_take hx)), List.length_take, Nat.min_eq_left (Nat.le_of_lt hi)])).1
    have hB2 : (S.drop (i + 1)).flatMap secC = B := by
      have h5 : (S.take i).flatMap secC ++ (S.drop i).flatMap secC = A ++ (secC S[i] ++ B) := by rw [← List.flatMap_append, List.take_append_drop]; exact e
      rw [hA2, List.drop_eq_getElem_cons hi, List.flatMap_cons] at h5
      exact List.append_cancel_left (List.append_cancel_left h5)
    rw [List.set_eq_take_append_cons_drop, if_pos hi, List.flatMap_append, List.flatMap_cons, hA2, hB2]
    have : secC (t.take n ++ S[i].drop n) = (t.take n).map bv ++ (S[i].drop n).map bv := by unfold secC; rw [List.map_append]
    rw [this]
    simp only [List.append_assoc]
  rw [e3]
  simp only [List.append_assoc] at h1 ⊢
  exact h1

end Go.Proofs.Ytfaipdifkmjdeaa
