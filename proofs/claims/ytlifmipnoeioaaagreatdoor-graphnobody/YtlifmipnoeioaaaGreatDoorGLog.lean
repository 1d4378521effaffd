/- What a log is: each next one is the best of the parents that were not told. Pure. -/
import Derived.Test.YtlifmipnoeioaaaGreatDoorGLogP
namespace Go.Proofs.YtlifmipnoeioaaaGreatDoor
open Go.RowKit

/-- A parent of one that was told, a commit of the set, and not told. -/
def Cand (S : List ObE) (T : List (List UInt8)) (x : List UInt8) : Prop := (∃ c ∈ T, x ∈ prS S c) ∧ (comS S x).isSome = true ∧ x ∉ T
/-- x is told ahead of y. -/
def Ahead (S : List ObE) (x y : List UInt8) : Bool := cmLt ⟨x, (comS S x).getD 0, [], none, 0⟩ ⟨y, (comS S y).getD 0, [], none, 0⟩
def LogStep (S : List ObE) (T : List (List UInt8)) (x : List UInt8) : Prop := Cand S T x ∧ ∀ y, Cand S T y → Ahead S y x = false
inductive LogP (S : List ObE) (tip : List UInt8) : List (List UInt8) → Prop
  | one : (comS S tip).isSome = true → LogP S tip [tip]
  | more {T : List (List UInt8)} {x : List UInt8} : LogP S tip T → LogStep S T x → LogP S tip (T ++ [x])
def LogEnd (S : List ObE) (T : List (List UInt8)) : Prop := ∀ x, ¬ Cand S T x
/-- What Log tells. -/
def LogOk (S : List ObE) (tip : List UInt8) (T : List (List UInt8)) : Prop := (comS S tip = none ∧ T = []) ∨ (LogP S tip T ∧ LogEnd S T)

theorem LogStep.one {S : List ObE} {T : List (List UInt8)} {x y : List UInt8} (hx : LogStep S T x) (hy : LogStep S T y) : x = y :=
  (cmLt_total _ _ (hy.2 x hx.1) (hx.2 y hy.1)).2
theorem LogP.head {S : List ObE} {tip : List UInt8} {T : List (List UInt8)} (h : LogP S tip T) : tip ∈ T ∧ T ≠ [] := by
  induction h with
  | one _ => simp
  | more _ _ ih => exact ⟨List.mem_append_left _ ih.1, by simp⟩
theorem LogP.com {S : List ObE} {tip : List UInt8} {T : List (List UInt8)} (h : LogP S tip T) : ∀ x ∈ T, (comS S x).isSome = true := by
  induction h with
  | one hc => intro x hx; rw [List.mem_singleton.1 hx]; exact hc
  | more _ hs ih =>
    intro x hx
    rcases List.mem_append.1 hx with hx | hx
    · exact ih x hx
    · rw [List.mem_singleton.1 hx]; exact hs.1.2.1
theorem LogP.nodup {S : List ObE} {tip : List UInt8} {T : List (List UInt8)} (h : LogP S tip T) : T.Nodup := by
  induction h with
  | one _ => simp
  | more _ hs ih => exact List.nodup_append.2 ⟨ih, by simp, fun a ha b hb => by rw [List.mem_singleton.1 hb]; rintro rfl; exact hs.1.2.2 ha⟩
theorem LogP.rch {S : List ObE} {tip : List UInt8} {T : List (List UInt8)} (h : LogP S tip T) : ∀ x ∈ T, Rch (prS S) [tip] x := by
  induction h with
  | one _ => intro x hx; exact .root hx
  | more _ hs ih =>
    intro x hx
    rcases List.mem_append.1 hx with hx | hx
    · exact ih x hx
    · rw [List.mem_singleton.1 hx]
      obtain ⟨c, hc, hp⟩ := hs.1.1
      exact .next (ih c hc) hp
/-- Each but the first is a parent of one ahead of it. -/
theorem LogP.child {S : List ObE} {tip : List UInt8} {T : List (List UInt8)} (h : LogP S tip T) : ∀ i (hi : i < T.length), 0 < i → ∃ k, k < i ∧ T[i] ∈ prS S (T.getD k []) := by
  induction h with
  | one _ => intro i hi h0; simp at hi; omega
  | @more T x _ hs ih =>
    intro i hi h0
    by_cases hl : i < T.length
    · obtain ⟨k, hk, hm⟩ := ih i hl h0
      refine ⟨k, hk, ?_⟩
      rw [List.getElem_append_left hl]
      rw [List.getD_eq_getElem?_getD, List.getElem?_append_left (by omega), ← List.getD_eq_getElem?_getD]
      exact hm
    · have he : i = T.length := by simp at hi; omega
      obtain ⟨c, hc, hp⟩ := hs.1.1
      obtain ⟨k, hk, rfl⟩ := List.mem_iff_getElem.1 hc
      refine ⟨k, by omega, ?_⟩
      subst he
      rw [List.getElem_append_right (Nat.le_refl _)]
      rw [List.getD_eq_getElem?_getD, List.getElem?_append_left hk, List.getElem?_eq_getElem hk]
      simpa using hp
theorem LogP.prefix {S : List ObE} {tip : List UInt8} {T : List (List UInt8)} (h : LogP S tip T) : ∀ {Q : List (List UInt8)}, LogP S tip Q → T.length ≤ Q.length → T = Q.take T.length := by
  induction h with
  | one _ =>
    intro Q hQ hl
    induction hQ with
    | one _ => rfl
    | @more Q x hQ _ ih =>
      have hq : 0 < Q.length := List.length_pos_iff.2 hQ.head.2
      have := ih (by simp; omega)
      rw [List.take_append_of_le_length (by simp; omega)]
      exact this
  | @more T x hT hs ih =>
    intro Q hQ hl
    induction hQ with
    | one _ =>
      have := List.length_pos_iff.2 hT.head.2
      simp at hl
      rw [hl] at this
      simp at this
    | @more Q y hQ hy ihQ =>
      simp only [List.length_append, List.length_cons, List.length_nil] at hl
      by_cases he : T.length = Q.length
      · have h1 := ih hQ (by omega)
        rw [List.take_of_length_le (by omega)] at h1
        subst h1
        rw [hs.one hy, List.take_of_length_le (by simp)]
      · have := ihQ (by simp; omega)
        rw [List.take_append_of_le_length (by simp; omega)]
        exact this
theorem LogOk.one {S : List ObE} {tip : List UInt8} {T Q : List (List UInt8)} (h : LogOk S tip T) (k : LogOk S tip Q) : T = Q := by
  have key : ∀ {T Q : List (List UInt8)}, LogP S tip T → LogEnd S T → LogP S tip Q → T.length ≤ Q.length → T = Q := by
    intro T Q hT hE hQ hl
    have h1 := hT.prefix hQ hl
    by_cases he : T.length = Q.length
    · rw [h1, he, List.take_length]
    · exfalso
      have hlt : T.length < Q.length := by omega
      clear hl he
      induction hQ with
      | one _ =>
        have := List.length_pos_iff.2 hT.head.2
        simp at hlt
        rw [hlt] at this
        simp at this
      | @more Q y hQ hy ih =>
        simp only [List.length_append, List.length_cons, List.length_nil] at hlt
        by_cases he : T.length = Q.length
        · rw [List.take_append_of_le_length (by omega), he, List.take_length] at h1
          rw [h1] at hE
          exact hE y hy.1
        · refine ih ?_ (by omega)
          rw [List.take_append_of_le_length (by omega)] at h1
          exact h1
  rcases h with ⟨h1, rfl⟩ | ⟨h1, h2⟩
  · rcases k with ⟨_, rfl⟩ | ⟨k1, _⟩
    · rfl
    · have := k1.com tip k1.head.1
      rw [h1] at this
      cases this
  · rcases k with ⟨k1, rfl⟩ | ⟨k1, k2⟩
    · have := h1.com tip h1.head.1
      rw [k1] at this
      cases this
    · rcases Nat.le_total T.length Q.length with hl | hl
      · exact key h1 h2 k1 hl
      · exact (key k1 k2 h1 hl).symm

end Go.Proofs.YtlifmipnoeioaaaGreatDoor

/- What graph's Log answers. Of any set, of nil and of a plain one. -/
namespace Go.Proofs.YtlifmipnoeioaaaGreatDoor
open Go.RowKit

/-- What the loop of Log keeps, of names alone. -/
structure LogI (S : List ObE) (tip : List UInt8) (T K : List (List UInt8)) (H : List CmR) : Prop where
  known : ∀ x, x ∈ K ↔ x = tip ∨ ∃ c ∈ T, x ∈ prS S c
  heap : ∀ x, x ∈ H.map (·.id) ↔ x ∈ K ∧ (comS S x).isSome = true ∧ x ∉ T
  once : (H.map (·.id)).Nodup
  com : ∀ r ∈ H, comS S r.id = some r.time ∧ r.pars = prS S r.id
  log : T = [] ∨ LogP S tip T

theorem ahead_cm {S : List ObE} {a b : CmR} (ha : comS S a.id = some a.time) (hb : comS S b.id = some b.time) : Ahead S a.id b.id = cmLt a b := by
  unfold Ahead cmLt
  rw [ha, hb]
  rfl
theorem LogI.first {S : List ObE} {tip : List UInt8} {H : List CmR} (h : (comS S tip = none ∧ H = []) ∨ ∃ t po pc, comS S tip = some t ∧ H.Perm [⟨tip, t, prS S tip, po, pc⟩]) : LogI S tip [] [tip] H := by
  rcases h with ⟨h1, rfl⟩ | ⟨t, po, pc, h1, h2⟩
  · refine ⟨by simp, fun x => ?_, by simp, by simp, Or.inl rfl⟩
    simp only [List.map_nil, List.not_mem_nil, List.mem_singleton, not_false_eq_true, and_true, false_iff, not_and]
    rintro rfl
    rw [h1]
    simp
  · have := List.perm_singleton.1 h2
    subst this
    refine ⟨by simp, fun x => ?_, by simp, fun r hr => ?_, Or.inl rfl⟩
    · simp only [List.map_cons, List.map_nil, List.mem_singleton, List.not_mem_nil, not_false_eq_true, and_true]
      constructor
      · rintro rfl; exact ⟨rfl, by rw [h1]; rfl⟩
      · exact fun h => h.1
    · rw [List.mem_singleton.1 hr]; exact ⟨h1, rfl⟩
/-- One more is told. -/
theorem LogI.told {S : List ObE} {tip : List UInt8} {T K : List (List UInt8)} {H G : List CmR} {r : CmR} (h : LogI S tip T K H) (hr : r ∈ H) (hl : ∀ x ∈ H, cmLt x r = false) (hp : (G ++ [r]).Perm H) : LogP S tip (T ++ [r.id]) ∧ r.id ∉ T ∧ (∀ x, x ∈ G.map (·.id) ↔ x ∈ K ∧ (comS S x).isSome = true ∧ x ∉ T ++ [r.id]) ∧ (G.map (·.id)).Nodup ∧ ∀ q ∈ G, comS S q.id = some q.time ∧ q.pars = prS S q.id := by
  have hid : r.id ∈ H.map (·.id) := List.mem_map.2 ⟨r, hr, rfl⟩
  obtain ⟨hK, hc, hT⟩ := (h.heap r.id).1 hid
  have hpm : ((G ++ [r]).map (·.id)).Perm (H.map (·.id)) := hp.map _
  have hnd := hpm.nodup_iff.2 h.once
  rw [List.map_append] at hnd
  have hnd2 := List.nodup_append.1 hnd
  refine ⟨?_, hT, fun x => ?_, hnd2.1, fun q hq => h.com q (hp.mem_iff.1 (List.mem_append_left _ hq))⟩
  · rcases h.log with rfl | hP
    · have : r.id = tip := by
        rcases (h.known r.id).1 hK with h1 | ⟨c, hc, _⟩
        · exact h1
        · simp at hc
      rw [List.nil_append, this]
      exact .one (by rw [← this]; exact hc)
    · refine .more hP ⟨⟨?_, hc, hT⟩, fun y hy => ?_⟩
      · rcases (h.known r.id).1 hK with h1 | h1
        · exact absurd (h1 ▸ hP.head.1) hT
        · exact h1
      · have hyH : y ∈ H.map (·.id) := (h.heap y).2 ⟨(h.known y).2 (Or.inr hy.1), hy.2.1, hy.2.2⟩
        obtain ⟨q, hq, rfl⟩ := List.mem_map.1 hyH
        rw [ahead_cm (h.com q hq).1 (h.com r hr).1]
        exact hl q hq
  · have hx := hpm.mem_iff (a := x)
    rw [h.heap x, List.map_append, List.mem_append] at hx
    constructor
    · intro hG
      have h1 := hx.1 (Or.inl hG)
      refine ⟨h1.1, h1.2.1, fun hm => ?_⟩
      rcases List.mem_append.1 hm with hm | hm
      · exact h1.2.2 hm
      · exact hnd2.2.2 x hG x (by simpa using hm) rfl
    · rintro ⟨h1, h2, h3⟩
      rcases hx.2 ⟨h1, h2, fun hm => h3 (List.mem_append_left _ hm)⟩ with h4 | h4
      · exact h4
      · exact absurd (List.mem_append_right _ (by simpa using h4)) h3
theorem LogI.ends {S : List ObE} {tip : List UInt8} {T K : List (List UInt8)} (h : LogI S tip T K []) : LogOk S tip T := by
  rcases h.log with rfl | hP
  · left
    refine ⟨?_, rfl⟩
    cases hc : comS S tip with
    | none => rfl
    | some t =>
      have := (h.heap tip).2 ⟨(h.known tip).2 (Or.inl rfl), by rw [hc]; rfl, by simp⟩
      simp at this
  · right
    refine ⟨hP, fun x hx => ?_⟩
    have := (h.heap x).2 ⟨(h.known x).2 (Or.inr hx.1), hx.2.1, hx.2.2⟩
    simp at this

/-- What the loop of Log keeps, in memory: what waits, what was told. -/
structure LogW (w V : World) (m wb : Nat) (sp : Option Addr) (S : List ObE) (T : List (List UInt8)) (tv : Value) (K : List (List UInt8)) (H : List CmR) : Prop where
  gb : w.grownBy V none
  map : MapAt V m (metK K)
  wait : ∃ v, WaitAt V w.heap.size wb sp v H
  heap : HeapTo H H.length
  pars : ∀ r ∈ H, Ids V r.po r.pc r.pars ∧ ∀ ad, r.po = some ad → IdB V ad.block ∧ tv.ownBlock ≠ some ad.block
  told : V.ownsRow w.heap.size 33 32 tv T.length (T.flatMap (·.map bv))
  nm : w.heap.size ≤ m
  sat : Sat w sp S
theorem LogW.none {w V a : World} {m wb : Nat} {sp : Option Addr} {S : List ObE} {T K : List (List UInt8)} {tv : Value} {H : List CmR} (h : LogW w V m wb sp S T tv K H) (g : V.grownBy a Option.none) : LogW w a m wb sp S T tv K H := by
  obtain ⟨v, hv⟩ := h.wait
  exact ⟨tn h.gb g, h.map.none g, ⟨v, hv.none g⟩, h.heap, fun r hr => ⟨(h.pars r hr).1.none g, fun ad e => ⟨((h.pars r hr).2 ad e).1.none g, ((h.pars r hr).2 ad e).2⟩⟩, own_id h.told g (fun _ e => by cases e), h.nm, h.sat⟩

theorem byPile_wait {u w a : World} {base wb : Nat} {sp : Option Addr} {v : Value} {H : List CmR} (g : u.grownBy w none) (hp : WaitAt w base wb sp v H) (h : ByPile w a wb v) (hb : u.heap.size ≤ base) : u.grownBy a none :=
  ⟨h.os.trans g.os, h.tape.trans g.tape, h.output.trans g.output, Nat.le_trans g.size h.size, fun k hk _ => by
    have h2 := hp.nb
    rw [h.block k (Nat.lt_of_lt_of_le hk g.size) (by omega) (fun e => by have := (hp.own.lt k e.symm).1; omega), g.block k hk (by simp)]⟩

/-- What waits, as meet meets names: L was put. -/
def LogSt (w : World) (m wb : Nat) (sp : Option Addr) (S : List ObE) (T : List (List UInt8)) (tv : Value) (H0 : List (List UInt8)) (n0 : Nat) (ao : Option Addr) (c : Nat) (ps : List (List UInt8)) (V : World) (K L : List (List UInt8)) : Prop :=
  ∃ H, LogW w V m wb sp S T tv K H ∧ (∀ x, x ∈ H.map (·.id) ↔ x ∈ H0 ∨ (x ∈ L ∧ (comS S x).isSome = true)) ∧ (H.map (·.id)).Nodup ∧ (∀ r ∈ H, comS S r.id = some r.time ∧ r.pars = prS S r.id) ∧ (∀ x ∈ H0, x ∈ K) ∧ (∀ x ∈ L, x ∈ K) ∧ H.length ≤ n0 + L.length ∧ (L.Nodup ∧ ∀ y ∈ L, y ∈ ps) ∧ Ids V ao c ps ∧ ∀ ad, ao = some ad → IdB V ad.block

theorem log_works (w : World) (m wb : Nat) (sp : Option Addr) (S : List ObE) (T : List (List UInt8)) (tv : Value) (H0 : List (List UInt8)) (n0 : Nat) (ao : Option Addr) (c : Nat) (ps : List (List UInt8)) (hn : n0 ≤ 40000) (hps : ps.length ≤ 1000) :
    Works 54 (.pointer (some ⟨wb, 0, none⟩)) m ao c ps (fun V K L => LogSt w m wb sp S T tv H0 n0 ao c ps V K L) where
  map h := by
    obtain ⟨H, h, _⟩ := h
    exact h.map
  ids h := by
    obtain ⟨H, _, _, _, _, _, _, _, _, h, _⟩ := h
    exact h
  none h g := by
    obtain ⟨H, h1, h2, h3, h4, h5, h6, h7, h8, h9, h10⟩ := h
    exact ⟨H, h1.none g, h2, h3, h4, h5, h6, h7, h8, h9.none g, fun ad e => (h10 ad e).none g⟩
  put {V0 V K L x} h0 hin hxK g0 hM hle := by
    obtain ⟨H, hW, hH, hnd, hcm, hHK, hLK, hlen, hLp, hI, hIB⟩ := h0
    obtain ⟨v, hv⟩ := hW.wait
    have hbm : ∀ b, IdB V0 b → V.heap[b]? = V0.heap[b]? := fun b hb => g0.block b hb.lt (fun e => hb.map hW.map (by cases e; rfl))
    have hgbV : w.grownBy V none := gb_trans hW.gb g0 (fun y e => Or.inl (by cases e; exact hW.nm))
    have hvV : WaitAt V w.heap.size wb sp v H := hv.kept g0 (fun e => hW.map.blk hv.blk (by cases e; rfl)) (Or.inr fun e => hW.map.own hv.own e.symm)
    have htold : V.ownsRow w.heap.size 33 32 tv T.length (T.flatMap (·.map bv)) := own_map hW.told hW.map g0
    have hIV : Ids V ao c ps := hI.same fun ad e => hbm _ (hIB ad e)
    have hIBV : ∀ ad, ao = some ad → IdB V ad.block := fun ad e => (hIB ad e).same (hbm _ (hIB ad e))
    have hparV : ∀ r ∈ H, Ids V r.po r.pc r.pars ∧ ∀ ad, r.po = some ad → IdB V ad.block ∧ tv.ownBlock ≠ some ad.block := fun r hr =>
      ⟨(hW.pars r hr).1.same fun ad e => hbm _ ((hW.pars r hr).2 ad e).1, fun ad e => ⟨((hW.pars r hr).2 ad e).1.same (hbm _ ((hW.pars r hr).2 ad e).1), ((hW.pars r hr).2 ad e).2⟩⟩
    have hLlt : L.length ≤ ps.length := nodup_le hLp.1 hLp.2
    refine (wput_any V w.heap.size wb sp v H S hvV (hW.sat.none hgbV) hW.heap (by omega) x (hI.ids x hin)).mono ?_
    rintro e w' ⟨he, v', H', q1, q2, q3, q4, q5⟩
    have hbp : ∀ b, IdB V b → w'.heap[b]? = V.heap[b]? := fun b hb => byPile_idb hvV q3 hb
    have hmap' : MapAt w' m (metK (K ++ [x])) := hM.same (q3.block m hM.lt (fun e => hM.blk hvV.blk e) (hM.own hvV.own))
    have htold' : w'.ownsRow w.heap.size 33 32 tv T.length (T.flatMap (·.map bv)) := by
      refine ⟨htold.1, ?_⟩
      rcases htold.2 with h1 | ⟨g, cap, cur, hv2, hg, hh, hr⟩
      · exact Or.inl h1
      · exact Or.inr ⟨g, cap, cur, hv2, hg, by rw [hbp g ⟨cur, _, hh⟩]; exact hh, hr⟩
    have hparH : ∀ r ∈ H, Ids w' r.po r.pc r.pars ∧ ∀ ad, r.po = some ad → IdB w' ad.block ∧ tv.ownBlock ≠ some ad.block := fun r hr =>
      ⟨(hparV r hr).1.same fun ad e => hbp _ ((hparV r hr).2 ad e).1, fun ad e => ⟨((hparV r hr).2 ad e).1.same (hbp _ ((hparV r hr).2 ad e).1), ((hparV r hr).2 ad e).2⟩⟩
    have hHids : ∀ y ∈ H.map (·.id), y ∈ K := fun y hy => by
      rcases (hH y).1 hy with h1 | h1
      · exact hHK y h1
      · exact hLK y h1.1
    refine ⟨he, H', ⟨byPile_wait hgbV hvV q3 (Nat.le_refl _), hmap', ⟨v', q1⟩, q2, ?_, htold', hW.nm, hW.sat⟩, ?_, ?_, ?_, fun y hy => List.mem_append_left _ (hHK y hy), fun y hy => ?_, ?_, ?_, hIV.same fun ad e => hbp _ (hIBV ad e), fun ad e => (hIBV ad e).same (hbp _ (hIBV ad e))⟩
    · rcases q5 with ⟨_, rfl⟩ | ⟨t, po, pc, hc, hp, hIx, hbx⟩
      · exact hparH
      · intro r hr
        rcases List.mem_append.1 (hp.mem_iff.1 hr) with hr | hr
        · exact hparH r hr
        · rw [List.mem_singleton.1 hr]
          refine ⟨hIx, fun ad e => ⟨(hbx ad e).2, fun e2 => ?_⟩⟩
          have h1 := (htold.lt _ e2).2
          have h2 := (hbx ad e).1
          omega
    · intro y
      rcases q5 with ⟨hc, rfl⟩ | ⟨t, po, pc, hc, hp, hIx, hbx⟩
      · rw [hH y]
        constructor
        · rintro (h1 | ⟨h1, h2⟩)
          · exact Or.inl h1
          · exact Or.inr ⟨List.mem_append_left _ h1, h2⟩
        · rintro (h1 | ⟨h1, h2⟩)
          · exact Or.inl h1
          · rcases List.mem_append.1 h1 with h1 | h1
            · exact Or.inr ⟨h1, h2⟩
            · rw [List.mem_singleton.1 h1, hc] at h2
              cases h2
      · rw [(hp.map (·.id)).mem_iff, List.map_append, List.mem_append, hH y]
        constructor
        · rintro ((h1 | ⟨h1, h2⟩) | h1)
          · exact Or.inl h1
          · exact Or.inr ⟨List.mem_append_left _ h1, h2⟩
          · have : y = x := by simpa using h1
            subst this
            exact Or.inr ⟨by simp, by rw [hc]; rfl⟩
        · rintro (h1 | ⟨h1, h2⟩)
          · exact Or.inl (Or.inl h1)
          · rcases List.mem_append.1 h1 with h1 | h1
            · exact Or.inl (Or.inr ⟨h1, h2⟩)
            · right; simpa using h1
    · rcases q5 with ⟨hc, rfl⟩ | ⟨t, po, pc, hc, hp, hIx, hbx⟩
      · exact hnd
      · rw [(hp.map (·.id)).nodup_iff, List.map_append]
        refine List.nodup_append.2 ⟨hnd, by simp, fun a ha b hb => ?_⟩
        have : b = x := by simpa using hb
        subst this
        rintro rfl
        exact hxK (hHids _ ha)
    · rcases q5 with ⟨hc, rfl⟩ | ⟨t, po, pc, hc, hp, hIx, hbx⟩
      · exact hcm
      · intro r hr
        rcases List.mem_append.1 (hp.mem_iff.1 hr) with hr | hr
        · exact hcm r hr
        · rw [List.mem_singleton.1 hr]; exact ⟨hc, rfl⟩
    · rcases List.mem_append.1 hy with hy | hy
      · exact List.mem_append_left _ (hLK y hy)
      · exact List.mem_append_right _ hy
    · rcases q5 with ⟨hc, rfl⟩ | ⟨t, po, pc, hc, hp, hIx, hbx⟩
      · simp only [List.length_append, List.length_cons, List.length_nil]; omega
      · rw [hp.length_eq]; simp only [List.length_append, List.length_cons, List.length_nil]; omega
    · refine ⟨List.nodup_append.2 ⟨hLp.1, by simp, fun a ha b hb => ?_⟩, fun y hy => ?_⟩
      · have : b = x := by simpa using hb
        subst this
        rintro rfl
        exact hxK (hLK _ ha)
      · rcases List.mem_append.1 hy with hy | hy
        · exact hLp.2 y hy
        · rw [List.mem_singleton.1 hy]; exact hin
  enter := fun args w => by exact enters_of Tryz.func54 (by kernel_rfl) rfl args w

end Go.Proofs.YtlifmipnoeioaaaGreatDoor
