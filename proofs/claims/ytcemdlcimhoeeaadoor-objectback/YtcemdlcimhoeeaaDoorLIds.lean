/- What the document's TreeOf, ChangeOf and MarkOf read out of data, as functions of lists of bytes; and that where they find an object it is the one that is read otherwise. No condition but those that each lemma names. -/
import Derived.Test.YtcemdlcimhoeeaaDoorOCell
import Derived.Test.YtcemdlcimhoeeaaDoorOApp
import Derived.Test.YtcemdlcimhoeeaaDoorMStg
import Derived.Test.YtcemdlcimhoeeaaDoorMGrd
import Derived.Deep.RegionHeld3
import Derived.Deep.DrawnRows
import Derived.Deep.DeepCutAuto
namespace Go.Proofs.YtcemdlcimhoeeaaDoor
open Go.RowKit

theorem numS_ok {l : List UInt8} {e n : Int} (h : (numS l e n).2.2 = 0) : e = 0 := by
  unfold numS at h
  split at h
  · assumption
  · exact h
theorem sizedS_ok {l : List UInt8} {e : Int} (h : (sizedS l e).2.2 = 0) : e = 0 := by
  unfold sizedS at h
  split at h
  · assumption
  · exact h
theorem rawS_ok {l : List UInt8} {e n : Int} (h : (rawS l e n).2.2 = 0) : e = 0 := by
  unfold rawS at h
  split at h
  · assumption
  · exact h
theorem raw32_ok {l : List UInt8} {e : Int} (h : (rawS l e 32).2.2 = 0) : (rawS l e 32).1.length = 32 := by
  unfold rawS at h ⊢
  split
  · split
    · rename_i h1 h2
      rw [if_pos h1, if_pos h2] at h
      exact absurd h (by decide)
    · rename_i h2
      simp at h2 ⊢
      omega
  · rename_i h1
    rw [if_neg h1] at h
    exact absurd h h1
theorem done_ok {l : List UInt8} {e : Int} (h : doneS l e = 0) : l = [] ∧ e = 0 := by
  unfold doneS at h
  split at h
  · split at h
    · exact ⟨by assumption, by assumption⟩
    · exact absurd h (by decide)
  · rename_i h1
    exact absurd h h1

/-- The note that the document reads, and what is left. -/
def rdM (d : List UInt8) : MrkL × List UInt8 × Int :=
  let t := rawS d 0 32
  let a := sizedS t.2.1 t.2.2
  let x := sizedS a.2.1 a.2.2
  (⟨t.1, a.1, x.1⟩, x.2)
theorem fit_len {x d : List UInt8} (h : fitB x = (0, d)) : d = x ∧ x.length ≤ 16384 := by
  unfold fitB at h
  split at h
  · exact absurd (congrArg Prod.fst h) (by simp)
  · exact ⟨(congrArg Prod.snd h).symm, by omega⟩
theorem ofMrk_ok {m : MrkL} {d : List UInt8} (h : ofMrk m = (0, d)) : d = mrkB m ∧ m.name.length ≤ 16384 ∧ m.text.length ≤ 16384 := by
  unfold ofMrk at h
  split at h
  · obtain ⟨h1, h2⟩ := fit_len h
    unfold mrkB at h2
    simp only [List.length_append, layS_len] at h2
    exact ⟨h1, by omega, by omega⟩
  · exact absurd (congrArg Prod.fst h) (by simp)
theorem ofChg_ok {c : ChgL} {d : List UInt8} (h : ofChg c = (0, d)) : d = chgB c ∧ c.pars.length ≤ 4 ∧ c.author.length ≤ 16384 ∧ c.text.length ≤ 16384 := by
  unfold ofChg at h
  split at h
  · exact absurd (congrArg Prod.fst h) (by simp)
  · split at h
    · obtain ⟨h1, h2⟩ := fit_len h
      unfold chgB at h2
      simp only [List.length_append, layS_len] at h2
      exact ⟨h1, by omega, by omega, by omega⟩
    · exact absurd (congrArg Prod.fst h) (by simp)
theorem partB_le {l : List UInt8} (h : partB l = true) : l.length ≤ 64 := by
  unfold partB at h
  simp only [Bool.and_eq_true, decide_eq_true_eq] at h
  omega
theorem ofTree_ok {es : List EntL} {d : List UInt8} (h : ofTree es = (0, d)) : d = treeB es ∧ es.length ≤ 32 ∧ ∀ e ∈ es, e.name.length ≤ 64 := by
  unfold ofTree at h
  split at h
  · exact absurd (congrArg Prod.fst h) (by simp)
  · split at h
    · rename_i hg
      obtain ⟨h1, h2⟩ := fit_len h
      refine ⟨h1, by omega, fun e he => ?_⟩
      obtain ⟨i, hi, rfl⟩ := List.getElem_of_mem he
      have h3 := List.all_eq_true.1 hg i (List.mem_range.2 hi)
      unfold goodAt at h3
      simp only [Bool.and_eq_true] at h3
      have h4 := partB_le h3.1
      rwa [show es.getD i default = es[i] by simp [hi]] at h4
    · exact absurd (congrArg Prod.fst h) (by simp)

theorem rdM_same {d : List UInt8} : (doneS (rdM d).2.1 (rdM d).2.2 = 0 ∧ ofMrk (rdM d).1 = (0, d)) ↔ ofMrk (readM d) = (0, d) := by
  constructor
  · rintro ⟨h1, h2⟩
    obtain ⟨_, he⟩ := done_ok h1
    have e2 : (sizedS (sizedS (rawS d 0 32).2.1 (rawS d 0 32).2.2).2.1 (sizedS (rawS d 0 32).2.1 (rawS d 0 32).2.2).2.2).2.2 = 0 := he
    have e3 := raw32_ok (sizedS_ok (sizedS_ok e2))
    have : readM d = (rdM d).1 := by unfold readM rdM; simp only [pad32_id _ e3]
    rw [this]; exact h2
  · intro h
    obtain ⟨hd, hn, hx⟩ := ofMrk_ok h
    have hok : (readM d).target.length = 32 := by unfold readM; exact raw32_len _ _
    obtain ⟨m, hm⟩ : ∃ m, m = readM d := ⟨_, rfl⟩
    rw [← hm] at h hd hn hx hok
    have h1 := rawS_lay m.target (layS m.name ++ (layS m.text ++ [])) 32 hok
    have h5 := sizedS_lay m.name (layS m.text ++ []) (by omega)
    have h6 := sizedS_lay m.text [] (by omega)
    have e1 : d = m.target ++ (layS m.name ++ (layS m.text ++ [])) := by rw [hd]; simp [mrkB]
    have hr : rdM d = (m, [], 0) := by
      unfold rdM
      rw [e1, show (32 : Int) = ((32 : Nat) : Int) from rfl]
      simp only [h1, h5, h6]
    rw [hr]
    exact ⟨rfl, h⟩
theorem rdM_is {d : List UInt8} (h : ofMrk (readM d) = (0, d)) : (rdM d).1 = readM d := by
  obtain ⟨h1, h2⟩ := rdM_same.2 h
  obtain ⟨_, he⟩ := done_ok h1
  have e2 : (sizedS (sizedS (rawS d 0 32).2.1 (rawS d 0 32).2.2).2.1 (sizedS (rawS d 0 32).2.1 (rawS d 0 32).2.2).2.2).2.2 = 0 := he
  have e3 := raw32_ok (sizedS_ok (sizedS_ok e2))
  unfold readM rdM; simp only [pad32_id _ e3]

/-- One more entry, and one more parent, that the document reads. -/
def stepR (p : List EntL × List UInt8 × Int) : List EntL × List UInt8 × Int :=
  let a := numS p.2.1 p.2.2 1
  let b := sizedS a.2.1 a.2.2
  let c := rawS b.2.1 b.2.2 32
  (p.1 ++ [⟨b.1, decide (a.1 = 1), c.1⟩], c.2)
def runR (s : List UInt8 × Int) : Nat → List EntL × List UInt8 × Int
  | 0 => ([], s)
  | n + 1 => stepR (runR s n)
def stepQ (p : List (List UInt8) × List UInt8 × Int) : List (List UInt8) × List UInt8 × Int :=
  let c := rawS p.2.1 p.2.2 32
  (p.1 ++ [c.1], c.2)
def runQ (s : List UInt8 × Int) : Nat → List (List UInt8) × List UInt8 × Int
  | 0 => ([], s)
  | n + 1 => stepQ (runQ s n)

theorem stepR_ok {p : List EntL × List UInt8 × Int} (h : (stepR p).2.2 = 0) : p.2.2 = 0 ∧ stepR p = stepE p := by
  unfold stepR at h
  have e3 := raw32_ok h
  have e1 := numS_ok (sizedS_ok (rawS_ok h))
  refine ⟨e1, ?_⟩
  unfold stepR stepE
  simp only [pad32_id _ e3]
theorem stepQ_ok {p : List (List UInt8) × List UInt8 × Int} (h : (stepQ p).2.2 = 0) : p.2.2 = 0 ∧ stepQ p = stepP p := by
  unfold stepQ at h
  have e3 := raw32_ok h
  refine ⟨rawS_ok h, ?_⟩
  unfold stepQ stepP
  simp only [pad32_id _ e3]
theorem runR_ok {s : List UInt8 × Int} : ∀ {n : Nat}, (runR s n).2.2 = 0 → runR s n = runE s n
  | 0, _ => rfl
  | n + 1, h => by
    obtain ⟨h1, h2⟩ := stepR_ok (p := runR s n) h
    rw [runR, h2, runR_ok h1, runE]
theorem runQ_ok {s : List UInt8 × Int} : ∀ {n : Nat}, (runQ s n).2.2 = 0 → runQ s n = runP s n
  | 0, _ => rfl
  | n + 1, h => by
    obtain ⟨h1, h2⟩ := stepQ_ok (p := runQ s n) h
    rw [runQ, h2, runQ_ok h1, runP]

/-- The document's loop ends at the first wrong one, or at n. -/
def Stops (e : Nat → Int) (n j : Nat) : Prop := j ≤ n ∧ (∀ i, i < j → e i = 0) ∧ (j = n ∨ e j ≠ 0)

theorem stops_ok {e : Nat → Int} {n j : Nat} (h : Stops e n j) (h0 : e j = 0) : j = n := by
  rcases h.2.2 with h1 | h1
  · exact h1
  · exact absurd h0 h1

theorem rdT_same {d : List UInt8} {j : Nat} (hs : Stops (fun i => (runR (numS d 0 2).2 i).2.2) (numS d 0 2).1 j) :
    ((doneS (runR (numS d 0 2).2 j).2.1 (runR (numS d 0 2).2 j).2.2 = 0 ∧ ofTree (runR (numS d 0 2).2 j).1 = (0, d)) ↔ ofTree (readT d) = (0, d)) ∧ (ofTree (readT d) = (0, d) → (runR (numS d 0 2).2 j).1 = readT d) := by
  have hfwd : (doneS (runR (numS d 0 2).2 j).2.1 (runR (numS d 0 2).2 j).2.2 = 0 ∧ ofTree (runR (numS d 0 2).2 j).1 = (0, d)) → (runR (numS d 0 2).2 j).1 = readT d := by
    rintro ⟨h1, h2⟩
    obtain ⟨_, he⟩ := done_ok h1
    have hj := stops_ok hs he
    have hr := runR_ok he
    obtain ⟨_, h32, _⟩ := ofTree_ok h2
    have hlen : ∀ (s : List UInt8 × Int) (j : Nat), (runE s j).1.length = j := by
      intro s j
      induction j with
      | zero => rfl
      | succ j ih => rw [runE, stepE]; simp [ih]
    rw [hr, hlen] at h32
    rw [hr]
    unfold readT
    simp only
    rw [hj] at h32 ⊢
    rw [Nat.min_eq_left h32]
  have hbwd : ofTree (readT d) = (0, d) → doneS (runR (numS d 0 2).2 j).2.1 (runR (numS d 0 2).2 j).2.2 = 0 ∧ (runR (numS d 0 2).2 j).1 = readT d := by
    intro h
    obtain ⟨hd, h32, hnm⟩ := ofTree_ok h
    have hids : ∀ e ∈ readT d, e.id.length = 32 := by
      have key : ∀ (s : List UInt8 × Int) (j : Nat), ∀ e ∈ (runE s j).1, e.id.length = 32 := by
        intro s j
        induction j with
        | zero => intro e he; simp [runE] at he
        | succ j ih =>
          intro e he
          rw [runE, stepE] at he
          simp only [List.mem_append, List.mem_singleton] at he
          rcases he with he | rfl
          · exact ih e he
          · exact raw32_len _ _
      exact key _ _
    obtain ⟨es, hes⟩ : ∃ es, es = readT d := ⟨_, rfl⟩
    rw [← hes] at hd h32 hnm hids ⊢
    have hn := numS2_lay es.length (by omega) (es.flatMap entB)
    have hd2 : d = lb es.length 2 ++ es.flatMap entB := hd
    rw [← hd2] at hn
    rw [hn] at hs ⊢
    simp only at hs ⊢
    have hok : ∀ e ∈ es, e.Ok := fun e he => ⟨hids e he, by have := hnm e he; omega⟩
    have hrun : ∀ k, k ≤ es.length → runR (es.flatMap entB, 0) k = (es.take k, (es.drop k).flatMap entB, 0) := by
      intro k
      induction k with
      | zero => intro _; simp [runR]
      | succ k ih =>
        intro hk
        have h1 := runE_lay es [] hok (k + 1) hk
        rw [List.append_nil, List.append_nil] at h1
        have h0 := runE_lay es [] hok k (by omega)
        rw [List.append_nil, List.append_nil] at h0
        have hE : stepE (es.take k, (es.drop k).flatMap entB, 0) = (es.take (k + 1), (es.drop (k + 1)).flatMap entB, 0) := by rw [← h0, ← h1]; rfl
        rw [runR, ih (by omega)]
        have hlay : stepR (es.take k, (es.drop k).flatMap entB, 0) = stepE (es.take k, (es.drop k).flatMap entB, 0) := by
          rw [List.drop_eq_getElem_cons (by omega), List.flatMap_cons]
          have hk2 := hok _ (List.getElem_mem (l := es) (n := k) (by omega))
          obtain ⟨E, hEE⟩ : ∃ E, E = es[k] := ⟨_, rfl⟩
          rw [← hEE] at hk2 ⊢
          obtain ⟨name, dir, id⟩ := E
          have q1 := numS1_lay (dirN dir) (by unfold dirN; split <;> omega) (layS name ++ (id ++ (es.drop (k + 1)).flatMap entB))
          have q2 := sizedS_lay name (id ++ (es.drop (k + 1)).flatMap entB) hk2.2
          have q3 := rawS_lay id ((es.drop (k + 1)).flatMap entB) 32 hk2.1
          have e1 : entB ⟨name, dir, id⟩ ++ (es.drop (k + 1)).flatMap entB = lb (dirN dir) 1 ++ (layS name ++ (id ++ (es.drop (k + 1)).flatMap entB)) := by simp [entB]
          unfold stepR stepE
          simp only [e1, q1, q2]
          rw [show (32 : Int) = ((32 : Nat) : Int) from rfl, q3]
          simp only [pad32_id _ hk2.1]
        rw [hlay, hE]
    have hj : j = es.length := by
      rcases hs.2.2 with h1 | h1
      · exact h1
      · have := hrun j hs.1
        have h2 : (runR (es.flatMap entB, 0) j).2.2 = 0 := by rw [this]
        exact absurd h2 h1
    rw [hj, hrun _ (Nat.le_refl _)]
    simp [doneS]
  exact ⟨⟨fun h => by rw [← hfwd h]; exact h.2, fun h => ⟨(hbwd h).1, by rw [(hbwd h).2]; exact h⟩⟩, fun h => (hbwd h).2⟩

end Go.Proofs.YtcemdlcimhoeeaaDoor

/- What the law package's Ids answers: the names, as texts. Of what lies in memory. -/
namespace Go.Proofs.YtcemdlcimhoeeaaDoor
open Go.RowKit

theorem bs_str (s : ByteArray) (V : World) : (Instr.buildSlice 46 1 #[(0, .string s)]).run Tryd.prog V = .ok (.slice (some ⟨V.heap.size, 0, none⟩) 1 1) (V.alloc (.cells #[.string s] 9)) := by kernel_rfl

set_option maxRecDepth 100000 in
set_option maxHeartbeats 2000000 in
theorem lids_any (w : World) (ao : Option Addr) (c : Nat) (ps : List (List UInt8)) (hP : Ids w ao c ps) (hm : ps.length ≤ 100000) : Calls Tryd.prog 10 #[.slice ao ps.length c] w fun e w' => ∃ v, e = .returned v ∧ Stg w' w.heap.size v ps ∧ w.grownBy w' none := by
  obtain ⟨n, hln⟩ : ∃ n, n = ps.length := ⟨_, rfl⟩
  rw [← hln]
  have HP := hide hP
  have HL := hide hln
  have hn9 : n ≤ 100000 := by omega
  clear hP hln hm
  go_enter Tryd.func10, Tryd.ntmps10
  go_wp2
  go_loopw [3, 4] (fun v i wr => ∃ j : Nat, i = .int .i64 j ∧ j ≤ n ∧ Stg wr w.heap.size v (ps.take j) ∧ w.grownBy wr none) (fun _ i _ => n - (intOf i).toNat)
  case atStart => exact ⟨0, rfl, Nat.zero_le _, Stg.nil _ _, gb_refl _ _⟩
  case round =>
    obtain ⟨j, rfl, hj, ho, hg⟩ := hrel
    by_cases hlt : j < n
    · have hlt' : j < ps.length := by have := unhide HL; omega
      obtain ⟨b, o, hao, hrow⟩ := (unhide HP).at j hlt'
      have hr := range_kept (hrow j hlt') hg (by simp)
      have hid := (unhide HP).ids _ (List.getElem_mem hlt')
      have hnew := List.take_succ_eq_append_getElem hlt'
      obtain ⟨E, hEE⟩ : ∃ E, E = ps[j] := ⟨_, rfl⟩
      rw [← hEE] at hr hid hnew
      have hcv := conv_str (range_bts hr (by rw [hid]; unfold maxLen; omega))
      rw [hid] at hcv
      have hsl := slice_wid b (o + j * 32)
      have hbs := bs_str (str E) wr
      obtain ⟨W5, hW5, hB5, g5⟩ : ∃ W, W = wr.alloc (.cells #[.string (str E)] 9) ∧ Blk W wr.heap.size 9 [.string (str E)] ∧ wr.grownBy W none := box_new wr _ _
      have hcE : W5.cell? ⟨wr.heap.size, 0, none⟩ = some (stv E) := by rw [hB5.cell 0]; rfl
      obtain ⟨TE, hTE⟩ : ∃ T, T = str E := ⟨_, rfl⟩
      rw [← hTE] at hcv hbs hW5
      have ho5 := ho.kept g5
      have G5 := tn hg g5
      have hl9 : (ps.take j).length ≤ 1000000 := by rw [List.length_take]; omega
      have HW5 := hide hW5
      have HBS := hide hbs
      have HNW := hide hnew
      have HO5 := hide ho5
      have HG5 := hide G5
      have HCE := hide hcE
      clear hrow hEE hr hid hnew hW5 hB5 g5 hTE hbs ho hg ho5 G5 hcE hlt'
      subst hao
      go_wp2_with (first
        | (refine wpList_build1 rfl 46 _ rfl (.string TE) _ rfl (unhide HBS) ?_; rw [← unhide HW5])
        | (refine wpList_append_str rfl _ _ rfl w.heap.size _ _ E _ rfl (unhide HO5) rfl (unhide HCE) hl9 (unhide HG5).size ?_; intro v6 w6 ho6 g6; have HO6 := hide ho6; have HG6 := hide (gb_trans (unhide HG5) g6 (fun x e => Or.inl ((unhide HO5).lt x e).1)); clear ho6 g6 HO5 HG5))
      go_roundw
      case rel =>
        refine ⟨j + 1, by go_num, by omega, ?_, unhide HG6⟩
        rw [unhide HNW]
        exact unhide HO6
      case measure => simp [intOf]; omega
    · have hjn : j = ps.length := by have := unhide HL; omega
      rw [hjn, List.take_of_length_le (Nat.le_refl _)] at ho
      have HO := hide ho
      clear hjn ho
      go_wp2
      go_ret
      exact ⟨_, rfl, unhide HO, hg⟩

end Go.Proofs.YtcemdlcimhoeeaaDoor
