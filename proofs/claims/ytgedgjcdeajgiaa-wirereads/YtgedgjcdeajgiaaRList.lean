/- What the reader's List answers and leaves in memory, told by a plain function of the bytes that are left and of what is wrong; of any reader in memory and of nil. -/
import Derived.Test.YtgedgjcdeajgiaaList
namespace Go.Proofs.Ytgedgjcdeajgiaa
open Go.RowKit

/-- Texts ahead of what is read of the rest: none at all where that is wrong. -/
def accS (T : List (List UInt8)) (r : List (List UInt8) × List UInt8 × Int) : List (List UInt8) × List UInt8 × Int := if r.2.2 = 0 then (T ++ r.1, r.2.1, 0) else ([], r.2.1, r.2.2)

/-- So many sized texts, what they leave, and what is wrong then. -/
def textsS : Nat → List UInt8 → List (List UInt8) × List UInt8 × Int
  | 0, l => ([], l, 0)
  | n + 1, l => if (sizedS l 0).2.2 = 0 then accS [(sizedS l 0).1] (textsS n (sizedS l 0).2.1) else ([], (sizedS l 0).2.1, (sizedS l 0).2.2)

theorem accS_accS (T : List (List UInt8)) (x : List UInt8) (r : List (List UInt8) × List UInt8 × Int) : accS T (accS [x] r) = accS (T ++ [x]) r := by
  unfold accS
  by_cases h : r.2.2 = 0
  · simp [h]
  · simp [h]

theorem accS_nil (r : List (List UInt8) × List UInt8 × Int) (h : r.2.2 ≠ 0 → r.1 = []) : accS [] r = r := by
  obtain ⟨a, b, c⟩ := r
  unfold accS
  by_cases hc : c = 0
  · simp [hc]
  · simp only at h
    simp [hc, h hc]

theorem textsS_bad (n : Nat) (l : List UInt8) : (textsS n l).2.2 ≠ 0 → (textsS n l).1 = [] := by
  cases n with
  | zero => simp [textsS]
  | succ n =>
    unfold textsS accS
    split
    · split <;> simp
    · simp

/-- A slice of texts in the call's own memory, each text in memory of the call's own. -/
def Txs (w : World) (base : Nat) (v : Value) (T : List (List UInt8)) : Prop :=
  ∃ vs : List Value, w.ownsRow base 22 1 v T.length vs ∧ ∀ i (h : i < T.length), ∃ ao c, vs[i]? = some (.slice ao (T[i]).length c) ∧ Bts w ao c T[i] ∧ ∀ ad, ao = some ad → base ≤ ad.block ∧ Typ w ad.block

theorem Txs.nil (w : World) (base : Nat) : Txs w base (.slice none 0 0) [] := ⟨[], World.ownsRow_nil w base _ 1, fun i h => by simp at h⟩

theorem Txs.kept {w a : World} {base : Nat} {v : Value} {T : List (List UInt8)} {r : Option Nat} (h : Txs w base v T) (g : w.grownBy a r) (hr : ∀ x, r = some x → x < base) : Txs a base v T := by
  obtain ⟨vs, h1, h2⟩ := h
  refine ⟨vs, h1.kept g ?_, fun i hi => ?_⟩
  · cases hv : v.ownBlock with
    | none => exact Or.inl rfl
    | some k =>
      right
      intro e
      have := hr k e.symm
      have := (h1.lt k hv).1
      omega
  · obtain ⟨ao, c, q1, q2, q3⟩ := h2 i hi
    refine ⟨ao, c, q1, q2.kept g ?_, fun ad e => ⟨(q3 ad e).1, (q3 ad e).2.kept g ?_⟩⟩
    · intro x e ad e2
      have := hr x e
      have := (q3 ad e2).1
      omega
    · intro e2
      have := hr _ e2.symm
      have := (q3 ad e).1
      omega

theorem typ_ne {w : World} {base n b : Nat} {v : Value} {xs : List Value} (h : w.ownsRow base 22 1 v n xs) (t : Typ w b) : some b ≠ v.ownBlock := by
  intro e
  rcases h.2 with ⟨rfl, _⟩ | ⟨g, cap, cur, rfl, _, hh, _⟩
  · simp [Value.ownBlock] at e
  · simp [Value.ownBlock] at e
    subst e
    obtain ⟨cur2, m, h2⟩ := t
    rw [hh] at h2
    cases h2

theorem info_slice : (Try.prog.info? 22).map (fun i => (i.zero, i.size, i.bytes)) = some (some (.slice none 0 0), 1, 24) := by kernel_rfl

/-- One text more. -/
theorem Txs.snoc {w1 w2 : World} {base : Nat} {v v' u : Value} {T : List (List UInt8)} {x : List UInt8} {vs : List Value} (h1 : w1.ownsRow base 22 1 v T.length vs)
    (h2 : ∀ i (h : i < T.length), ∃ ao c, vs[i]? = some (.slice ao (T[i]).length c) ∧ Bts w1 ao c T[i] ∧ ∀ ad, ao = some ad → base ≤ ad.block ∧ Typ w1 ad.block)
    (hu : ∃ ao c, u = .slice ao x.length c ∧ Bts w1 ao c x ∧ ∀ ad, ao = some ad → base ≤ ad.block ∧ Typ w1 ad.block)
    (h3 : w2.ownsRow base 22 1 v' (T.length + 1) (vs ++ [u])) (g : w1.grownBy w2 v.ownBlock) : Txs w2 base v' (T ++ [x]) := by
  have hlen : vs.length = T.length := by simpa using h1.1
  have key : ∀ (ao : Option Addr) (c : Nat) (y : List UInt8), Bts w1 ao c y → (∀ ad, ao = some ad → base ≤ ad.block ∧ Typ w1 ad.block) → Bts w2 ao c y ∧ ∀ ad, ao = some ad → base ≤ ad.block ∧ Typ w2 ad.block := by
    intro ao c y q1 q2
    refine ⟨q1.kept g ?_, fun ad e => ⟨(q2 ad e).1, (q2 ad e).2.kept g (typ_ne h1 (q2 ad e).2)⟩⟩
    intro b e ad e2 e3
    exact typ_ne h1 (q2 ad e2).2 (by rw [e3, e])
  refine ⟨vs ++ [u], by simpa using h3, fun i hi => ?_⟩
  by_cases hi2 : i < T.length
  · obtain ⟨ao, c, q1, q2, q3⟩ := h2 i hi2
    obtain ⟨k1, k2⟩ := key ao c _ q2 q3
    refine ⟨ao, c, ?_, ?_, k2⟩
    · rw [List.getElem?_append_left (by omega), q1]
      simp [List.getElem_append_left hi2]
    · simpa [List.getElem_append_left hi2] using k1
  · have hi3 : i = T.length := by simp at hi; omega
    subst hi3
    obtain ⟨ao, c, q1, q2, q3⟩ := hu
    obtain ⟨k1, k2⟩ := key ao c _ q2 q3
    refine ⟨ao, c, ?_, ?_, k2⟩
    · rw [List.getElem?_append_right (by omega)]
      simp [hlen, q1]
    · simpa using k1

theorem sizedS_len (l : List UInt8) (k : Int) : (sizedS l k).2.1.length ≤ l.length := by
  unfold sizedS
  repeat' split
  all_goals simp

theorem numS_len (l : List UInt8) (k n : Int) : (numS l k n).2.1.length ≤ l.length := by
  unfold numS
  repeat' split
  all_goals simp

set_option maxRecDepth 100000 in
set_option maxHeartbeats 1000000 in
theorem rlist_loop (w : World) (rb : Nat) (l : List UInt8) (k : Int) (most : Int) (n : Nat) (l1 : List UInt8) (hn : numS l k 2 = (n, l1, 0)) (hn2 : n < 65536) (hm : (n : Int) ≤ most) (hl : l1.length ≤ 70368744177664) (h : Rd w rb l k) :
    Calls Try.prog 25 #[.pointer (some ⟨rb, 0, none⟩), .int .i64 most] w fun e w' => ∃ v, e = .returned v ∧ Txs w' w.heap.size v (textsS n l1).1 ∧ Rd w' rb (textsS n l1).2.1 (textsS n l1).2.2 ∧ w.grownBy w' (some rb) := by
  obtain ⟨i0, hi, hz0, hz1, hz2⟩ := info_parts info_slice
  have hrb := h.lt
  have h1 := num_at w rb l k 2 h
  rw [hn] at h1
  clear hn
  simp only at h1
  go_enter Try.func25, Try.ntmps25
  go_wp2_with fail
  refine h1.mono ?_
  rintro e w1 ⟨rfl, r1, g1⟩
  clear h1 h
  go_wp2
  go_loopw [6, 16] (fun v i wr => ∃ (j : Nat) (T : List (List UInt8)) (l' : List UInt8), j ≤ n ∧ i = .int .i64 j ∧ Hid (T.length = j) ∧ Hid (textsS n l1 = accS T (textsS (n - j) l')) ∧ Txs wr w.heap.size v T ∧ Rd wr rb l' 0 ∧ w.grownBy wr (some rb) ∧ l'.length ≤ l1.length) (fun _ i _ => n - (intOf i).toNat)
  case atStart => exact ⟨0, [], l1, Nat.zero_le _, rfl, rfl, (accS_nil _ (textsS_bad n l1)).symm, Txs.nil _ _, r1, g1, Nat.le_refl _⟩
  case round =>
    obtain ⟨j, T, l', hj, rfl, hT, HT, htx, hrd, hg, hl'⟩ := hrel
    by_cases hlt : j < n
    · go_wp2_with fail
      refine (sized_at _ _ _ _ (Nat.le_trans hl' hl) hrd).mono ?_
      rintro e w2 ⟨u, rfl, ⟨ao, c, rfl, hb2, ht2⟩, r2, g2⟩
      have htx2 := htx.kept g2 (fun x e => by cases e; exact hrb)
      have hsz2 := Nat.le_trans hg.size g2.size
      obtain ⟨vs, o2, q2⟩ := htx2
      go_wp2_with (at_builtin; refine wpList_append_own _ rfl _ _ 23 rfl w.heap.size 22 i0 (.slice none 0 0) 1 24 Try.underlying23 hi hz0 hz1 hz2 rfl (by decide) _ _ _ rfl (o2.alloc _) ⟨w2.heap.size, 0, none⟩ 1 1 [.slice ao (sizedS l' 0).1.length c] rfl rfl ?c1 ?c2 ?c3 ?c4 ?c5 ?_)
      case c1 =>
        intro t x ht
        match t, ht with
        | 0, ht => simp at ht; subst ht; simp [Addr.add]
      case c2 => intro x hx; simp at hx; subst hx; rfl
      case c3 => have := hT.out; unfold maxLen; omega
      case c4 => have := hT.out; omega
      case c5 => simp; omega
      intro v' w3 hown3 hg3 _
      have hnt : ∀ x, u6.ownBlock = some x → x ≠ rb ∧ ¬ Typ w2 x := fun x e => ⟨by have := (o2.lt x e).1; omega, fun t => typ_ne o2 t e.symm⟩
      have r3 : Rd w3 rb (sizedS l' 0).2.1 (sizedS l' 0).2.2 := by
        refine (r2.kept (World.grownBy_alloc w2 (.cells #[.slice ao (sizedS l' 0).1.length c] 22) none) (Or.inl rfl)).keptTyp hg3 fun x e => ⟨(hnt x e).1, fun t => ?_⟩
        exact typ_ne (o2.alloc _) t e.symm
      have tx3 : Txs w3 w.heap.size v' (T ++ [(sizedS l' 0).1]) := by
        have ga := World.grownBy_alloc w2 (.cells #[.slice ao (sizedS l' 0).1.length c] 22) none
        refine Txs.snoc (o2.alloc _) (fun i hi => ?_) ⟨ao, c, rfl, hb2.kept ga (fun _ e => by cases e), fun ad e => ⟨Nat.le_trans hg.size (ht2 ad e).1, (ht2 ad e).2.kept ga (by simp)⟩⟩ hown3 hg3
        obtain ⟨ao', c', k1, k2, k3⟩ := q2 i hi
        exact ⟨ao', c', k1, k2.kept ga (fun _ e => by cases e), fun ad e => ⟨(k3 ad e).1, (k3 ad e).2.kept ga (by simp)⟩⟩
      have g3 : w.grownBy w3 (some rb) := by
        refine gb_trans (gb_alloc (gb_trans hg g2 (fun x e => Or.inr e)) _) hg3 (fun x e => Or.inl (o2.lt x e).1)
      have hts : textsS (n - j) l' = if (sizedS l' 0).2.2 = 0 then accS [(sizedS l' 0).1] (textsS (n - (j + 1)) (sizedS l' 0).2.1) else ([], (sizedS l' 0).2.1, (sizedS l' 0).2.2) := by
        rw [show n - j = (n - (j + 1)) + 1 from by omega, textsS]
      have hsl := sizedS_len l' 0
      have HTS := hide hts
      clear hts hown3 hg3 hnt r2 hb2 ht2 g2 htx hrd hg o2 q2
      generalize sizedS l' 0 = sz at *
      obtain ⟨x, l2, e2⟩ := sz
      simp only at *
      by_cases he2 : e2 = 0
      · subst he2
        have r3' := r3
        obtain ⟨ao3, c3, ra, rb3, rc⟩ := r3'
        go_wp2_with fail
        refine (came_yes _ _ ra.c1).mono ?_
        rintro e w' ⟨rfl, rfl⟩
        clear ra rb3 rc
        go_wp2
        go_roundw
        case rel => exact ⟨j + 1, T ++ [x], l2, by omega, by go_num, by have := hT.out; simp [this, Hid], by have := unhide HTS; simp only [if_true] at this; exact hide (by rw [HT.out, this, accS_accS]), tx3, r3, g3, Nat.le_trans hsl hl'⟩
        case measure => simp [intOf]; omega
      · have he2' : (e2 == 0) = false := by simpa using he2
        have r3' := r3
        obtain ⟨ao3, c3, ra, rb3, rc⟩ := r3'
        have hfin : textsS n l1 = ([], l2, e2) := by
          have := unhide HTS
          rw [if_neg he2] at this
          rw [HT.out, this]
          simp [accS, he2]
        have HF := hide hfin
        clear hfin HTS HT he2
        go_wp2_with fail
        refine (came_no _ _ _ he2' ra.c1).mono ?_
        rintro e w' ⟨rfl, rfl⟩
        clear ra rb3 rc
        go_wp2
        go_ret
        rw [unhide HF]
        exact ⟨_, rfl, Txs.nil _ _, r3, g3⟩
    · have hjn : j = n := by omega
      have hfin : textsS n l1 = (T, l', 0) := by
        rw [HT.out, hjn, Nat.sub_self]
        simp [textsS, accS]
      have HF := hide hfin
      clear hfin HT hjn
      go_wp2
      go_ret
      rw [unhide HF]
      exact ⟨_, rfl, htx, hrd, hg⟩

/-- What List tells, what it leaves, and what is wrong then. -/
def listS (l : List UInt8) (e most : Int) : List (List UInt8) × List UInt8 × Int :=
  if most < ((numS l e 2).1 : Int) then (if (numS l e 2).2.2 = 0 then ([], [], 3) else ([], (numS l e 2).2.1, (numS l e 2).2.2))
  else if (numS l e 2).2.2 = 0 then textsS (numS l e 2).1 (numS l e 2).2.1 else ([], (numS l e 2).2.1, (numS l e 2).2.2)

set_option maxRecDepth 100000 in
set_option maxHeartbeats 400000 in
theorem rlist_big (w : World) (rb : Nat) (l : List UInt8) (k : Int) (most : Int) (n : Nat) (l1 : List UInt8) (k1 : Int) (hn : numS l k 2 = (n, l1, k1)) (hn2 : n < 65536) (hm : most < (n : Int)) (h : Rd w rb l k) :
    Calls Try.prog 25 #[.pointer (some ⟨rb, 0, none⟩), .int .i64 most] w fun e w' => e = .returned (.slice none 0 0) ∧ (k1 = 0 → Rd w' rb [] 3) ∧ (k1 ≠ 0 → Rd w' rb l1 k1) ∧ w.grownBy w' (some rb) := by
  have h1 := num_at w rb l k 2 h
  rw [hn] at h1
  clear hn
  simp only at h1
  by_cases hk : k1 = 0
  · subst hk
    go_enter Try.func25, Try.ntmps25
    go_wp2_with fail
    refine h1.mono ?_
    rintro e w1 ⟨rfl, ⟨ao, c, r1, r2, r3⟩, g1⟩
    clear h1 h
    go_wp2_with fail
    refine (fail_yes _ _ _ _ r1.c1 r1.c0 (r1.fz _) (r1.fz _)).mono ?_
    rintro e w2 ⟨rfl, rfl⟩
    have p1 := Rd.failed r1 3
    have p2 := gb_trans g1 (gb_failed w1 rb 3) (fun x e => Or.inr e)
    clear r1 r2 r3 g1
    go_wp2
    go_ret
    exact ⟨rfl, fun _ => p1, fun h => absurd rfl h, p2⟩
  · have hk' : (k1 == 0) = false := by simpa using hk
    have HK := hide hk
    clear hk
    go_enter Try.func25, Try.ntmps25
    go_wp2_with fail
    refine h1.mono ?_
    rintro e w1 ⟨rfl, r0, g1⟩
    have r0' := r0
    obtain ⟨ao, c, r1, r2, r3⟩ := r0'
    clear h1 h
    go_wp2_with fail
    refine (fail_no _ _ _ _ hk' r1.c1).mono ?_
    rintro e w2 ⟨rfl, rfl⟩
    clear r1 r2 r3
    go_wp2
    go_ret
    exact ⟨rfl, fun h => absurd h (unhide HK), fun _ => r0, g1⟩

set_option maxRecDepth 100000 in
set_option maxHeartbeats 400000 in
theorem rlist_zero (w : World) (rb : Nat) (l : List UInt8) (k : Int) (most : Int) (l1 : List UInt8) (k1 : Int) (hn : numS l k 2 = (0, l1, k1)) (hm : 0 ≤ most) (h : Rd w rb l k) :
    Calls Try.prog 25 #[.pointer (some ⟨rb, 0, none⟩), .int .i64 most] w fun e w' => e = .returned (.slice none 0 0) ∧ Rd w' rb l1 k1 ∧ w.grownBy w' (some rb) := by
  have h1 := num_at w rb l k 2 h
  rw [hn] at h1
  clear hn
  simp only at h1
  go_enter Try.func25, Try.ntmps25
  go_wp2_with fail
  refine h1.mono ?_
  rintro e w1 ⟨rfl, r0, g1⟩
  clear h1 h
  go_wp2
  refine wp_loop_rounds 1 ?_
  rw [rounds_succ]
  go_wp2
  go_ret
  exact ⟨rfl, r0, g1⟩

theorem rlist_nil (w : World) (most : Int) : Calls Try.prog 25 #[.pointer none, .int .i64 most] w fun e w' => e = .returned (.slice none 0 0) ∧ w.grownBy w' none := by
  by_cases hm : 0 ≤ most
  · go_enter Try.func25, Try.ntmps25
    go_wp2_with fail
    refine (num_nil _ _).mono ?_
    rintro e w1 ⟨rfl, g1⟩
    go_wp2
    refine wp_loop_rounds 1 ?_
    rw [rounds_succ]
    go_wp2
    go_ret
    exact ⟨rfl, g1⟩
  · go_enter Try.func25, Try.ntmps25
    go_wp2_with fail
    refine (num_nil _ _).mono ?_
    rintro e w1 ⟨rfl, g1⟩
    go_wp2_with fail
    refine (fail_nil _ _).mono ?_
    rintro e w2 ⟨rfl, rfl⟩
    go_wp2
    go_ret
    exact ⟨rfl, g1⟩

theorem numS_lt2 (l : List UInt8) (k : Int) : (numS l k 2).1 < 65536 := by
  have hnb : nb 2 = 2 := by decide
  unfold numS
  rw [hnb]
  repeat' split
  · simp
  · have h1 := be_lt (l.take 2)
    have h2 : 256 ^ (l.take 2).length ≤ 256 ^ 2 := Nat.pow_le_pow_right (by omega) (by simp; omega)
    simp only
    omega
  · simp

theorem numS_bad (l : List UInt8) (k n : Int) (h : (numS l k n).2.2 ≠ 0) : (numS l k n).1 = 0 := by
  unfold numS at *
  split at h
  · split at h
    · simp [*]
    · simp at h
  · simp [*]

theorem rlist_at (w : World) (rb : Nat) (l : List UInt8) (k : Int) (most : Int) (hl : l.length ≤ 70368744177664) (h : Rd w rb l k) :
    Calls Try.prog 25 #[.pointer (some ⟨rb, 0, none⟩), .int .i64 most] w fun e w' => ∃ v, e = .returned v ∧ Txs w' w.heap.size v (listS l k most).1 ∧ Rd w' rb (listS l k most).2.1 (listS l k most).2.2 ∧ w.grownBy w' (some rb) := by
  have hlt := numS_lt2 l k
  have hbad := numS_bad l k 2
  have hlen := numS_len l k 2
  unfold listS
  cases hn : numS l k 2 with
  | mk n r =>
  obtain ⟨l1, k1⟩ := r
  rw [hn] at hlt hbad hlen
  simp only at *
  by_cases hm : most < (n : Int)
  · rw [if_pos hm]
    refine (rlist_big w rb l k most n l1 k1 hn hlt hm h).mono ?_
    rintro e w' ⟨rfl, h1, h3, h2⟩
    by_cases hk : k1 = 0
    · rw [if_pos hk]
      exact ⟨_, rfl, Txs.nil _ _, h1 hk, h2⟩
    · rw [if_neg hk]
      exact ⟨_, rfl, Txs.nil _ _, h3 hk, h2⟩
  · rw [if_neg hm]
    by_cases hk : k1 = 0
    · subst hk
      rw [if_pos rfl]
      exact rlist_loop w rb l k most n l1 hn hlt (by omega) (by omega) h
    · rw [if_neg hk]
      have hn0 := hbad hk
      subst hn0
      refine (rlist_zero w rb l k most l1 k1 hn (by omega) h).mono ?_
      rintro e w' ⟨rfl, h1, h2⟩
      exact ⟨_, rfl, Txs.nil _ _, h1, h2⟩

end Go.Proofs.Ytgedgjcdeajgiaa
