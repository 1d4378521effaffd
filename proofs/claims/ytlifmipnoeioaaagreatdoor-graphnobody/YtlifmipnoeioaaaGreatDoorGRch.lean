/- What graph's Ids, Reach and Follows answer. Of any set, of nil and of a plain one. -/
import Derived.Test.YtlifmipnoeioaaaGreatDoorGReach
import Derived.Test.YtlifmipnoeioaaaGreatDoorGGet
import Derived.Test.YtlifmipnoeioaaaGreatDoorGRiseM
import Derived.Deep.AppendLies
namespace Go.Proofs.YtlifmipnoeioaaaGreatDoor
open Go.RowKit

set_option maxRecDepth 100000 in
theorem gids_any (w : World) (po : Option Addr) (S : List ObE) (h : Sat w po S) :
    Calls Tryz.prog 19 #[.pointer po] w fun e w' => ∃ v, e = .returned v ∧ w'.ownsRow w.heap.size 33 32 v (idsS S).length ((idsS S).flatMap (·.map bv)) ∧ w.grownBy w' none := by
  rcases h with ⟨u, sb, mb, rfl, hS⟩ | ⟨rfl, hN⟩
  · have c1 := made_any w sb mb hS.cell
    have hc := hS.cell
    obtain ⟨R, m1, m2, m3⟩ := hS.map
    have hlen : (R.map fun r => (r.e.id, obV r)).length ≤ 90000 := by
      have h1 : ((R.map fun r => (r.e.id, obV r)).map (·.1)).length ≤ (idsS S).length := nodup_le m1.once fun x hx => by
        rw [List.map_map] at hx
        obtain ⟨r, hr, rfl⟩ := List.mem_map.1 hx
        exact List.mem_map.2 ⟨r.e, (m2 r.e).1 (List.mem_map.2 ⟨r, hr, rfl⟩), rfl⟩
      have h2 := hS.ok.few
      simp only [idsS, List.length_map] at h1 ⊢
      omega
    have cr := risingO_any w mb _ m1 hlen
    have hiff : ∀ x, x ∈ (R.map fun r => (r.e.id, obV r)).map (·.1) ↔ x ∈ idsS S := fun x => by
      rw [List.map_map]
      constructor
      · intro hx
        obtain ⟨r, hr, rfl⟩ := List.mem_map.1 hx
        exact List.mem_map.2 ⟨r.e, (m2 r.e).1 (List.mem_map.2 ⟨r, hr, rfl⟩), rfl⟩
      · intro hx
        obtain ⟨e, he, rfl⟩ := List.mem_map.1 hx
        obtain ⟨r, hr, rfl⟩ := List.mem_map.1 ((m2 e).2 he)
        exact List.mem_map.2 ⟨r, hr, rfl⟩
    have HI := hide hiff
    have HR := hide hS.ok.ris
    clear hS m1 m2 m3 hlen hiff
    go_enter Tryz.func19, Tryz.ntmps19
    go_wp2_with (first
      | (go_at_call 36; refine c1.mono ?_; rintro e w2 ⟨rfl, e2⟩; subst w2; clear c1)
      | (go_at_call 42; refine cr.mono ?_; rintro e w2 ⟨v, L, rfl, q1, q2, q3, q4⟩; have HQ := hide (And.intro q1 (And.intro q2 (And.intro q3 q4))); clear q1 q2 q3 q4 cr))
    go_ret
    obtain ⟨q1, q2, q3, q4⟩ := unhide HQ
    have e : L = idsS S := Ris.ext q1 (unhide HR) fun x => (q2 x).trans (unhide HI x)
    rw [e] at q3
    exact ⟨v, rfl, q3, q4⟩
  · have c1 := hN w (gb_refl _ _)
    clear hN
    go_enter Tryz.func19, Tryz.ntmps19
    go_wp2_with (go_at_call 36; refine c1.mono ?_; rintro e w2 ⟨rfl, e2⟩; subst w2; clear c1)
    go_ret
    exact ⟨_, rfl, World.ownsRow_nil _ _ _ _, gb_refl _ _⟩

theorem tel_pars (k : Int) (d : List UInt8) : (telC k d).2.pars.length ≤ 4 ∧ ∀ x ∈ (telC k d).2.pars, x.length = 32 := by
  unfold telC
  split
  · split
    · exact ⟨(readC_ok d).2.2.1, (readC_ok d).2.1⟩
    · exact ⟨Nat.zero_le _, fun x hx => by simp [zeroCh] at hx⟩
  · exact ⟨Nat.zero_le _, fun x hx => by simp [zeroCh] at hx⟩

theorem flat_le {α : Type} (f : α → List (List UInt8)) (n : Nat) (l : List α) (h : ∀ x ∈ l, (f x).length ≤ n) : (l.flatMap f).length ≤ l.length * n := by
  induction l with
  | nil => simp
  | cons x l ih =>
    rw [List.flatMap_cons, List.length_append, List.length_cons, Nat.succ_mul]
    have h1 := h x (by simp)
    have h2 := ih fun y hy => h y (by simp [hy])
    omega
/-- All names that may be met. -/
def allOf (f : ObE → List (List UInt8)) (S : List ObE) (R : List (List UInt8)) : List (List UInt8) := R ++ S.flatMap f
theorem nx_all (S : List ObE) (R : List (List UInt8)) : ∀ x, ∀ y ∈ nxS S x, y ∈ allOf (fun e => linksL e.k e.d) S R := by
  intro x y hy
  unfold nxS at hy
  cases h : lkS S x with
  | none => rw [h] at hy; simp [nxO] at hy
  | some e =>
    rw [h] at hy
    exact List.mem_append_right _ (List.mem_flatMap.2 ⟨e, (lkS_mem h).1, hy⟩)
theorem pr_all (S : List ObE) (R : List (List UInt8)) : ∀ x, ∀ y ∈ prS S x, y ∈ allOf (fun e => (telC e.k e.d).2.pars) S R := by
  intro x y hy
  unfold prS at hy
  cases h : lkS S x with
  | none => rw [h] at hy; simp [prO] at hy
  | some e =>
    rw [h] at hy
    exact List.mem_append_right _ (List.mem_flatMap.2 ⟨e, (lkS_mem h).1, hy⟩)
theorem all_few (f : ObE → List (List UInt8)) (hf : ∀ e, (f e).length ≤ 33) (S : List ObE) (hS : SetS S) (R : List (List UInt8)) (hR : R.length ≤ 50000) : (allOf f S R).length ≤ 90000 := by
  have h1 := flat_le f 33 S (fun e _ => hf e)
  have h2 := hS.few
  unfold allOf
  rw [List.length_append]
  omega

theorem nxS_wide (S : List ObE) (x : List UInt8) : (nxS S x).length ≤ 33 ∧ ∀ y ∈ nxS S x, y.length = 32 := by
  unfold nxS nxO
  cases lkS S x with
  | none => exact ⟨Nat.zero_le _, fun y hy => by simp at hy⟩
  | some e => exact ⟨links_len _ _, (links_occ e.k e.d).2⟩
theorem prS_wide (S : List ObE) (x : List UInt8) : (prS S x).length ≤ 4 ∧ ∀ y ∈ prS S x, y.length = 32 := by
  unfold prS prO
  cases lkS S x with
  | none => exact ⟨Nat.zero_le _, fun y hy => by simp at hy⟩
  | some e => exact tel_pars _ _

theorem links_nexts (w : World) (po : Option Addr) (S : List ObE) (h : Sat w po S) : Nexts w 46 (.pointer po) (nxS S) where
  call hV hx := links_any _ po S (h.none hV) _ hx
  enter := fun args w => by exact enters_of Tryz.func46 (by kernel_rfl) rfl args w
  wide x := (nxS_wide S x).2
  few x := Nat.le_trans (nxS_wide S x).1 (by decide)
theorem parents_nexts (w : World) (po : Option Addr) (S : List ObE) (h : Sat w po S) : Nexts w 51 (.pointer po) (prS S) where
  call hV hx := parents_any _ po S (h.none hV) _ hx
  enter := fun args w => by exact enters_of Tryz.func51 (by kernel_rfl) rfl args w
  wide x := (prS_wide S x).2
  few x := Nat.le_trans (prS_wide S x).1 (by decide)

/-- What is reached by links. -/
theorem reachL_any (w : World) (po : Option Addr) (S : List ObE) (h : Sat w po S) (ao : Option Addr) (c : Nat) (R : List (List UInt8)) (hR : Ids w ao c R) (hRa : ∀ ad, ao = some ad → ad.block < w.heap.size) (hRl : R.length ≤ 50000) :
    Calls Tryz.prog 45 #[.slice ao R.length c, .func (.func 46) #[.pointer po] #[]] w fun e w' => ∃ m K, e = .returned (.map (some m)) ∧ MapAt w' m (metK K) ∧ w.heap.size ≤ m ∧ (∀ x, x ∈ K ↔ Rch (nxS S) R x) ∧ K.length ≤ 90000 ∧ w.grownBy w' none := by
  have hU := all_few (fun e => linksL e.k e.d) (fun e => links_len _ _) S h.ok R hRl
  refine (reached_any w _ _ (nxS S) (links_nexts w po S h) ao c R (allOf (fun e => linksL e.k e.d) S R) hR hRa (fun x hx => List.mem_append_left _ hx) (nx_all S R) (by omega) (by omega)).mono ?_
  rintro e w' ⟨m, K, h1, h2, h3, h4, h5⟩
  refine ⟨m, K, h1, h2, h3, h4, ?_, h5⟩
  have hn := h2.once
  rw [metK_keys] at hn
  refine Nat.le_trans (nodup_le hn fun x hx => ?_) hU
  exact Rch.in (p := fun y => y ∈ allOf (fun e => linksL e.k e.d) S R) (fun x hx => List.mem_append_left _ hx) (fun y _ z hz => nx_all S R y z hz) ((h4 x).1 hx)
theorem reachP_any (w : World) (po : Option Addr) (S : List ObE) (h : Sat w po S) (ao : Option Addr) (c : Nat) (R : List (List UInt8)) (hR : Ids w ao c R) (hRa : ∀ ad, ao = some ad → ad.block < w.heap.size) (hRl : R.length ≤ 50000) :
    Calls Tryz.prog 45 #[.slice ao R.length c, .func (.func 51) #[.pointer po] #[]] w fun e w' => ∃ m K, e = .returned (.map (some m)) ∧ MapAt w' m (metK K) ∧ w.heap.size ≤ m ∧ (∀ x, x ∈ K ↔ Rch (prS S) R x) ∧ w.grownBy w' none := by
  have hU := all_few (fun e => (telC e.k e.d).2.pars) (fun e => Nat.le_trans (tel_pars _ _).1 (by decide)) S h.ok R hRl
  exact reached_any w _ _ (prS S) (parents_nexts w po S h) ao c R (allOf (fun e => (telC e.k e.d).2.pars) S R) hR hRa (fun x hx => List.mem_append_left _ hx) (pr_all S R) (by omega) (by omega)

set_option maxRecDepth 100000 in
set_option maxHeartbeats 2000000 in
theorem follows_any (w : World) (po : Option Addr) (S : List ObE) (h : Sat w po S) (a b : List UInt8) (ha : a.length = 32) (hb : b.length = 32) :
    Calls Tryz.prog 26 #[.pointer po, keyV a, keyV b] w fun e w' => ∃ y, e = .returned (.bool y) ∧ (y = true ↔ Rch (prS S) [a] b) ∧ w.grownBy w' none := by
  obtain ⟨AB, hAB⟩ : ∃ l, l = a.map bv := ⟨_, rfl⟩
  obtain ⟨BB, hBB⟩ : ∃ l, l = b.map bv := ⟨_, rfl⟩
  have hAl : AB.length = 32 := by rw [hAB]; simp [ha]
  have hBl : BB.length = 32 := by rw [hBB]; simp [hb]
  obtain ⟨W1, hW1, hB1, g1⟩ := box_new w 33 AB
  obtain ⟨W2, hW2, hB2, g2⟩ := box_new W1 33 BB
  have hs1 : W1.heap.size = w.heap.size + 1 := by rw [hW1]; simp
  rw [hs1] at hB2
  have hrA := blk_all (hB1.kept g2 (by simp))
  have hrB := blk_all hB2
  have hiA : (Tryz.prog.info? 33).map (·.size) = some AB.length := by rw [hAl]; exact info_id
  have hiB : (Tryz.prog.info? 33).map (·.size) = some BB.length := by rw [hBl]; exact info_id
  have hW : W2 = (w.alloc (.cells AB.toArray 33)).alloc (.cells BB.toArray 33) := by rw [hW2, hW1]
  have hka : keyV a = .agg AB.toArray := by rw [hAB]; rfl
  have hkb : keyV b = .agg BB.toArray := by rw [hBB]; rfl
  have hbs : ∀ V : World, (Instr.buildSlice 29 1 #[(0, .agg AB.toArray)]).run Tryz.prog V = .ok (.slice (some ⟨V.heap.size, 0, none⟩) 1 1) (V.alloc (.cells AB.toArray 33)) := fun V => by rw [hAB]; exact bs_id a ha V
  have G2 := tn g1 g2
  have HCR : Hid (∀ V p, Blk V p 33 AB → W2.grownBy V none → Calls Tryz.prog 45 #[.slice (some ⟨p, 0, none⟩) 1 1, .func (.func 51) #[.pointer po] #[]] V fun e w' => ∃ m K, e = .returned (.map (some m)) ∧ MapAt w' m (metK K) ∧ V.heap.size ≤ m ∧ (∀ x, x ∈ K ↔ Rch (prS S) [a] x) ∧ V.grownBy w' none) := fun V p hB hV => by
    refine reachP_any V po S (h.none (tn G2 hV)) (some ⟨p, 0, none⟩) 1 [a] ⟨(fun e => by cases e), Nat.le_refl _, by unfold maxLen; decide, (fun ad e _ => by cases e; rfl), fun ad e i hi => ?_, fun x hx => by simpa using (by rw [List.mem_singleton.1 hx]; exact ha)⟩ (fun ad e => by cases e; exact hB.lt) (by simp)
    cases e
    have : i = 0 := by simpa using hi
    subst this
    rw [hAB] at hB
    exact blk_all hB
  have h0 : W2.grownBy W2.drew none := gb_drew (gb_refl _ _)
  rw [hka, hkb]
  have HW := hide hW
  have HIA := hide hiA
  have HIB := hide hiB
  have HBS := hide hbs
  have HKB := hide hkb
  have HB32 := hide hb
  clear hW hW1 hW2 hB1 hB2 g1 g2 hs1 hAB hBB ha hb hAl hBl hiA hiB hbs hka hkb h
  go_enter Tryz.func26, Tryz.ntmps26
  go_upto_region 1 with (rw [← unhide HW])
  refine wp_region_noPanic ?_
  refine wp_region_held_drew (S := fun V => W2.grownBy V none) (by kernel_rfl) h0 (fun _ => ?_)
  refine wpAnyH_take (i := 0) (oi := ⟨some 7, .load 33 (.tmp 4), _, _, _, _⟩) (v := .agg AB.toArray) rfl (by kernel_rfl) (by kernel_rfl) (by kernel_rfl) (fun _ _ _ h => h) (yieldsIf_load_mid (by rfl) _ _ rfl _ _ rfl AB _ (fun V hV => range_kept hrA hV (by simp)) Tryz.underlying33 rfl (unhide HIA)) h0 ?_
  (try simp only [Act.put, pq1, pq2, pq3])
  refine wpAnyH_take (i := 2) (oi := ⟨some 9, .move (.tmp 0), _, _, _, _⟩) (v := .pointer po) rfl (by kernel_rfl) (by kernel_rfl) (by kernel_rfl) (fun _ _ _ h => h) (Or.inl ⟨by rfl, fun V (hV : W2.grownBy V none) => by go_simp⟩) h0 ?_
  (try simp only [Act.put, pq1, pq2, pq3])
  refine wpAnyH_take (i := 3) (oi := ⟨some 10, .makeFunc (Fn.func 51) #[(.tmp 9)] #[], _, _, _, _⟩) (v := .func (.func 51) #[.pointer po] #[]) rfl (by kernel_rfl) (by kernel_rfl) (by kernel_rfl) (fun _ _ _ h => h) (Or.inl ⟨by rfl, fun V (hV : W2.grownBy V none) => by go_simp⟩) h0 ?_
  (try simp only [Act.put, pq1, pq2, pq3])
  refine wpAnyH_take (i := 5) (oi := ⟨some 12, .load 33 (.tmp 5), _, _, _, _⟩) (v := .agg BB.toArray) rfl (by kernel_rfl) (by kernel_rfl) (by kernel_rfl) (fun _ _ _ h => h) (yieldsIf_load_mid (by rfl) _ _ rfl _ _ rfl BB _ (fun V hV => range_kept hrB hV (by simp)) Tryz.underlying33 rfl (unhide HIB)) h0 ?_
  (try simp only [Act.put, pq1, pq2, pq3])
  refine wpAnyH_ready (rs := [1]) (by kernel_rfl) (by simp) ?_
  refine AllReadyH.cons (o := ⟨some 8, .buildSlice 29 1 #[(0, (.tmp 7))], _, _, _, _⟩) rfl (fun K9 hK9 => ?_) AllReadyH.nil
  obtain ⟨w3, hw3, hE3, g3a⟩ := box_new W2.drew 33 AB
  refine step_build1 (by rfl) 29 _ rfl (.agg AB.toArray) _ rfl (unhide HBS W2.drew) ?_
  rw [← hw3]
  have g3 := tn h0 g3a
  refine hK9.out _ _ g3 (fun _ => ?_)
  clear hK9 K9 hw3
  (try simp only [Act.put, pq1, pq2, pq3])
  have cr := unhide HCR w3 W2.drew.heap.size hE3 g3
  refine wpAnyH_ready (rs := [4]) (by kernel_rfl) (by simp) ?_
  refine AllReadyH.cons (o := ⟨some 11, .call { callee := .value (.func 45), args := #[(.tmp 8), (.tmp 10)], argTypes := #[29, 64] }, _, _, _, _⟩) rfl (fun K9 hK9 => ?_) AllReadyH.nil
  go_simp
  go_at_call 45
  refine (cr).mono ?_
  rintro e w4 ⟨m4, K4, rfl, hM4, hm4, hK4, g4a⟩
  have g4 := tn g3 g4a
  have ch := has_any w4 m4 K4 hM4 b (unhide HB32)
  rw [unhide HKB] at ch
  go_wp2_with fail
  refine hK9.out _ _ g4 (fun _ => ?_)
  clear hK9 K9
  (try simp only [Act.put, pq1, pq2, pq3])
  refine wpAnyH_ready (rs := [6]) (by kernel_rfl) (by simp) ?_
  refine AllReadyH.cons (o := ⟨some 13, .call { callee := .value (.func 49), args := #[(.tmp 11), (.tmp 12)], argTypes := #[94, 33] }, _, _, _, _⟩) rfl (fun K9 hK9 => ?_) AllReadyH.nil
  go_simp
  go_at_call 49
  refine (ch).mono ?_
  rintro e w5 ⟨rfl, g5a⟩
  have g5 := tn g4 g5a
  go_wp2_with fail
  refine hK9.out _ _ g5 (fun _ => ?_)
  clear hK9 K9
  (try simp only [Act.put, pq1, pq2, pq3])
  refine wpAnyH_take (i := 7) (oi := ⟨some 6, .assign (.tmp 13), _, _, _, _⟩) (v := .bool (K4.contains b)) rfl (by kernel_rfl) (by kernel_rfl) (by kernel_rfl) (fun _ _ _ h => h) (Or.inl ⟨by rfl, fun V (hV : W2.grownBy V none) => by go_simp⟩) g5 ?_
  (try simp only [Act.put, pq1, pq2, pq3])
  refine wpAnyH_done (by kernel_rfl) ?_ _
  refine NoPanic.normal ?_
  clear cr ch
  have hy : K4.contains b = true ↔ Rch (prS S) [a] b := by rw [← hK4 b]; simp
  obtain ⟨y9, hy9⟩ : ∃ y, y = K4.contains b := ⟨_, rfl⟩
  rw [← hy9] at hy
  rw [← hy9]
  have HY := hide hy
  clear hy hy9
  go_wp2
  go_ret
  exact ⟨y9, rfl, unhide HY, tn G2 g5⟩

end Go.Proofs.YtlifmipnoeioaaaGreatDoor

/- What graph's Reach answers. Of any set, of nil and of a plain one. -/
namespace Go.Proofs.YtlifmipnoeioaaaGreatDoor
open Go.RowKit

/-- 'append(own, x)', and where the new row lies. -/
theorem wpList_append_idq {w : World} {ops : Array Oper} {rest : List Oper} {o : Oper} {a : Act} {Q : Exit → Act → World → Prop} (hgd : o.guard = none) (s x : Operand)
    (ho : o.op = .call { callee := .builtin .append, args := #[s, x], argTypes := #[29, 29] })
    (base : Nat) (v : Value) (n : Nat) (xs : List Value) (hs : a.eval s = v) (hown : w.ownsRow base 33 32 v n xs) (p : Nat) (EC : List Value) (hB : Blk w p 33 EC) (hEl : EC.length = 32) (hE1 : ∀ u ∈ EC, u.oneCell' = true)
    (hx : a.eval x = .slice (some ⟨p, 0, none⟩) 1 1) (hn : n ≤ 100000) (hbase : base ≤ w.heap.size)
    (h : ∀ g c w', w'.ownsRow base 33 32 (.slice (some ⟨g, 0, none⟩) (n + 1) c) (n + 1) (xs ++ EC) → w.grownBy w' v.ownBlock → (v.ownBlock = some g ∨ w.heap.size ≤ g) → wpList Tryz.prog ops Q rest (a.put o.dst (.slice (some ⟨g, 0, none⟩) (n + 1) c)) w') : wpList Tryz.prog ops Q (o :: rest) a w := by
  obtain ⟨i0, hi, hz0, hz1, hz2⟩ := info_parts info_idp
  exact wpList_append_lies w hgd s x 29 ho base 33 i0 _ 32 32 Tryz.underlying29 hi hz0 hz1 hz2 rfl (by decide) v n xs hs hown ⟨p, 0, none⟩ 1 1 EC hx (by rw [hEl]) (fun j u hu => World.news_of_block hB j u (by simpa using hu)) hE1 (by decide) (by unfold maxLen; omega) (by omega) hbase _ rfl (fun g c w' q1 q2 q3 _ => h g c w' q1 q2 (by
    rcases q3 with q3 | q3
    · exact Or.inl q3
    · exact Or.inr (Nat.le_of_eq q3.symm)))

/-- Two rows of the call's own, of which neither is the other. -/
structure Two (w : World) (base : Nat) (v1 v2 : Value) (T M : List (List UInt8)) : Prop where
  one : w.ownsRow base 33 32 v1 T.length (T.flatMap (·.map bv))
  two : w.ownsRow base 33 32 v2 M.length (M.flatMap (·.map bv))
  apart : ∀ k, v1.ownBlock = some k → v2.ownBlock ≠ some k
theorem Two.nil (w : World) (base : Nat) : Two w base (.slice none 0 0) (.slice none 0 0) [] [] := ⟨World.ownsRow_nil _ _ _ _, World.ownsRow_nil _ _ _ _, fun k e => by cases e⟩
theorem own_keep1 {w a : World} {base : Nat} {v : Value} {T : List (List UInt8)} {r : Option Nat} (h : w.ownsRow base 33 32 v T.length (T.flatMap (·.map bv))) (g : w.grownBy a r) (hr : ∀ k, v.ownBlock = some k → r ≠ some k) : a.ownsRow base 33 32 v T.length (T.flatMap (·.map bv)) :=
  h.kept g (by
    cases hv : v.ownBlock with
    | none => exact Or.inl rfl
    | some k => exact Or.inr fun e => hr k hv e.symm)
theorem Two.none {w a : World} {base : Nat} {v1 v2 : Value} {T M : List (List UInt8)} (h : Two w base v1 v2 T M) (g : w.grownBy a Option.none) : Two a base v1 v2 T M :=
  ⟨own_keep1 h.one g (fun _ _ e => by cases e), own_keep1 h.two g (fun _ _ e => by cases e), h.apart⟩
theorem Two.swap {w : World} {base : Nat} {v1 v2 : Value} {T M : List (List UInt8)} (h : Two w base v1 v2 T M) : Two w base v2 v1 M T :=
  ⟨h.two, h.one, fun k e e2 => h.apart k e2 e⟩
theorem Two.put {w a : World} {base g c : Nat} {v1 v2 : Value} {T M : List (List UInt8)} {x : List UInt8} {XB : List Value} (hXB : XB = x.map bv) (h : Two w base v1 v2 T M) (ho : a.ownsRow base 33 32 (.slice (some ⟨g, 0, Option.none⟩) (T.length + 1) c) (T.length + 1) (T.flatMap (·.map bv) ++ XB)) (hg : w.grownBy a v1.ownBlock) (hat : v1.ownBlock = some g ∨ w.heap.size ≤ g) :
    Two a base (.slice (some ⟨g, 0, Option.none⟩) (T.length + 1) c) v2 (T ++ [x]) M := by
  refine ⟨?_, own_keep1 h.two hg (fun k e e2 => h.apart k e2 e), fun k e e2 => ?_⟩
  · have e1 : (T ++ [x]).length = T.length + 1 := by simp
    have e2 : (T ++ [x]).flatMap (·.map bv) = T.flatMap (·.map bv) ++ XB := by rw [hXB]; simp
    rw [e1, e2]
    exact ho
  · have hgk : g = k := by simpa [Value.ownBlock] using e
    rcases hat with h1 | h1
    · exact h.apart g h1 (by rw [hgk]; exact e2)
    · have := (h.two.lt k e2).2
      omega

set_option maxRecDepth 100000 in
set_option maxHeartbeats 4000000 in
theorem reach_any (w : World) (po : Option Addr) (S : List ObE) (h : Sat w po S) (ao : Option Addr) (c : Nat) (R : List (List UInt8)) (hR : Ids w ao c R) (hRa : ∀ ad, ao = some ad → ad.block < w.heap.size) (hRl : R.length ≤ 50000) :
    Calls Tryz.prog 22 #[.pointer po, .slice ao R.length c] w fun e w' => ∃ v1 v2 T M, e = .returned (.tuple #[v1, v2]) ∧ Ris T ∧ Ris M ∧ (∀ x, x ∈ T ↔ Rch (nxS S) R x ∧ hasS S x = true) ∧ (∀ x, x ∈ M ↔ Rch (nxS S) R x ∧ hasS S x = false) ∧ Two w' w.heap.size v1 v2 T M ∧ w.grownBy w' none := by
  have cr := reachL_any w po S h ao c R hR hRa hRl
  obtain ⟨nR, hnR⟩ : ∃ n, n = R.length := ⟨_, rfl⟩
  rw [← hnR] at cr ⊢
  obtain ⟨Z, hZ, hzv⟩ := zero_id
  have HZ := hide hZ
  have HS := hide h
  clear hZ h hR hRa hRl hnR
  go_enter Tryz.func22, Tryz.ntmps22
  go_wp2_with fail
  refine cr.mono ?_
  rintro e w1 ⟨m, K, rfl, hM, hm, hK, hKl, g1⟩
  have cs := risingM_any w1 m (metK K) hM (by simpa [metK] using hKl)
  have HK := hide hK
  have HKL := hide hKl
  have HK32 : Hid (∀ x ∈ K, x.length = 32) := fun x hx => hM.wide (x, .agg #[]) (List.mem_map.2 ⟨x, hx, rfl⟩)
  clear cr hM hm hK hKl
  go_wp2_with fail
  refine cs.mono ?_
  rintro e w2 ⟨v0, L, rfl, hris, hmem, ho0, g2⟩
  rw [metK_keys] at hmem
  obtain ⟨a0, c0, rfl, hI0⟩ := Ids.own ho0 (fun x hx => unhide HK32 x ((hmem x).1 hx))
  have G2 := tn g1 g2
  have hS2 := (unhide HS).none G2
  have hLl : L.length ≤ 100000 := by
    have h1 := hI0.fits
    have h2 := nodup_le hris.nodup (fun x hx => (hmem x).1 hx)
    have h3 := unhide HKL
    omega
  obtain ⟨n, hn⟩ : ∃ n, n = L.length := ⟨_, rfl⟩
  rw [← hn] at hLl
  rw [← hn]
  have HN := hide hn
  have HI := hide hI0
  have HO := hide ho0
  have HS2 := hide hS2
  have HG2 := hide G2
  have HM := hide hmem
  have HRI := hide hris
  have hres : ∀ x, x ∈ L ↔ Rch (nxS S) R x := fun x => (hmem x).trans (unhide HK x)
  have HRES := hide hres
  clear cs hris hmem ho0 hI0 g1 g2 G2 hS2 hn hres
  go_wp2_with fail
  go_loopw [4, 5, 14] (fun v1 v2 i wr => ∃ j : Nat, i = .int .i64 j ∧ j ≤ n ∧ Hid (Two wr w2.heap.size v1 v2 ((L.take j).filter (hasS S)) ((L.take j).filter fun x => !hasS S x) ∧ w2.grownBy wr none)) (fun _ _ i _ => n - (intOf i).toNat)
  case atStart => exact ⟨0, rfl, Nat.zero_le _, by simpa using Two.nil w2 _, gb_refl _ _⟩
  case round =>
    obtain ⟨j, rfl, hj, HT⟩ := hrel
    by_cases hlt : j < n
    · have hlt' : j < L.length := by have := unhide HN; omega
      obtain ⟨b, o, hao, hrow⟩ := (unhide HI).at j hlt'
      have hr := range_kept (hrow j hlt') (unhide HT).2 (by simp)
      have hid := (unhide HI).ids _ (List.getElem_mem hlt')
      have htk := List.take_succ_eq_append_getElem hlt'
      obtain ⟨E, hEE⟩ : ∃ E, E = L[j] := ⟨_, rfl⟩
      rw [← hEE] at hr hid htk
      obtain ⟨EB, hEB⟩ : ∃ EB, EB = E.map bv := ⟨_, rfl⟩
      have hkv : keyV E = .agg EB.toArray := by rw [hEB]; rfl
      rw [← hEB] at hr
      have hEl : EB.length = 32 := by rw [hEB]; simp [hid]
      have hE1 : ∀ u ∈ EB, u.oneCell' = true := by rw [hEB]; exact bv_one _
      have hEo : EB.toArray.all (·.oneCell') = true := all_oneCell_toArray hE1
      have hiE : (Tryz.prog.info? 33).map (·.size) = some EB.length := by rw [hEl]; exact info_id
      have hiE2 : (Tryz.prog.info? 33).map (·.size) = some EB.toArray.size := by simpa using hiE
      have hZE : Z.toList.toArray.size = EB.toArray.size := by have := unhide HZ; simp [this, hEl]
      obtain ⟨W5, hW5, hB5, g5⟩ := row_new wr 33 Z EB
      have hBZ : Blk (wr.alloc (.cells Z 33)) wr.heap.size 33 Z.toList := by simpa using Blk.new wr 33 Z.toList
      have hr5 := blk_all hB5
      have G5 := tn (unhide HT).2 g5
      have ch := ghas_any W5 po S ((unhide HS2).none G5) E hid
      rw [hkv] at ch
      have hT5 := (unhide HT).1.none g5
      have hbs : ∀ V : World, (Instr.buildSlice 29 1 #[(0, .agg EB.toArray)]).run Tryz.prog V = .ok (.slice (some ⟨V.heap.size, 0, none⟩) 1 1) (V.alloc (.cells EB.toArray 33)) := fun V => by rw [hEB]; exact bs_id E hid V
      have hTl : ((L.take j).filter (hasS S)).length ≤ 100000 := Nat.le_trans (List.length_filter_le _ _) (by rw [List.length_take]; omega)
      have hMl : ((L.take j).filter fun x => !hasS S x).length ≤ 100000 := Nat.le_trans (List.length_filter_le _ _) (by rw [List.length_take]; omega)
      obtain ⟨T, hT⟩ : ∃ T, T = (L.take j).filter (hasS S) := ⟨_, rfl⟩
      obtain ⟨M, hM⟩ : ∃ T, T = (L.take j).filter fun x => !hasS S x := ⟨_, rfl⟩
      have hT' : (L.take (j + 1)).filter (hasS S) = T ++ (if hasS S E = true then [E] else []) := by
        rw [htk, List.filter_append, ← hT]
        by_cases hz : hasS S E = true <;> simp [hz]
      have hM' : (L.take (j + 1)).filter (fun x => !hasS S x) = M ++ (if hasS S E = true then [] else [E]) := by
        rw [htk, List.filter_append, ← hM]
        by_cases hz : hasS S E = true <;> simp [hz]
      rw [← hT] at hTl
      rw [← hM] at hMl
      rw [← hT, ← hM] at hT5
      obtain ⟨y, hy⟩ : ∃ y, y = hasS S E := ⟨_, rfl⟩
      rw [← hy] at ch hT' hM'
      have HEB := hide hEB
      have HE1 := hide hE1
      have HEO := hide hEo
      have HIE := hide hiE
      have HIE2 := hide hiE2
      have HZE := hide hZE
      have HW5 := hide hW5
      have HBZ := hide hBZ
      have HB5 := hide hB5
      have HG5 := hide G5
      have HT5 := hide hT5
      have HBS := hide hbs
      have HEL := hide hEl
      have HT' := hide hT'
      have HM' := hide hM'
      have hjw : IntKind.i64.wrap ((j : Int) + 1) = (j : Int) + 1 := by rw [IntKind.wrap_i64]; omega
      clear hrow hEE hEB hE1 hEo hEl hiE hiE2 hZE hW5 hBZ hB5 g5 G5 hT5 hbs hT hM hT' hM' hy hkv htk hlt' HT hid
      subst hao
      cases y with
      | true =>
        go_wp2_with (first
          | (refine wpList_load_mid rfl 33 _ rfl b (o + j * 32) rfl EB _ hr Tryz.underlying33 rfl (unhide HIE) ?_; clear hr)
          | (have hB9 := unhide HBZ; refine wpList_store_row rfl 33 _ _ rfl wr.heap.size EB.toArray rfl rfl _ _ hB9 (unhide HIE2) (unhide HZE) (unhide HEO) ?_; clear hB9; rw [← unhide HW5])
          | (refine wpList_load_mid rfl 33 _ rfl wr.heap.size 0 rfl EB _ hr5 Tryz.underlying33 rfl (unhide HIE) ?_; clear hr5))
        refine ch.mono ?_
        rintro e w6 ⟨rfl, g6⟩
        have hr6 := blk_all ((unhide HB5).kept g6 (by simp))
        have G6 := tn (unhide HG5) g6
        obtain ⟨W7, hW7, hB7, g7⟩ := box_new w6 33 EB
        have hbs7 : (Instr.buildSlice 29 1 #[(0, .agg EB.toArray)]).run Tryz.prog w6 = .ok (.slice (some ⟨w6.heap.size, 0, none⟩) 1 1) W7 := by rw [hW7]; exact unhide HBS w6
        have hT7 := ((unhide HT5).none g6).none g7
        have G7 := tn G6 g7
        have HT7 := hide hT7
        have HB7 := hide hB7
        have HG7 := hide G7
        have HBS7 := hide hbs7
        clear ch g6 hW7 hB7 g7 hbs7 hT7 G7 G6
        go_wp2_with (first
          | (refine wpList_load_mid rfl 33 _ rfl wr.heap.size 0 rfl EB _ hr6 Tryz.underlying33 rfl (unhide HIE) ?_; clear hr6)
          | (refine wpList_build1 rfl 29 _ rfl (.agg EB.toArray) _ rfl (unhide HBS7) ?_)
          | (refine wpList_append_idq rfl _ _ rfl w2.heap.size _ _ _ rfl (unhide HT7).one _ EB (unhide HB7) (unhide HEL) (unhide HE1) rfl hTl (unhide HG7).size ?_; intro g8 c8 w8 ho8 gg8 hat8; have HT8 := hide ((unhide HT7).put (unhide HEB) ho8 gg8 hat8); have HG8 := hide (gb_trans (unhide HG7) gg8 (fun x e => Or.inl ((unhide HT7).one.lt x e).1)); clear ho8 gg8 hat8))
        go_roundw
        case rel =>
          refine ⟨j + 1, by go_num, by omega, ?_, unhide HG8⟩
          have h1 := unhide HT'
          have h2 := unhide HM'
          simp only [if_true, List.append_nil] at h1 h2
          rw [h1, h2]
          exact unhide HT8
        case measure => simp [intOf]; omega
      | false =>
        go_wp2_with (first
          | (refine wpList_load_mid rfl 33 _ rfl b (o + j * 32) rfl EB _ hr Tryz.underlying33 rfl (unhide HIE) ?_; clear hr)
          | (have hB9 := unhide HBZ; refine wpList_store_row rfl 33 _ _ rfl wr.heap.size EB.toArray rfl rfl _ _ hB9 (unhide HIE2) (unhide HZE) (unhide HEO) ?_; clear hB9; rw [← unhide HW5])
          | (refine wpList_load_mid rfl 33 _ rfl wr.heap.size 0 rfl EB _ hr5 Tryz.underlying33 rfl (unhide HIE) ?_; clear hr5))
        refine ch.mono ?_
        rintro e w6 ⟨rfl, g6⟩
        have hr6 := blk_all ((unhide HB5).kept g6 (by simp))
        have G6 := tn (unhide HG5) g6
        obtain ⟨W7, hW7, hB7, g7⟩ := box_new w6 33 EB
        have hbs7 : (Instr.buildSlice 29 1 #[(0, .agg EB.toArray)]).run Tryz.prog w6 = .ok (.slice (some ⟨w6.heap.size, 0, none⟩) 1 1) W7 := by rw [hW7]; exact unhide HBS w6
        have hT7 := (((unhide HT5).none g6).none g7).swap
        have G7 := tn G6 g7
        have HT7 := hide hT7
        have HB7 := hide hB7
        have HG7 := hide G7
        have HBS7 := hide hbs7
        clear ch g6 hW7 hB7 g7 hbs7 hT7 G7 G6
        go_wp2_with (first
          | (refine wpList_load_mid rfl 33 _ rfl wr.heap.size 0 rfl EB _ hr6 Tryz.underlying33 rfl (unhide HIE) ?_; clear hr6)
          | (refine wpList_build1 rfl 29 _ rfl (.agg EB.toArray) _ rfl (unhide HBS7) ?_)
          | (refine wpList_append_idq rfl _ _ rfl w2.heap.size _ _ _ rfl (unhide HT7).one _ EB (unhide HB7) (unhide HEL) (unhide HE1) rfl hMl (unhide HG7).size ?_; intro g8 c8 w8 ho8 gg8 hat8; have HT8 := hide ((unhide HT7).put (unhide HEB) ho8 gg8 hat8); have HG8 := hide (gb_trans (unhide HG7) gg8 (fun x e => Or.inl ((unhide HT7).one.lt x e).1)); clear ho8 gg8 hat8))
        go_roundw
        case rel =>
          refine ⟨j + 1, by go_num, by omega, ?_, unhide HG8⟩
          have h1 := unhide HT'
          have h2 := unhide HM'
          simp only [Bool.false_eq_true, if_false, List.append_nil] at h1 h2
          rw [h1, h2]
          exact (unhide HT8).swap
        case measure => simp [intOf]; omega
    · have hjn : j = L.length := by have := unhide HN; omega
      rw [hjn, List.take_of_length_le (Nat.le_refl _)] at HT
      clear hjn
      go_wp2
      go_ret2
      obtain ⟨hT, hG⟩ := unhide HT
      refine ⟨_, _, _, _, rfl, (unhide HRI).filter _, (unhide HRI).filter _, fun x => ?_, fun x => ?_, ⟨own_low hT.one (unhide HG2).size, own_low hT.two (unhide HG2).size, hT.apart⟩, tn (unhide HG2) hG⟩
      · rw [List.mem_filter, unhide HRES x]
      · rw [List.mem_filter, unhide HRES x]
        simp

end Go.Proofs.YtlifmipnoeioaaaGreatDoor
