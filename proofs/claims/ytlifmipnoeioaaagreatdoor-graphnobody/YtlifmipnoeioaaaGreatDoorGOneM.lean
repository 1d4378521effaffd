/- What graph's Beyond answers. Of any set, of nil and of a plain one. -/
import Derived.Test.YtlifmipnoeioaaaGreatDoorGRch
import Derived.Test.YtlifmipnoeioaaaGreatDoorGDel
import Derived.Test.YtlifmipnoeioaaaGreatDoorGLog
namespace Go.Proofs.YtlifmipnoeioaaaGreatDoor
open Go.RowKit

set_option maxRecDepth 100000 in
set_option maxHeartbeats 4000000 in
theorem beyond_any (w : World) (po : Option Addr) (S : List ObE) (h : Sat w po S) (ao : Option Addr) (c : Nat) (R : List (List UInt8)) (hR : Ids w ao c R) (hRa : ∀ ad, ao = some ad → ad.block < w.heap.size) (hRl : R.length ≤ 50000) (bo : Option Addr) (d : Nat) (Q : List (List UInt8)) (hQ : Ids w bo d Q) (hQa : ∀ ad, bo = some ad → ad.block < w.heap.size) (hQl : Q.length ≤ 50000) :
    Calls Tryz.prog 24 #[.pointer po, .slice ao R.length c, .slice bo Q.length d] w fun e w' => ∃ v T, e = .returned v ∧ Ris T ∧ (∀ x, x ∈ T ↔ (Rch (nxS S) R x ∧ hasS S x = true) ∧ ¬ Rch (nxS S) Q x) ∧ w'.ownsRow w.heap.size 33 32 v T.length (T.flatMap (·.map bv)) ∧ w.grownBy w' none := by
  have cr := reach_any w po S h ao c R hR hRa hRl
  obtain ⟨nR, hnR⟩ : ∃ n, n = R.length := ⟨_, rfl⟩
  obtain ⟨nQ, hnQ⟩ : ∃ n, n = Q.length := ⟨_, rfl⟩
  rw [← hnR] at cr ⊢
  rw [← hnQ]
  have HS := hide h
  have HQ := hide hQ
  have HQA := hide hQa
  have HQL := hide hQl
  have HNQ := hide hnQ
  clear h hR hRa hRl hnR hQ hQa hQl hnQ
  go_enter Tryz.func24, Tryz.ntmps24
  go_wp2_with fail
  refine cr.mono ?_
  rintro e w1 ⟨v1, v2, T, M, rfl, hrT, -, hmT, -, hTwo, g1⟩
  have hTl : T.length ≤ 100000 := by
    have h1 := nodup_le hrT.nodup (fun x hx => (hasS_mem S x).1 ((hmT x).1 hx).2)
    have h2 := (unhide HS).ok.few
    have h3 : (idsS S).length = S.length := by simp [idsS]
    omega
  have hT32 : ∀ x ∈ T, x.length = 32 := fun x hx => by
    have := (hasS_mem S x).1 ((hmT x).1 hx).2
    unfold idsS at this
    obtain ⟨e, he, rfl⟩ := List.mem_map.1 this
    exact (unhide HS).ok.len e he
  have HG1 := hide g1
  have HT := hide (And.intro hrT (And.intro hmT (And.intro hTl (And.intro hT32 hTwo.one))))
  have cs := reachL_any w1 po S ((unhide HS).none g1) bo d Q ((unhide HQ).none g1) (fun ad e => Nat.lt_of_lt_of_le (unhide HQA ad e) g1.size) (unhide HQL)
  rw [← unhide HNQ] at cs
  clear hrT hmT hTwo hTl hT32 g1 cr
  go_wp2_with fail
  refine cs.mono ?_
  rintro e w2 ⟨m, K, rfl, hM, hm, hK, -, g2⟩
  have cd := del_any w2 w.heap.size m K hM v1 T ((unhide HT).2.2.2.2.kept g2 (Classical.em _)) (unhide HT).2.2.2.1 (unhide HT).2.2.1
  have HK := hide hK
  have HG2 := hide g2
  clear cs hM hm hK g2
  go_wp2_with fail
  refine cd.mono ?_
  rintro e w3 ⟨v', rfl, ho, g3⟩
  have HO := hide ho
  have HG3 := hide g3
  clear cd ho g3
  go_wp2
  go_ret
  refine ⟨v', _, rfl, (unhide HT).1.filter _, fun x => ?_, unhide HO, ?_⟩
  · rw [List.mem_filter, (unhide HT).2.1 x]
    have := unhide HK x
    constructor
    · rintro ⟨h1, h2⟩
      exact ⟨h1, fun h3 => by rw [← this] at h3; simp [h3] at h2⟩
    · rintro ⟨h1, h2⟩
      refine ⟨h1, ?_⟩
      rw [← this] at h2
      simp [h2]
  · refine gb_trans (tn (unhide HG1) (unhide HG2)) (unhide HG3) fun k e => Or.inl ?_
    exact ((unhide HT).2.2.2.2.lt k e).1

end Go.Proofs.YtlifmipnoeioaaaGreatDoor

/- What graph's Log answers. Of any set, of nil and of a plain one. -/
namespace Go.Proofs.YtlifmipnoeioaaaGreatDoor
open Go.RowKit

theorem com_in {S : List ObE} {x : List UInt8} (h : (comS S x).isSome = true) : x ∈ idsS S := by
  unfold comS at h
  cases hl : lkS S x with
  | none => rw [hl] at h; cases h
  | some e =>
    obtain ⟨h1, rfl⟩ := lkS_mem hl
    exact List.mem_map.2 ⟨e, h1, rfl⟩
theorem LogP.from {S : List ObE} {tip : List UInt8} {T : List (List UInt8)} (h : LogP S tip T) : ∀ x ∈ T, x = tip ∨ ∃ c ∈ T, x ∈ prS S c := by
  induction h with
  | one _ => intro x hx; left; simpa using hx
  | more _ hs ih =>
    intro x hx
    rcases List.mem_append.1 hx with hx | hx
    · rcases ih x hx with h1 | ⟨c, h1, h2⟩
      · exact Or.inl h1
      · exact Or.inr ⟨c, List.mem_append_left _ h1, h2⟩
    · rw [List.mem_singleton.1 hx]
      obtain ⟨c, h1, h2⟩ := hs.1.1
      exact Or.inr ⟨c, List.mem_append_left _ h1, h2⟩
theorem newOf_not {x : List UInt8} : ∀ {l K : List (List UInt8)}, x ∈ newOf K l → x ∉ K
  | [], _, h => by simp [newOf] at h
  | y :: l, K, h => by
    unfold newOf at h
    split at h
    · exact newOf_not h
    · rename_i hy
      rcases List.mem_cons.1 h with rfl | h
      · exact hy
      · exact fun hm => newOf_not h (List.mem_append_left _ hm)

/-- The parents of one that was told are met. -/
theorem LogI.next {S : List ObE} {tip : List UInt8} {T K : List (List UInt8)} {H G E : List CmR} {r : CmR} (h : LogI S tip T K H) (hr : r ∈ H) (hl : ∀ x ∈ H, cmLt x r = false) (hp : (G ++ [r]).Perm H)
    (h1 : ∀ x, x ∈ E.map (·.id) ↔ x ∈ G.map (·.id) ∨ (x ∈ newOf K (prS S r.id) ∧ (comS S x).isSome = true)) (h2 : (E.map (·.id)).Nodup) (h3 : ∀ q ∈ E, comS S q.id = some q.time ∧ q.pars = prS S q.id) : LogI S tip (T ++ [r.id]) (K ++ newOf K (prS S r.id)) E := by
  obtain ⟨a1, a2, a3, a4, a5⟩ := h.told hr hl hp
  have hTK : ∀ x ∈ T ++ [r.id], x ∈ K := fun x hx => by
    rcases List.mem_append.1 hx with hx | hx
    · rcases h.log with rfl | hP
      · simp at hx
      · exact (h.known x).2 (hP.from x hx)
    · rw [List.mem_singleton.1 hx]
      exact ((h.heap r.id).1 (List.mem_map.2 ⟨r, hr, rfl⟩)).1
  refine ⟨fun x => ?_, fun x => ?_, h2, h3, Or.inr a1⟩
  · rw [List.mem_append]
    constructor
    · rintro (hx | hx)
      · rcases (h.known x).1 hx with h4 | ⟨c, h4, h5⟩
        · exact Or.inl h4
        · exact Or.inr ⟨c, List.mem_append_left _ h4, h5⟩
      · exact Or.inr ⟨r.id, by simp, newOf_in hx⟩
    · rintro (h4 | ⟨c, h4, h5⟩)
      · exact Or.inl ((h.known x).2 (Or.inl h4))
      · rcases List.mem_append.1 h4 with h4 | h4
        · exact Or.inl ((h.known x).2 (Or.inr ⟨c, h4, h5⟩))
        · rw [List.mem_singleton.1 h4] at h5
          exact List.mem_append.1 (newOf_has h5)
  · rw [h1 x, a3 x]
    constructor
    · rintro (⟨b1, b2, b3⟩ | ⟨b1, b2⟩)
      · exact ⟨List.mem_append_left _ b1, b2, b3⟩
      · exact ⟨List.mem_append_right _ b1, b2, fun hm => newOf_not b1 (hTK x hm)⟩
    · rintro ⟨b1, b2, b3⟩
      rcases List.mem_append.1 b1 with b1 | b1
      · exact Or.inl ⟨b1, b2, b3⟩
      · exact Or.inr ⟨b1, b2⟩

theorem built_wait (po : Option Addr) : Tryz.prog.built 102 [(0, .pointer po)] = some #[.pointer po, .slice none 0 0] := by kernel_rfl

set_option maxRecDepth 100000 in
set_option maxHeartbeats 8000000 in
theorem glog_any (w : World) (po : Option Addr) (S : List ObE) (h : Sat w po S) (tip : List UInt8) (htip : tip.length = 32) :
    Calls Tryz.prog 28 #[.pointer po, keyV tip] w fun e w' => ∃ v T, e = .returned v ∧ LogOk S tip T ∧ w'.ownsRow w.heap.size 33 32 v T.length (T.flatMap (·.map bv)) ∧ w.grownBy w' none := by
  obtain ⟨KB, hKB⟩ : ∃ KB, KB = tip.map bv := ⟨_, rfl⟩
  have hKl : KB.length = 32 := by rw [hKB]; simp [htip]
  have hkv : keyV tip = .agg KB.toArray := by rw [hKB]; rfl
  have hiK : (Tryz.prog.info? 33).map (·.size) = some KB.length := by rw [hKl]; exact info_id
  have hmk : ∀ W : World, (Instr.makeMap 94 none).run Tryz.prog W = .ok (.map (some W.heap.size)) (W.alloc (.map #[] 0)) := fun W => run_makeMap _ W
  obtain ⟨W1, hW1, hB1, g1⟩ := box_new w 33 KB
  obtain ⟨W2, hW2⟩ : ∃ W, W = W1.alloc (.map #[] 0) := ⟨_, rfl⟩
  have g2 : W1.grownBy W2 none := by rw [hW2]; exact gb_alloc (gb_refl _ _) _
  have hs1 : W1.heap.size = w.heap.size + 1 := by rw [hW1]; simp
  have hM2 : MapAt W2 (w.heap.size + 1) (metK []) := by rw [hW2, ← hs1]; exact MapAt.new _
  have hs2 : W2.heap.size = w.heap.size + 2 := by rw [hW2]; simp [hs1]
  obtain ⟨W3, hW3, hB3, g3⟩ : ∃ W, W = W2.alloc (.cells #[.pointer po, .slice none 0 0] 102) ∧ Blk W W2.heap.size 102 [.pointer po, .slice none 0 0] ∧ W2.grownBy W none := box_new W2 _ _
  rw [hs2] at hB3
  have hs3 : W3.heap.size = w.heap.size + 3 := by rw [hW3]; simp [hs2]
  have G3 := tn (tn g1 g2) g3
  have hr3 : W3.rangeAt w.heap.size 0 KB := blk_all ((hB1.kept g2 (by simp)).kept g3 (by simp))
  obtain ⟨W4, hW4, hB4, g4⟩ := box_new W3 33 KB
  rw [hs3] at hB4
  have hbs : (Instr.buildSlice 29 1 #[(0, .agg KB.toArray)]).run Tryz.prog W3 = .ok (.slice (some ⟨w.heap.size + 3, 0, none⟩) 1 1) W4 := by rw [hW4, hKB, ← hs3]; exact bs_id tip htip W3
  have hW : W3 = ((w.alloc (.cells KB.toArray 33)).alloc (.map #[] 0)).alloc (.cells #[.pointer po, .slice none 0 0] 102) := by rw [hW3, hW2, hW1]
  have G4 := tn G3 g4
  have hst0 : LogSt w (w.heap.size + 1) (w.heap.size + 2) po S [] (.slice none 0 0) [] 0 (some ⟨w.heap.size + 3, 0, none⟩) 1 [tip] W4 [] [] := by
    refine ⟨[], ⟨G4, (hM2.none g3).none g4, ⟨_, hB3.kept g4 (by simp), World.ownsRow_nil _ _ _ _, by simp, by omega⟩, fun i _ hi => by simp at hi, by simp, World.ownsRow_nil _ _ _ _, by omega, h⟩, by simp, by simp, by simp, by simp, by simp, by simp, by simp, ⟨(fun e => by cases e), Nat.le_refl _, by unfold maxLen; decide, (fun ad e _ => by cases e; rfl), fun ad e i hi => ?_, fun x hx => by rw [List.mem_singleton.1 hx]; exact htip⟩, fun ad e => by cases e; exact ⟨_, _, hB4⟩⟩
    cases e
    have : i = 0 := by simpa using hi
    subst this
    rw [hKB] at hB4
    exact blk_all hB4
  have cm := meet_any W4 54 (.pointer (some ⟨w.heap.size + 2, 0, none⟩)) (w.heap.size + 1) (some ⟨w.heap.size + 3, 0, none⟩) 1 [tip] [] [] _ (log_works w (w.heap.size + 1) (w.heap.size + 2) po S [] (.slice none 0 0) [] 0 (some ⟨w.heap.size + 3, 0, none⟩) 1 [tip] (by omega) (by simp)) hst0 (Nat.le_refl _) (by simp)
  rw [hkv]
  have hbw := built_wait po
  have HBW := hide hbw
  have HW := hide hW
  have HIK := hide hiK
  have HBS := hide hbs
  have HS := hide h
  have HT := hide htip
  have HZ := zero_com
  obtain ⟨ZC, hZC⟩ : ∃ Z, Z = cmC zeroCm := ⟨_, rfl⟩
  have hzv : ∀ w, (zeroValue 107).run Tryz.prog w = .ok (.agg ZC.toArray) w := fun w => by rw [hZC]; exact zero_com w
  have hZl : ZC.length = 34 := by rw [hZC]; rfl
  have HZL := hide hZl
  have hta := assert_com
  clear hKB hKl hkv hiK hW1 hW2 hW3 hW4 hB1 hB3 hB4 hM2 hs1 hs2 hs3 g1 g2 g3 g4 G3 G4 hst0 hW hbs hbw h htip HZ hZC hZl
  go_enter Tryz.func28, Tryz.ntmps28
  go_wp2_with (first
    | (refine wpList_built rfl 102 _ rfl #[.pointer po, .slice none 0 0] ?hbw ?_)
    | (rw [← unhide HW]; refine wpList_load_mid rfl 33 _ rfl w.heap.size 0 rfl KB _ hr3 Tryz.underlying33 rfl (unhide HIK) ?_; clear hr3)
    | (refine wpList_build1 rfl 29 _ rfl (.agg KB.toArray) _ rfl (unhide HBS) ?_))
  case hbw => simpa using unhide HBW
  refine cm.mono ?_
  rintro e w5 ⟨rfl, hS5⟩
  have HS5 := hide hS5
  clear cm hS5 hmk
  go_wp2_with fail
  go_loopg [5] (S.length + 1) (fun k tv wr => ∃ T K H, Hid (LogW w wr (w.heap.size + 1) (w.heap.size + 2) po S T tv K H) ∧ Hid (LogI S tip T K H) ∧ S.length + 1 - T.length ≤ k)
  case atStart =>
    obtain ⟨H, q1, q2, q3, q4, q5, q6, q7, q8, q9, q10⟩ := unhide HS5
    have e1 : newOf [] [tip] = [tip] := by simp [newOf]
    simp only [List.nil_append, e1] at q1 q2
    refine ⟨[], [tip], H, q1, ⟨by simp, fun x => ?_, q3, q4, Or.inl rfl⟩, by simp⟩
    rw [q2 x]
    simp
  case round =>
    obtain ⟨T, K, H, HL, HI, hk⟩ := hrel
    have HK := hide hk
    clear hk
    obtain ⟨v, hv⟩ := (unhide HL).wait
    have cl := wlen_any wr w.heap.size (w.heap.size + 2) po v H hv
    have hHl : H.length ≤ S.length := by
      have h1 := nodup_le (unhide HI).once (fun x hx => com_in (((unhide HI).heap x).1 hx).2.1)
      simpa [idsS] using h1
    have hSf := (unhide HS).ok.few
    rcases Nat.eq_zero_or_pos H.length with h0 | h0
    · have : H = [] := List.eq_nil_of_length_eq_zero h0
      subst this
      have hE := (unhide HI).ends
      have hO := (unhide HL).told
      have hG := (unhide HL).gb
      have HE := hide hE
      have HO := hide hO
      rw [List.length_nil] at cl
      clear hE hO hHl hSf hv h0
      go_wp2_with (go_at_call 55; refine cl.mono ?_; rintro e w6 ⟨rfl, e6⟩; subst w6; clear cl)
      go_ret
      exact ⟨_, T, rfl, unhide HE, unhide HO, hG⟩
    · have cp := hpop_any wr w.heap.size (w.heap.size + 2) po v H hv h0 (unhide HL).heap (by omega)
      obtain ⟨n, hn⟩ : ∃ n, n = H.length := ⟨_, rfl⟩
      rw [← hn] at cl h0
      have hpos : (0 : Int) < (n : Int) := by omega
      have HHL := hide (And.intro hHl hSf)
      clear hHl hSf hn
      go_wp2_with (go_at_call 55; refine cl.mono ?_; rintro e w6 ⟨rfl, e6⟩; subst w6; clear cl)
      refine cp.mono ?_
      rintro e w7 ⟨r, v7, G, rfl, hr, hmin, hW7, hp7, hh7, hb7, hv7⟩
      have hrid : r.id.length = 32 := hv.ids r hr
      have hG7 : w.grownBy w7 none := byPile_wait (unhide HL).gb hv hb7 (Nat.le_refl _)
      have hM7 : MapAt w7 (w.heap.size + 1) (metK K) := (unhide HL).map.same (hb7.block _ (unhide HL).map.lt (fun e => (unhide HL).map.blk hv.blk e) ((unhide HL).map.own hv.own))
      have hid7 : ∀ b, IdB wr b → w7.heap[b]? = wr.heap[b]? := fun b hb => byPile_idb hv hb7 hb
      have hO7 : w7.ownsRow w.heap.size 33 32 u5 T.length (T.flatMap (·.map bv)) := by
        refine ⟨(unhide HL).told.1, ?_⟩
        rcases (unhide HL).told.2 with h1 | ⟨g, cap, cur, hv2, hg, hh, hr⟩
        · exact Or.inl h1
        · exact Or.inr ⟨g, cap, cur, hv2, hg, by rw [hid7 g ⟨cur, _, hh⟩]; exact hh, hr⟩
      have hP7 : ∀ q ∈ H, Ids w7 q.po q.pc q.pars ∧ ∀ ad, q.po = some ad → IdB w7 ad.block ∧ u5.ownBlock ≠ some ad.block := fun q hq =>
        ⟨((unhide HL).pars q hq).1.same fun ad e => hid7 _ (((unhide HL).pars q hq).2 ad e).1, fun ad e => ⟨(((unhide HL).pars q hq).2 ad e).1.same (hid7 _ (((unhide HL).pars q hq).2 ad e).1), (((unhide HL).pars q hq).2 ad e).2⟩⟩
      obtain ⟨RC, hRC⟩ : ∃ R, R = cmC r := ⟨_, rfl⟩
      have hRl : RC.length = 34 := by rw [hRC]; exact cmC_len _ hrid
      have hRo : RC.toArray.all (·.oneCell') = true := by rw [hRC]; exact all_oneCell_toArray (cmC_one _)
      have hiR : (Tryz.prog.info? 107).map (·.size) = some RC.toArray.size := by rw [show RC.toArray.size = 34 by simpa using hRl]; exact info_com
      have hZR : ZC.toArray.size = RC.toArray.size := by have := unhide HZL; simp [this, hRl]
      obtain ⟨W8, hW8, hB8, g8⟩ := row_new w7 107 ZC.toArray RC
      have hBZ : Blk (w7.alloc (.cells ZC.toArray 107)) w7.heap.size 107 ZC := Blk.new w7 107 ZC
      obtain ⟨IB, hIB⟩ : ∃ l, l = r.id.map bv := ⟨_, rfl⟩
      have hIl : IB.length = 32 := by rw [hIB]; simp [hrid]
      have hI1 : ∀ u ∈ IB, u.oneCell' = true := by rw [hIB]; exact bv_one _
      have hiI : (Tryz.prog.info? 33).map (·.size) = some IB.length := by rw [hIl]; exact info_id
      have hr8 : W8.rangeAt w7.heap.size 0 IB := by rw [hIB]; rw [hRC] at hB8; exact cm_id (blk_all hB8)
      obtain ⟨W9, hW9, hB9, g9⟩ := box_new W8 33 IB
      have hbs9 : (Instr.buildSlice 29 1 #[(0, .agg IB.toArray)]).run Tryz.prog W8 = .ok (.slice (some ⟨W8.heap.size, 0, none⟩) 1 1) W9 := by rw [hW9, hIB]; exact bs_id r.id hrid W8
      have hTl : T.length ≤ 100000 := by
        have h1 : T.Nodup ∧ ∀ x ∈ T, x ∈ idsS S := by
          rcases (unhide HI).log with rfl | hP
          · simp
          · exact ⟨hP.nodup, fun x hx => com_in (hP.com x hx)⟩
        have h2 := nodup_le h1.1 h1.2
        have h3 := unhide HHL
        simp only [idsS, List.length_map] at h2
        omega
      have g79 := tn g8 g9
      have hO9 := own_id hO7 g79 (fun _ e => by cases e)
      have hG9 := tn hG7 g79
      have hW9' := hW7.none g79
      have hM9 := hM7.none g79
      have hP9 : ∀ q ∈ H, Ids W9 q.po q.pc q.pars ∧ ∀ ad, q.po = some ad → IdB W9 ad.block ∧ u5.ownBlock ≠ some ad.block := fun q hq => ⟨(hP7 q hq).1.none g79, fun ad e => ⟨((hP7 q hq).2 ad e).1.none g79, ((hP7 q hq).2 ad e).2⟩⟩
      have hB89 := hB8.kept g9 (by simp)
      have HIa := hide (And.intro hr (And.intro hmin hp7))
      have HRC := hide hRC
      have HRL := hide hRl
      have HRO := hide hRo
      have HIR := hide hiR
      have HZR := hide hZR
      have HW8 := hide hW8
      have HBZ := hide hBZ
      have HIB := hide hIB
      have HIL := hide hIl
      have HI1 := hide hI1
      have HII := hide hiI
      have HBS9 := hide hbs9
      have HB9 := hide hB9
      have HO9 := hide hO9
      have HG9 := hide hG9
      have HW9 := hide hW9'
      have HM9 := hide hM9
      have HP9 := hide hP9
      have HB89 := hide hB89
      have HHP := hide hh7
      have HRID := hide hrid
      rw [← hRC]
      clear cp hr hmin hp7 hRC hRl hRo hiR hZR hW8 hBZ hIB hIl hI1 hiI hbs9 hB9 hO9 hG9 hW9' hM9 hP9 hB89 hh7 hW7 hb7 hv7 hG7 hM7 hid7 hO7 hP7 hB8 g8 g9 g79 hW9 hv hrid
      go_wp2_with (first
        | (have hBB := unhide HBZ; refine wpList_store_row rfl 107 _ _ rfl w7.heap.size RC.toArray rfl rfl _ _ hBB (unhide HIR) (unhide HZR) (unhide HRO) ?_; clear hBB; rw [← unhide HW8])
        | (refine wpList_load_mid rfl 33 _ rfl w7.heap.size 0 rfl IB _ hr8 Tryz.underlying33 rfl (unhide HII) ?_; clear hr8)
        | (refine wpList_build1 rfl 29 _ rfl (.agg IB.toArray) _ rfl (unhide HBS9) ?_)
        | (refine wpList_append_idq rfl _ _ rfl w.heap.size _ _ _ rfl (unhide HO9) _ IB (unhide HB9) (unhide HIL) (unhide HI1) rfl hTl (unhide HG9).size ?_; intro gA cA wA hoA ggA hatA; have HA := hide (And.intro hoA (And.intro ggA hatA)); clear hoA ggA hatA; have hcA : wA.cell? ⟨w7.heap.size, 33, none⟩ = some (.slice r.po r.pars.length r.pc) := (by
            have hk := (unhide HB89).kept (unhide HA).2.1 (own_apart_t (unhide HO9) (unhide HB89) (by decide))
            rw [hk.cell, unhide HRC]
            exact (cmC_at r (unhide HRID)).2)))
      obtain ⟨hoA, ggA, hatA⟩ := unhide HA
      obtain ⟨hr, hmin, hp7⟩ := unhide HIa
      have hGA : w.grownBy wA none := gb_trans (unhide HG9) ggA (fun x e => Or.inl ((unhide HO9).lt x e).1)
      have hMA : MapAt wA (w.heap.size + 1) (metK K) := (unhide HM9).kept ggA ((unhide HM9).own (unhide HO9))
      have hWA : WaitAt wA w.heap.size (w.heap.size + 2) po v7 G := (unhide HW9).kept ggA (own_apart_t (unhide HO9) (unhide HW9).blk (by decide)) (by
        cases hvb : v7.ownBlock with
        | none => exact Or.inl rfl
        | some b =>
          refine Or.inr fun e => ?_
          have hib := own_idb (unhide HO9) e.symm
          exact hib.own (unhide HW9).own (by decide) hvb.symm)
      have hPA : ∀ q ∈ H, Ids wA q.po q.pc q.pars ∧ ∀ ad, q.po = some ad → IdB wA ad.block ∧ (Value.slice (some ⟨gA, 0, none⟩) (T.length + 1) cA).ownBlock ≠ some ad.block := fun q hq => by
        have hsame : ∀ ad, q.po = some ad → wA.heap[ad.block]? = W9.heap[ad.block]? := fun ad e => ggA.block _ ((unhide HP9 q hq).2 ad e).1.lt (fun e2 => ((unhide HP9 q hq).2 ad e).2 e2.symm)
        refine ⟨(unhide HP9 q hq).1.same hsame, fun ad e => ⟨((unhide HP9 q hq).2 ad e).1.same (hsame ad e), fun e2 => ?_⟩⟩
        have e3 : gA = ad.block := by simpa [Value.ownBlock] using e2
        rcases hatA with h1 | h1
        · exact ((unhide HP9 q hq).2 ad e).2 (by rw [← e3]; exact h1)
        · have := ((unhide HP9 q hq).2 ad e).1.lt
          omega
      have hrp : r.pars = prS S r.id := ((unhide HI).com r hr).2
      have hsub : ∀ q ∈ G, q ∈ H := fun q hq => hp7.mem_iff.1 (List.mem_append_left _ hq)
      obtain ⟨t1, t2, t3, t4, t5⟩ := (unhide HI).told hr hmin hp7
      have hGl : G.length ≤ H.length := by have := hp7.length_eq; simp at this; omega
      have hstA : LogSt w (w.heap.size + 1) (w.heap.size + 2) po S (T ++ [r.id]) (.slice (some ⟨gA, 0, none⟩) (T.length + 1) cA) (G.map (·.id)) G.length r.po r.pc (prS S r.id) wA K [] := by
        refine ⟨G, ⟨hGA, hMA, ⟨v7, hWA⟩, unhide HHP, fun q hq => hPA q (hsub q hq), ?_, by omega, unhide HS⟩, by simp, t4, t5, fun x hx => ((t3 x).1 hx).1, by simp, by simp, by simp, by rw [← hrp]; exact (hPA r hr).1, fun ad e => ((hPA r hr).2 ad e).1⟩
        have e1 : (T ++ [r.id]).length = T.length + 1 := by simp
        have e2 : (T ++ [r.id]).flatMap (·.map bv) = T.flatMap (·.map bv) ++ IB := by rw [unhide HIB]; simp
        rw [e1, e2]
        exact hoA
      have cm := meet_any wA 54 (.pointer (some ⟨w.heap.size + 2, 0, none⟩)) (w.heap.size + 1) r.po r.pc (prS S r.id) K [] _ (log_works w (w.heap.size + 1) (w.heap.size + 2) po S (T ++ [r.id]) (.slice (some ⟨gA, 0, none⟩) (T.length + 1) cA) (G.map (·.id)) G.length r.po r.pc (prS S r.id) (by have := unhide HHL; omega) (Nat.le_trans (prS_wide S r.id).1 (by decide))) hstA (Nat.zero_le _) (Nat.le_trans (prS_wide S r.id).1 (by decide))
      have e9 : (prS S r.id).length = r.pars.length := by rw [hrp]
      rw [e9] at cm
      have hTn : T.length < S.length + 1 := by
        have h2 := nodup_le t1.nodup (fun x hx => com_in (t1.com x hx))
        simp only [idsS, List.length_map, List.length_append, List.length_cons, List.length_nil] at h2
        omega
      have HTN := hide hTn
      obtain ⟨tl, htl⟩ : ∃ n, n = T.length := ⟨_, rfl⟩
      have HTLN := hide htl
      rw [← htl]
      clear hoA ggA hatA hr hmin hp7 hGA hMA hWA hPA hrp hsub t1 t2 t3 t4 t5 hGl hstA e9 hTn htl
      --MARKQ
      refine cm.mono ?_
      rintro e wB ⟨rfl, hSB⟩
      have HSB := hide hSB
      clear cm hSB
      go_wp2_with fail
      go_roundg (S.length + 1 - (T ++ [r.id]).length)
      case measure =>
        have h1 := unhide HK
        have h2 := unhide HTN
        simp only [List.length_append, List.length_cons, List.length_nil]
        omega
      case rel =>
        obtain ⟨hr, hmin, hp7⟩ := unhide HIa
        obtain ⟨E, q1, q2, q3, q4, q5, q6, q7, q8, q9, q10⟩ := unhide HSB
        rw [List.nil_append] at q2
        rw [unhide HTLN]
        exact ⟨_, _, E, q1, (unhide HI).next hr hmin hp7 q2 q3 q4, Nat.le_refl _⟩

end Go.Proofs.YtlifmipnoeioaaaGreatDoor

/- The small play of the law: a blob, and a commit that names it: what there is to tell. Pure; two sums are reckoned by the kernel. -/
namespace Go.Proofs.YtlifmipnoeioaaaGreatDoor
open Go.RowKit

def oneI : List UInt8 := shaL (putL 1 [97])
def oneC : ChgL := ⟨oneI, [], 1, [], []⟩
def oneD : List UInt8 := chgB oneC
def oneT : List UInt8 := shaL (putL 3 oneD)
theorem oneI_len : oneI.length = 32 := shaL_length _
theorem oneT_len : oneT.length = 32 := shaL_length _
theorem one_ne0 : (oneI == oneT) = false := by kernel_rfl
theorem one_ne : oneI ≠ oneT := beq_eq_false_iff_ne.1 one_ne0
theorem one_blob : checkL 1 [97] = 0 := by decide
theorem oneC_ok : oneC.Ok := ⟨oneI_len, by simp [oneC], by decide, by decide, by decide⟩
theorem one_dlen : oneD.length = 49 := by
  unfold oneD chgB oneC
  simp [oneI_len, lb_len, layS]
theorem one_of : ofChg oneC = (0, oneD) := by
  unfold ofChg
  rw [if_neg (by simp [oneC])]
  have h1 : onceTo oneC.pars oneC.pars.length = true := by decide
  rw [if_pos h1]
  unfold fitB
  rw [if_neg (by show ¬ 16384 < oneD.length; rw [one_dlen]; omega)]
  rfl
theorem one_read : readC oneD = oneC := readC_lay oneC (by simp [oneC]) oneC_ok
theorem one_tel : telC 3 oneD = (0, oneC) := by
  unfold telC
  rw [if_pos rfl, one_read, if_pos one_of]
theorem one_check : checkL 3 oneD = 0 := by
  unfold checkL
  rw [if_neg (by omega), if_neg (by rw [one_dlen]; omega), if_neg (by omega), if_pos rfl]
  unfold chgOf
  rw [one_read, if_pos one_of]
  rfl
theorem one_links : linksL 3 oneD = [oneI] := by
  unfold linksL
  rw [if_neg (by rw [one_check]; simp), if_neg (by omega), if_pos rfl]
  unfold chgOf
  rw [one_read, if_pos one_of]
  rfl
def oneS1 : List ObE := putS [] ⟨oneI, 1, [97]⟩
def oneS : List ObE := putS oneS1 ⟨oneT, 3, oneD⟩
theorem ris_nil : Ris (idsS []) := List.Pairwise.nil
theorem oneS1_ris : Ris (idsS oneS1) := putS_ris ris_nil _
theorem oneS_lkI : lkS oneS oneI = some ⟨oneI, 1, [97]⟩ := by
  unfold oneS
  rw [lkS_put oneS1_ris, if_neg one_ne]
  unfold oneS1
  rw [lkS_put ris_nil, if_pos rfl]
theorem oneS_lkT : lkS oneS oneT = some ⟨oneT, 3, oneD⟩ := by
  unfold oneS
  rw [lkS_put oneS1_ris, if_pos rfl]
theorem oneS_len : (idsS oneS).length = 2 := by
  unfold oneS oneS1 idsS
  simp only [putS, List.length_map]
  have h := one_ne
  simp only [if_neg h]
  split
  · rfl
  · rfl
theorem one_nxT : nxS oneS oneT = [oneI] := (congrArg nxO oneS_lkT).trans one_links
theorem one_l1 : linksL 1 [97] = [] := by decide
theorem one_nxI : nxS oneS oneI = [] := (congrArg nxO oneS_lkI).trans one_l1
theorem prO_some (e : ObE) : prO (some e) = (telC e.k e.d).2.pars := rfl
theorem comO_some (e : ObE) : comO (some e) = if (telC e.k e.d).1 = 0 then some (telC e.k e.d).2.time else none := rfl
theorem oneC_pars : oneC.pars = [] := rfl
theorem oneC_time : oneC.time = 1 := rfl
theorem one_prT : prS oneS oneT = [] := by
  unfold prS
  rw [oneS_lkT, prO_some]
  simp only
  rw [one_tel]
  exact oneC_pars
theorem one_rch (x : List UInt8) : Rch (nxS oneS) [oneT] x ↔ x = oneT ∨ x = oneI := by
  constructor
  · intro h
    induction h with
    | root hm => left; simpa using hm
    | next _ hm ih =>
      rcases ih with rfl | rfl
      · rw [one_nxT] at hm; right; simpa using hm
      · rw [one_nxI] at hm; simp at hm
  · rintro (rfl | rfl)
    · exact Rch.root (List.mem_singleton.2 rfl)
    · exact Rch.next (x := oneT) (Rch.root (List.mem_singleton.2 rfl)) (by rw [one_nxT]; simp)
theorem one_there {T : List (List UInt8)} (hr : Ris T) (h : ∀ x, x ∈ T ↔ Rch (nxS oneS) [oneT] x ∧ hasS oneS x = true) : T.length = 2 := by
  have hp : T.Perm [oneT, oneI] := (List.perm_ext_iff_of_nodup hr.nodup (by simp [Ne.symm one_ne])).2 fun x => by
    rw [h x, one_rch]
    constructor
    · intro hx; rcases hx.1 with rfl | rfl <;> simp
    · intro hx
      have hx' : x = oneT ∨ x = oneI := by simpa using hx
      refine ⟨hx', ?_⟩
      unfold hasS
      rcases hx' with rfl | rfl
      · rw [oneS_lkT]; rfl
      · rw [oneS_lkI]; rfl
  rw [hp.length_eq]; rfl
theorem one_missing {M : List (List UInt8)} (h : ∀ x, x ∈ M ↔ Rch (nxS oneS) [oneT] x ∧ hasS oneS x = false) : M = [] := by
  cases M with
  | nil => rfl
  | cons y M =>
    have := (h y).1 (by simp)
    have h2 := this.2
    unfold hasS at h2
    rcases (one_rch y).1 this.1 with rfl | rfl
    · rw [oneS_lkT] at h2; cases h2
    · rw [oneS_lkI] at h2; cases h2
theorem one_com : comS oneS oneT = some 1 := by
  unfold comS
  rw [oneS_lkT, comO_some]
  simp only
  rw [one_tel]
  simp only [if_true, oneC_time]
theorem one_log {T : List (List UInt8)} (h : LogOk oneS oneT T) : T = [oneT] := by
  refine h.one (Or.inr ⟨.one (by rw [one_com]; rfl), fun x hx => ?_⟩)
  obtain ⟨c, hc, hp⟩ := hx.1
  rw [List.mem_singleton.1 hc, one_prT] at hp
  simp at hp

end Go.Proofs.YtlifmipnoeioaaaGreatDoor
