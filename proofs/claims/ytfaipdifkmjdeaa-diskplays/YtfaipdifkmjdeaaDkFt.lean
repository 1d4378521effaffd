/- What the law's Fates (package coffretlaw14) answers: the first 500 numbers, as fates. -/
import Derived.Test.YtfaipdifkmjdeaaDkO
import Derived.Test.YtfaipdifkmjdeaaDkAct
namespace Go.Proofs.Ytfaipdifkmjdeaa
open Go.RowKit

/-- A number as a cell. -/
def ivc (z : Int) : Value := .int .i64 z
theorem ivc_one (L : List Int) : ∀ u ∈ L.map ivc, u.oneCell' = true := by
  intro u hu
  obtain ⟨_, _, rfl⟩ := List.mem_map.1 hu
  rfl
theorem info_fate : (Try.prog.info? 63).map (fun i => (i.zero, i.size, i.bytes)) = some (some (.int .i64 0), 1, 8) := by kernel_rfl
theorem wpList_append_fate {w : World} {ops : Array Oper} {rest : List Oper} {o : Oper} {a : Act} {Q : Exit → Act → World → Prop} (hgd : o.guard = none) (s x : Operand)
    (ho : o.op = .call { callee := .builtin .append, args := #[s, x], argTypes := #[43, 43] })
    (base : Nat) (v : Value) (n : Nat) (xs : List Value) (hs : a.eval s = v) (hown : w.ownsRow base 63 1 v n xs) (p : Nat) (y : Int) (hB : Blk w p 63 [ivc y])
    (hx : a.eval x = .slice (some ⟨p, 0, none⟩) 1 1) (hn : n ≤ 1000000) (hbase : base ≤ w.heap.size)
    (h : ∀ v' w', w'.ownsRow base 63 1 v' (n + 1) (xs ++ [ivc y]) → w.grownBy w' v.ownBlock → wpList Try.prog ops Q rest (a.put o.dst v') w') : wpList Try.prog ops Q (o :: rest) a w := by
  obtain ⟨i0, hi, hz0, hz1, hz2⟩ := info_parts info_fate
  exact wpList_append_own w hgd s x 43 ho base 63 i0 (.int .i64 0) 1 8 Try.underlying43 hi hz0 hz1 hz2 rfl (by decide) v n xs hs hown ⟨p, 0, none⟩ 1 1 [ivc y] hx rfl (fun j u hu => World.news_of_block hB j u (by simpa using hu)) (fun u hu => by simp at hu; subst hu; rfl) (by unfold maxLen; omega) (by omega) hbase (fun v' w' q1 q2 _ => h v' w' q1 q2)

theorem nts_own {w : World} {base : Nat} {v : Value} {t : TypeId} {L : List Int} (h : w.ownsRow base t 1 v L.length (L.map ivc)) : ∃ ao c, v = .slice ao L.length c ∧ Nts w ao c L ∧ ∀ ad, ao = some ad → base ≤ ad.block := by
  rcases h.2 with ⟨rfl, h2⟩ | ⟨g, cap, cur, rfl, hg, hh, h3, h4, h5, h6⟩
  · have : L = [] := List.eq_nil_of_length_eq_zero h2
    subst this
    exact ⟨none, 0, rfl, ⟨fun _ => ⟨rfl, rfl⟩, Nat.le_refl _, Nat.zero_le _, (fun _ e => by cases e), (fun _ e => by cases e)⟩, fun _ e => by cases e⟩
  · refine ⟨_, _, rfl, ⟨(fun e => by cases e), h3, h4, (fun ad e _ => by cases e; rfl), fun ad e i hi => ?_⟩, fun ad e => by cases e; exact hg⟩
    cases e
    have h7 : (cur.toList.take (L.length * 1))[i]? = (L.map ivc)[i]? := by rw [h6]
    rw [List.getElem?_take_of_lt (by omega)] at h7
    simp [World.cell?, hh, hi, ivc] at h7 ⊢
    exact h7

set_option maxRecDepth 100000 in
set_option maxHeartbeats 2000000 in
theorem lfates_any (w : World) (fo : Option Addr) (fc : Nat) (L : List Int) (hL : Nts w fo fc L) :
    Calls Try.prog 16 #[.slice fo L.length fc] w fun e w' => ∃ ao c, e = .returned (.slice ao (L.take 500).length c) ∧ Nts w' ao c (L.take 500) ∧ (∀ ad, ao = some ad → w.heap.size ≤ ad.block) ∧ w.grownBy w' none := by
  obtain ⟨n, hn⟩ : ∃ n, n = L.length := ⟨_, rfl⟩
  have HN := hide hn
  have HL := hide hL
  rw [← hn]
  clear hn hL
  go_enter Try.func16, Try.ntmps16
  go_wp2
  go_loopw [3, 4] (fun v i wr => ∃ j : Nat, i = .int .i64 j ∧ j ≤ n ∧ j ≤ 500 ∧ Hid (wr.ownsRow w.heap.size 63 1 v j ((L.take j).map ivc) ∧ w.grownBy wr none)) (fun _ i _ => n - (intOf i).toNat)
  case atStart => exact ⟨0, rfl, Nat.zero_le _, Nat.zero_le _, World.ownsRow_nil _ _ _ _, gb_refl _ _⟩
  case round =>
    obtain ⟨j, rfl, hj, hj5, HR⟩ := hrel
    by_cases hlt : j < n
    · have hd1 : decide ((j : Int) < (n : Int)) = true := by simp; omega
      by_cases h5 : j < 500
      · have hlt' : j < L.length := by have := unhide HN; omega
        obtain ⟨b, o, hfo, hcell⟩ := ((unhide HL).kept (unhide HR).2).at j hlt'
        obtain ⟨y, hy⟩ : ∃ y, y = L[j] := ⟨_, rfl⟩
        rw [← hy] at hcell
        obtain ⟨W1, hW1, hB1, g1⟩ := box_new wr 63 [ivc y]
        have ho1 : W1.ownsRow w.heap.size 63 1 u3 j ((L.take j).map ivc) := (unhide HR).1.kept g1 (by cases u3.ownBlock <;> simp)
        have hb1 : w.heap.size ≤ W1.heap.size := Nat.le_trans (unhide HR).2.size g1.size
        have G1 := tn (unhide HR).2 g1
        have hsn : (L.take (j + 1)).map ivc = (L.take j).map ivc ++ [ivc y] := by rw [List.take_succ_eq_append_getElem hlt', List.map_append, ← hy]; rfl
        have HW1 := hide (show W1 = wr.alloc (.cells #[.int .i64 y] 63) from hW1)
        have HB1 := hide hB1
        have HO1 := hide ho1
        have HG1 := hide G1
        have HSN := hide hsn
        have hjw : IntKind.i64.wrap ((j : Int) + 1) = (j : Int) + 1 := by rw [IntKind.wrap_i64]; omega
        have hj1 : j ≤ 1000000 := by omega
        clear hy hW1 hB1 ho1 g1 G1 hsn HR hlt'
        subst hfo
        go_wp2_with (rw [← unhide HW1]; refine wpList_append_fate rfl _ _ rfl w.heap.size u3 j _ rfl (unhide HO1) wr.heap.size y (unhide HB1) rfl hj1 hb1 ?_; intro v5 w5 ho5 g5; have HQ := hide (And.intro ho5 (gb_trans (unhide HG1) g5 (fun x e => Or.inl ((unhide HO1).lt x e).1))); obtain ⟨a5, c5, rfl⟩ := own_val ho5; clear ho5 g5)
        go_roundw
        case rel =>
          refine ⟨j + 1, by go_num, by omega, by omega, ?_, (unhide HQ).2⟩
          rw [unhide HSN]
          exact (unhide HQ).1
        case measure => simp [intOf]; omega
      · have hj5' : j = 500 := by omega
        have hd2 : ¬ (j : Int) < 500 := by omega
        obtain ⟨a5, c5, hv⟩ := own_val (unhide HR).1
        have hln : (L.take 500).length = j := by have := unhide HN; rw [List.length_take]; omega
        have hfin := (unhide HR).1
        rw [hj5'] at hfin
        have hfin2 : wr.ownsRow w.heap.size 63 1 u3 (L.take 500).length ((L.take 500).map ivc) := by rw [hln, hj5']; exact hfin
        obtain ⟨ao, c, hv2, q1, q2⟩ := nts_own hfin2
        subst hv2
        have HF := hide (And.intro q1 (And.intro q2 (unhide HR).2))
        clear q1 q2 hfin hfin2 hv hln HR hj5'
        go_wp2
        go_ret
        exact ⟨ao, c, rfl, unhide HF⟩
    · have hjn : j = n := by omega
      have hd1 : decide ((j : Int) < (n : Int)) = false := by simp; omega
      have hln : (L.take 500).length = j := by have := unhide HN; rw [List.length_take]; omega
      have hfin2 : wr.ownsRow w.heap.size 63 1 u3 (L.take 500).length ((L.take 500).map ivc) := by
        have h6 := (unhide HR).1
        have e7 : L.take j = L.take 500 := by
          have := unhide HN
          rw [List.take_of_length_le (by omega), List.take_of_length_le (by omega)]
        rw [e7] at h6
        rw [hln]
        exact h6
      obtain ⟨ao, c, hv2, q1, q2⟩ := nts_own hfin2
      subst hv2
      have HF := hide (And.intro q1 (And.intro q2 (unhide HR).2))
      clear q1 q2 hfin2 hln HR hjn
      go_wp2
      go_ret
      exact ⟨ao, c, rfl, unhide HF⟩

end Go.Proofs.Ytfaipdifkmjdeaa
