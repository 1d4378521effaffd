/- What the law package's text answers; and an append of bytes where a region draws its order. No condition but those that each lemma names. -/
import Derived.Test.YtikdpifacokfpaaDoorKOne
import Derived.Test.YtikdpifacokfpaaDoorMStr
import Derived.Deep.AppendLies
namespace Go.Proofs.YtikdpifacokfpaaDoor
open Go.RowKit

theorem text_any (w : World) (ao : Option Addr) (c : Nat) (x : List UInt8) (hx : Bts w ao c x) (m : Nat) :
    Calls Tryd.prog 14 #[.slice ao x.length c, .int .i64 (m : Int)] w fun e w' => e = .returned (.slice ao (x.take m).length c) ∧ w' = w := by
  have hf := hx.fits
  by_cases h : m < x.length
  · have h2 : (m : Int) < (x.length : Int) := by omega
    have hto := fun W => slice_to (P := Tryd.prog) W 30 5 Tryd.underlying30 size_byte ao x.length c m (by omega)
    have hl : (x.take m).length = m := by rw [List.length_take]; omega
    rw [hl]
    clear hl hx hf h
    go_enter Tryd.func14, Tryd.ntmps14
    go_wp2
    go_ret
    exact ⟨rfl, rfl⟩
  · have h2 : ¬ (m : Int) < (x.length : Int) := by omega
    rw [List.take_of_length_le (by omega)]
    go_enter Tryd.func14, Tryd.ntmps14
    go_wp2
    go_ret
    exact ⟨rfl, rfl⟩

/-- 'append(own, x...)' at a step of a region that draws its order. -/
theorem step_append_bts {w : World} {ops : Array Oper} {o : Oper} {a : Act} {K : Act → World → Prop} {Q : Exit → Act → World → Prop} {E : Prop} (hw : Region.wanted o (yielded ops a.tmps) = true) (s x : Operand)
    (ho : o.op = .call { callee := .builtin .append, args := #[s, x], argTypes := #[30, 30] })
    (base : Nat) (v : Value) (n : Nat) (xs : List Value) (hs : a.eval s = v) (hown : w.ownsRow base 5 1 v n xs)
    (ao : Option Addr) (c : Nat) (l : List UInt8) (hb : Bts w ao c l) (m : Nat) (hm : m = l.length) (hx : a.eval x = .slice ao m c) (hn : n + l.length ≤ 140737488355328) (hbase : base ≤ w.heap.size)
    (h : ∀ v' w', w'.ownsRow base 5 1 v' (n + l.length) (xs ++ l.map bv) → w.grownBy w' v.ownBlock → K (a.put o.dst v') w') :
    if Region.wanted o (yielded ops a.tmps) = true then Oper.wp Tryd.prog o a w K Q else E := by
  subst hm
  rw [if_pos hw]
  obtain ⟨i0, hi, hz0, hz1, hz2⟩ := info_parts info_byte
  cases ao with
  | none =>
    have hz := hb.zip rfl
    have hx0 : l = [] := List.eq_nil_of_length_eq_zero hz.1
    have hc0 := hz.2
    subst hx0 hc0
    have hrun := run_append_owned_none (P := Tryd.prog) (w := w) base 30 o.type 5 i0 1 Tryd.underlying30 hi v n xs hown
    unfold Oper.wp
    simp [execOp, ho, resolve, invoke, builtin, hs, hx, hrun, Result.andThen]
    exact h v w (by simpa using hown) (gb_refl _ _)
  | some ad =>
    exact wp_append_own w s x 30 ho base 5 i0 (.int .u8 0) 1 1 Tryd.underlying30 hi hz0 hz1 hz2 rfl (by decide) v n xs hs hown ad l.length c (l.map bv) hx (by simp) (hb.news ad rfl) (bv_one l) (by unfold maxLen; omega) (by omega) hbase (fun v' w' q1 q2 _ => h v' w' q1 q2)

/-- Blocks that P names are as they were. -/
def Kp (P : Nat → TypeId → Prop) (a c : World) : Prop := ∀ b t cs, P b t → Blk a b t cs → Blk c b t cs
theorem Kp.use {P : Nat → TypeId → Prop} {a c : World} {b : Nat} {t : TypeId} {cs : List Value} (h : Blk a b t cs) (k : Kp P a c) (hp : P b t) : Blk c b t cs := k b t cs hp h
theorem Kp.use' {P : Nat → TypeId → Prop} {a c : World} {b : Nat} {t : TypeId} {cs : List Value} (k : Kp P a c) (hp : P b t) (h : Blk a b t cs) : Blk c b t cs := k b t cs hp h
theorem Blk.newAt {w : World} {n : Nat} {t : TypeId} {cs : List Value} (h : w.heap.size = n) : Blk (w.alloc (.cells cs.toArray t)) n t cs := by
  subst h; exact Blk.new w t cs
theorem kp_all {a c : World} (g : a.grownBy c none) : Kp (fun _ _ => True) a c := fun _ _ _ _ h => h.kept g (by simp)

theorem Blk.typ {w : World} {b : Nat} {t : TypeId} {cs : List Value} (h : Blk w b t cs) (ht : t ≠ 5) : ¬ Typ w b := by
  rintro ⟨cur, m, h2⟩
  unfold Blk at h
  rw [h] at h2
  injection h2 with h3
  injection h3 with _ h4
  exact ht h4

/-- 'append([]byte{}, l...)' there. -/
theorem step_app_a {w Vx : World} {g : Nat} (gV : w.grownBy Vx none) (hB : Blk Vx g 5 []) (hg : w.heap.size ≤ g) {ops : Array Oper} {o : Oper} {a : Act} {K : Act → World → Prop} {Q : Exit → Act → World → Prop} {E : Prop} (hw : Region.wanted o (yielded ops a.tmps) = true) (s x : Operand)
    (ho : o.op = .call { callee := .builtin .append, args := #[s, x], argTypes := #[30, 30] }) (hs : a.eval s = .slice (some ⟨g, 0, none⟩) 0 0)
    (ao : Option Addr) (c : Nat) (l : List UInt8) (hb : Bts w ao c l) (hx : a.eval x = .slice ao l.length c) (hn : l.length ≤ 1000000)
    (h : ∀ lo c5 w1, Bts w1 lo c5 l → w1.ownsRow w.heap.size 5 1 (.slice lo l.length c5) l.length (l.map bv) → Kp (fun b t => b ≠ g ∨ t ≠ 5) Vx w1 → w.grownBy w1 none → w.heap.size ≤ w1.heap.size → K (a.put o.dst (.slice lo l.length c5)) w1) :
    if Region.wanted o (yielded ops a.tmps) = true then Oper.wp Tryd.prog o a Vx K Q else E := by
  have hown : Vx.ownsRow w.heap.size 5 1 (.slice (some ⟨g, 0, none⟩) 0 0) 0 [] := ⟨by simp, .inr ⟨g, 0, #[], rfl, hg, hB, Nat.le_refl _, by unfold maxLen; omega, by simp, by simp⟩⟩
  refine step_append_bts hw s x ho w.heap.size _ 0 [] hs hown ao c l (hb.kept gV (fun _ e => by cases e)) _ rfl hx (by omega) gV.size (fun v' w1 o1 q1 => ?_)
  rw [List.nil_append, Nat.zero_add] at o1
  have G1 : w.grownBy w1 none := gb_trans gV q1 (fun y e => by cases e; exact Or.inl hg)
  obtain ⟨lo, c5, rfl, hb1, _⟩ := NewB.own o1
  exact h lo c5 w1 hb1 o1 (fun b t cs hp hk => hk.kept q1 (fun e => by
    have e2 : b = g := by simpa [Value.ownBlock] using e
    rcases hp with hp | hp
    · exact hp e2
    · exact hk.typ hp (by rw [e2]; exact ⟨_, _, hB⟩))) G1 G1.size

/-- 'append(own, 0)' there. -/
theorem step_app_b {w Vx : World} {lo : Option Addr} {c5 gz : Nat} {l : List UInt8} (gV : w.grownBy Vx none) (hO : Vx.ownsRow w.heap.size 5 1 (.slice lo l.length c5) l.length (l.map bv)) (hZ : Blk Vx gz 5 [.int .u8 0]) {ops : Array Oper} {o : Oper} {a : Act} {K : Act → World → Prop} {Q : Exit → Act → World → Prop} {E : Prop} (hw : Region.wanted o (yielded ops a.tmps) = true) (s x : Operand)
    (ho : o.op = .call { callee := .builtin .append, args := #[s, x], argTypes := #[30, 30] }) (hs : a.eval s = .slice lo l.length c5)
    (hx : a.eval x = .slice (some ⟨gz, 0, none⟩) 1 1) (hn : l.length ≤ 1000000) (l2 : List UInt8) (hl2 : l2 = l ++ [0])
    (h : ∀ lo' c' w1, Bts w1 lo' c' l2 → Kp (fun _ t => t ≠ 5) Vx w1 → w.grownBy w1 none → w.heap.size ≤ w1.heap.size → K (a.put o.dst (.slice lo' l2.length c')) w1) :
    if Region.wanted o (yielded ops a.tmps) = true then Oper.wp Tryd.prog o a Vx K Q else E := by
  have hz : Bts Vx (some ⟨gz, 0, none⟩) 1 [0] := bts_row (t := 5) hZ 1 (by simp) (by unfold maxLen; omega)
  refine step_append_bts hw s x ho w.heap.size _ l.length (l.map bv) hs hO _ 1 [0] hz 1 rfl hx (by simp; omega) gV.size (fun v' w1 o1 q1 => ?_)
  have G1 : w.grownBy w1 none := gb_trans gV q1 (fun y e => Or.inl (hO.lt y e).1)
  have o2 : w1.ownsRow w.heap.size 5 1 v' l2.length (l2.map bv) := by rw [hl2]; simpa using o1
  obtain ⟨lo', c', rfl, hb1, _⟩ := NewB.own o2
  refine h lo' c' w1 hb1 (fun b t cs hp hk => hk.kept q1 (fun e => ?_)) G1 G1.size
  refine hk.typ hp ?_
  rcases hO.2 with ⟨h3, _⟩ | ⟨g', cap', cur, hv, _, hh, _⟩
  · rw [h3] at e; cases e
  · rw [hv] at e
    have e2 : b = g' := by simpa [Value.ownBlock] using e
    rw [e2]
    exact ⟨cur, _, hh⟩

theorem str_beq (a b : List UInt8) : ((str a).toList == (str b).toList) = decide (a = b) := by
  rw [str_list, str_list]
  by_cases e : a = b
  · subst e; simp
  · simp [e]

end Go.Proofs.YtikdpifacokfpaaDoor
