/- A pile of names: what graph's pile.put and pile.take leave. Of at most 100000 names. -/
import Derived.Test.YtlifmipnoeioaaaGreatDoorGHas
import Derived.Test.YtlifmipnoeioaaaGreatDoorORdP
import Derived.Deep.AppendLies
namespace Go.Proofs.YtlifmipnoeioaaaGreatDoor
open Go.RowKit

theorem step_append_pile {w : World} {ops : Array Oper} {o : Oper} {a : Act} {K : Act → World → Prop} {Q : Exit → Act → World → Prop} {E : Prop} (hw : Region.wanted o (yielded ops a.tmps) = true) (s x : Operand)
    (ho : o.op = .call { callee := .builtin .append, args := #[s, x], argTypes := #[134, 134] })
    (base : Nat) (v : Value) (n : Nat) (xs : List Value) (hs : a.eval s = v) (hown : w.ownsRow base 33 32 v n xs) (p : Nat) (EC : List Value) (hB : Blk w p 33 EC) (hEl : EC.length = 32) (hE1 : ∀ u ∈ EC, u.oneCell' = true)
    (hx : a.eval x = .slice (some ⟨p, 0, none⟩) 1 1) (hn : n ≤ 100000) (hbase : base ≤ w.heap.size)
    (h : ∀ g c w', w'.ownsRow base 33 32 (.slice (some ⟨g, 0, none⟩) (n + 1) c) (n + 1) (xs ++ EC) → w.grownBy w' v.ownBlock → (v.ownBlock = some g ∨ g = w.heap.size) → K (a.put o.dst (.slice (some ⟨g, 0, none⟩) (n + 1) c)) w') :
    if Region.wanted o (yielded ops a.tmps) = true then Oper.wp Tryz.prog o a w K Q else E := by
  rw [if_pos hw]
  obtain ⟨i0, hi, hz0, hz1, hz2⟩ := info_parts info_idp
  exact wp_append_lies w s x 134 ho base 33 i0 _ 32 32 Tryz.underlying134 hi hz0 hz1 hz2 rfl (by decide) v n xs hs hown ⟨p, 0, none⟩ 1 1 EC hx (by rw [hEl]) (fun j u hu => World.news_of_block hB j u (by simpa using hu)) hE1 (by decide) (by unfold maxLen; omega) (by omega) hbase _ rfl (fun g c w' q1 q2 q3 _ => h g c w' q1 q2 q3)
theorem bs_pile (t : List UInt8) (h : t.length = 32) (V : World) : (Instr.buildSlice 134 1 #[(0, .agg (t.map bv).toArray)]).run Tryz.prog V = .ok (.slice (some ⟨V.heap.size, 0, none⟩) 1 1) (V.alloc (.cells (t.map bv).toArray 33)) := by
  obtain ⟨a0, a1, a2, a3, a4, a5, a6, a7, a8, a9, a10, a11, a12, a13, a14, a15, a16, a17, a18, a19, a20, a21, a22, a23, a24, a25, a26, a27, a28, a29, a30, a31, rfl⟩ := list32 t h
  kernel_rfl

/-- The block pb is a pile of names, whose row is not older than base. -/
structure PileAt (w : World) (base pb : Nat) (v : Value) (L : List (List UInt8)) : Prop where
  blk : Blk w pb 134 [v]
  own : w.ownsRow base 33 32 v L.length (L.flatMap (·.map bv))
  ids : ∀ x ∈ L, x.length = 32
  nb : base ≤ pb
theorem PileAt.kept {w a : World} {base pb : Nat} {v : Value} {L : List (List UInt8)} {r : Option Nat} (h : PileAt w base pb v L) (g : w.grownBy a r) (h1 : some pb ≠ r) (h2 : v.ownBlock = none ∨ v.ownBlock ≠ r) : PileAt a base pb v L :=
  ⟨h.blk.kept g h1, h.own.kept g h2, h.ids, h.nb⟩
theorem PileAt.none {w a : World} {base pb : Nat} {v : Value} {L : List (List UInt8)} (h : PileAt w base pb v L) (g : w.grownBy a Option.none) : PileAt a base pb v L :=
  h.kept g (by simp) (by cases v.ownBlock <;> simp)

/-- Nothing has changed but the pile, its row, and new memory. -/
structure ByPile (w a : World) (pb : Nat) (v : Value) : Prop where
  os : a.os = w.os
  tape : a.tape = w.tape
  output : a.output = w.output
  size : w.heap.size ≤ a.heap.size
  block : ∀ k, k < w.heap.size → k ≠ pb → some k ≠ v.ownBlock → a.heap[k]? = w.heap[k]?
theorem byPile_gb {u w a : World} {base pb : Nat} {v : Value} {L : List (List UInt8)} (g : u.grownBy w none) (hp : PileAt w base pb v L) (h : ByPile w a pb v) (hb : u.heap.size ≤ base) : u.grownBy a none :=
  ⟨h.os.trans g.os, h.tape.trans g.tape, h.output.trans g.output, Nat.le_trans g.size h.size, fun k hk _ => by
    have h2 := hp.nb
    rw [h.block k (Nat.lt_of_lt_of_le hk g.size) (by omega) (fun e => by have := (hp.own.lt k e.symm).1; omega), g.block k hk (by simp)]⟩

set_option maxRecDepth 100000 in
set_option maxHeartbeats 2000000 in
theorem pput_any (w : World) (base pb : Nat) (v : Value) (L : List (List UInt8)) (h : PileAt w base pb v L) (x : List UInt8) (hx : x.length = 32) (hL : L.length ≤ 100000) :
    Calls Tryz.prog 74 #[.pointer (some ⟨pb, 0, none⟩), keyV x] w fun e w' => e = .returned (.tuple #[]) ∧ ∃ v', PileAt w' base pb v' (L ++ [x]) ∧ ByPile w w' pb v ∧ (∀ k, v'.ownBlock = some k → v.ownBlock = some k ∨ w.heap.size ≤ k) := by
  obtain ⟨KB, hKB⟩ : ∃ KB, KB = x.map bv := ⟨_, rfl⟩
  have hKl : KB.length = 32 := by rw [hKB]; simp [hx]
  have hkv : keyV x = .agg KB.toArray := by rw [hKB]; rfl
  have hK1 : ∀ u ∈ KB, u.oneCell' = true := by rw [hKB]; exact bv_one _
  obtain ⟨W1, hW1, hB1, g1⟩ := box_new w 33 KB
  have hiK : (Tryz.prog.info? 33).map (·.size) = some KB.length := by rw [hKl]; exact info_id
  have hbs : ∀ V : World, (Instr.buildSlice 134 1 #[(0, .agg KB.toArray)]).run Tryz.prog V = .ok (.slice (some ⟨V.heap.size, 0, none⟩) 1 1) (V.alloc (.cells KB.toArray 33)) := fun V => by rw [hKB]; exact bs_pile x hx V
  have h0 : W1.drew.rangeAt w.heap.size 0 KB := blk_all hB1.drew
  have hD := (h.none g1).none (gb_drew (gb_refl W1 none))
  have hlt := h.blk.lt
  have hba : base ≤ W1.drew.heap.size := Nat.le_trans h.nb (Nat.le_of_lt (Nat.lt_of_lt_of_le hlt g1.size))
  obtain ⟨aV, cV, rfl⟩ := own_sl h.own
  obtain ⟨v, hv⟩ : ∃ v : Value, v = .slice aV L.length cV := ⟨_, rfl⟩
  rw [← hv] at h hD ⊢
  have HNW : Hid (some w.heap.size ≠ v.ownBlock) := fun e => by have := (h.own.lt _ e.symm).2; omega
  have HNP : Hid (some w.heap.size ≠ some pb) := fun e => by cases e; omega
  have HFIN : Hid (∀ w5 w6 g6b c6, W1.drew.grownBy w5 none → w5.ownsRow base 33 32 v L.length (L.flatMap (·.map bv)) → w5.grownBy w6 v.ownBlock → w6.ownsRow base 33 32 (.slice (some ⟨g6b, 0, none⟩) (L.length + 1) c6) (L.length + 1) (L.flatMap (·.map bv) ++ KB) → Blk w6 pb 134 [v] → (v.ownBlock = some g6b ∨ g6b = w5.heap.size) →
      ∃ v', PileAt (w6.setCell ⟨pb, 0, none⟩ (.slice (some ⟨g6b, 0, none⟩) (L.length + 1) c6)) base pb v' (L ++ [x]) ∧ ByPile w (w6.setCell ⟨pb, 0, none⟩ (.slice (some ⟨g6b, 0, none⟩) (L.length + 1) c6)) pb v ∧ (∀ k, v'.ownBlock = some k → v.ownBlock = some k ∨ w.heap.size ≤ k)) := by
    intro w5 w6 g6b c6 g5 hO5 g6 hO6 hB6 hat
    have gs := gb_set w6 pb 0 (.slice (some ⟨g6b, 0, none⟩) (L.length + 1) c6)
    have gw5 : w.grownBy w5 none := tn (gb_drew g1) g5
    refine ⟨.slice (some ⟨g6b, 0, none⟩) (L.length + 1) c6, ⟨hB6.set 0 _, ?_, fun y hy => ?_, h.nb⟩, ⟨?_, ?_, ?_, ?_, fun k hk h1 h2 => ?_⟩, fun k hk => ?_⟩
    · have e1 : (L ++ [x]).length = L.length + 1 := by simp
      have e2 : (L ++ [x]).flatMap (·.map bv) = L.flatMap (·.map bv) ++ KB := by rw [hKB]; simp
      rw [e1, e2]
      exact hO6.kept gs (Or.inr fun e => own_apart_t hO6 hB6 (by decide) e.symm)
    · rcases List.mem_append.1 hy with hy | hy
      · exact h.ids y hy
      · rw [List.mem_singleton.1 hy]; exact hx
    · exact gs.os.trans (g6.os.trans gw5.os)
    · exact gs.tape.trans (g6.tape.trans gw5.tape)
    · exact gs.output.trans (g6.output.trans gw5.output)
    · exact Nat.le_trans gw5.size (Nat.le_trans g6.size gs.size)
    · have k5 : k < w5.heap.size := Nat.lt_of_lt_of_le hk gw5.size
      rw [gs.block k (Nat.lt_of_lt_of_le k5 g6.size) (fun e => h1 (by cases e; rfl)), g6.block k k5 h2, gw5.block k hk (by simp)]
    · have hk2 : g6b = k := by simpa [Value.ownBlock] using hk
      rcases hat with h1 | h1
      · left; rw [← hk2]; exact h1
      · right; have := gw5.size; omega
  have hHD : Hid (Blk W1.drew pb 134 [v]) := hD.blk
  have hHO : Hid (W1.drew.ownsRow base 33 32 v L.length (L.flatMap (·.map bv))) := hD.own
  have HBD := hHD
  have HOD := hHO
  rw [hkv]
  have HW1 := hide hW1
  have HIK := hide hiK
  have HKL := hide hKl
  have HK1 := hide hK1
  have HBS := hide hbs
  have HN := hide hL
  have HBA := hide hba
  have HV := hide hv
  clear hHD hHO hD hlt hba hKB hKl hkv hK1 hW1 hB1 hiK hbs h hx hL hv g1
  go_enter Tryz.func74, Tryz.ntmps74
  go_upto_region 1 with (rw [← unhide HW1])
  refine wp_region_noPanic ?_
  refine wp_region_held_drew (S := fun V => V.rangeAt w.heap.size 0 KB) (by kernel_rfl) h0 (fun _ => ?_)
  obtain ⟨WD, hWD⟩ : ∃ V, V = W1.drew := ⟨_, rfl⟩
  rw [← hWD]
  rw [← hWD] at h0 HBD HOD HFIN HBA
  clear hWD
  refine wpAnyH_take (i := 0) (oi := ⟨some 4, .move (.tmp 0), _, _, _, _⟩) (v := .pointer (some ⟨pb, 0, none⟩)) rfl (by kernel_rfl) (by kernel_rfl) (by kernel_rfl) (fun _ _ _ h => h) (Or.inl ⟨by rfl, fun V (hV : V.rangeAt w.heap.size 0 KB) => by go_simp⟩) h0 ?_
  (try simp only [Act.put, pq1, pq2, pq3])
  refine wpAnyH_take (i := 1) (oi := ⟨some 5, .move (.tmp 0), _, _, _, _⟩) (v := .pointer (some ⟨pb, 0, none⟩)) rfl (by kernel_rfl) (by kernel_rfl) (by kernel_rfl) (fun _ _ _ h => h) (Or.inl ⟨by rfl, fun V (hV : V.rangeAt w.heap.size 0 KB) => by go_simp⟩) h0 ?_
  (try simp only [Act.put, pq1, pq2, pq3])
  refine wpAnyH_take (i := 4) (oi := ⟨some 8, .load 33 (.tmp 3), _, _, _, _⟩) (v := .agg KB.toArray) rfl (by kernel_rfl) (by kernel_rfl) (by kernel_rfl) (fun _ _ _ h => h) (yieldsIf_load_mid (by rfl) _ _ rfl _ _ rfl KB _ (fun V hV => hV) Tryz.underlying33 rfl (unhide HIK)) h0 ?_
  (try simp only [Act.put, pq1, pq2, pq3])
  refine wpAnyH_take (i := 2) (oi := ⟨some 6, .nilCheck (.tmp 5), _, _, _, _⟩) (v := .pointer (some ⟨pb, 0, none⟩)) rfl (by kernel_rfl) (by kernel_rfl) (by kernel_rfl) (fun _ _ _ h => h) (Or.inl ⟨by rfl, fun V (hV : V.rangeAt w.heap.size 0 KB) => by go_simp⟩) h0 ?_
  (try simp only [Act.put, pq1, pq2, pq3])
  refine wpAnyH_ready (rs := [3, 5]) (by kernel_rfl) (by simp) ?_
  refine AllReadyH.cons (o := ⟨some 7, .load 134 (.tmp 6), _, _, _, _⟩) rfl (fun K9 hK9 => ?_) (AllReadyH.cons (o := ⟨some 9, .buildSlice 134 1 #[(0, (.tmp 8))], _, _, _, _⟩) rfl (fun K9 hK9 => ?_) AllReadyH.nil)
  · have z9 := (unhide HBD).cell 0
    simp only [List.getElem?_cons_zero] at z9
    go_simp
    clear z9
    refine hK9.out _ _ h0 (fun _ => ?_)
    clear hK9 K9
    (try simp only [Act.put, pq1, pq2, pq3])
    refine wpAnyH_ready (rs := [5]) (by kernel_rfl) (by simp) ?_
    refine AllReadyH.cons (o := ⟨some 9, .buildSlice 134 1 #[(0, (.tmp 8))], _, _, _, _⟩) rfl (fun K9 hK9 => ?_) AllReadyH.nil
    obtain ⟨w5, hw5, hE5, g5⟩ := box_new WD 33 KB
    refine step_build1 (by rfl) 134 _ rfl (.agg KB.toArray) _ rfl (unhide HBS WD) ?_
    rw [← hw5]
    have h5 := range_kept h0 g5 (by simp)
    refine hK9.out _ _ h5 (fun _ => ?_)
    clear hK9 K9 hw5
    (try simp only [Act.put, pq1, pq2, pq3])
    have hO5 := own_id (unhide HOD) g5 (fun x e => by cases e)
    have hB5 := (unhide HBD).kept g5 (by simp)
    have hG5 := tn (gb_refl WD none) g5
    refine wpAnyH_ready (rs := [6]) (by kernel_rfl) (by simp) ?_
    refine AllReadyH.cons (o := ⟨some 10, .call { callee := .builtin .append, args := #[(.tmp 7), (.tmp 9)], argTypes := #[134, 134] }, _, _, _, _⟩) rfl (fun K9 hK9 => ?_) AllReadyH.nil
    refine step_append_pile (by rfl) _ _ rfl base v _ _ rfl hO5 _ KB hE5 (unhide HKL) (unhide HK1) rfl (unhide HN) (Nat.le_trans (unhide HBA) hG5.size) ?_
    intro gb6 c6 w6 hO6 g6 hat6
    have h6 := range_kept h5 g6 (unhide HNW)
    refine hK9.out _ _ h6 (fun _ => ?_)
    clear hK9 K9
    (try simp only [Act.put, pq1, pq2, pq3])
    have hB6 := hB5.kept g6 (own_apart_t hO5 hB5 (by decide))
    have q6 := hB6.cell 0
    simp only [List.getElem?_cons_zero] at q6
    have f6 := hB6.fz 0
    refine wpAnyH_take (i := 7) (oi := ⟨some 11, .nilCheck (.tmp 4), _, _, _, _⟩) (v := .pointer (some ⟨pb, 0, none⟩)) rfl (by kernel_rfl) (by kernel_rfl) (by kernel_rfl) (fun _ _ _ h => h) (Or.inl ⟨by rfl, fun V (hV : V.rangeAt w.heap.size 0 KB) => by go_simp⟩) h6 ?_
    (try simp only [Act.put, pq1, pq2, pq3])
    refine wpAnyH_ready (rs := [8]) (by kernel_rfl) (by simp) ?_
    refine AllReadyH.cons (o := ⟨none, .store 134 (.tmp 11) (.tmp 10), _, _, _, _⟩) rfl (fun K9 hK9 => ?_) AllReadyH.nil
    go_simp
    have h7 := range_kept h6 (gb_set w6 pb 0 (.slice (some ⟨gb6, 0, none⟩) (L.length + 1) c6)) (unhide HNP)
    refine hK9.out _ _ h7 (fun _ => ?_)
    clear hK9 K9
    (try simp only [Act.put, pq1, pq2, pq3])
    refine wpAnyH_done (by kernel_rfl) ?_ _
    refine NoPanic.normal ?_
    clear q6 f6
    go_wp2
    go_end0
    exact ⟨rfl, unhide HFIN w5 w6 gb6 c6 hG5 hO5 g6 hO6 hB6 hat6⟩
  · obtain ⟨w5, hw5, hE5, g5⟩ := box_new WD 33 KB
    refine step_build1 (by rfl) 134 _ rfl (.agg KB.toArray) _ rfl (unhide HBS WD) ?_
    rw [← hw5]
    have h5 := range_kept h0 g5 (by simp)
    refine hK9.out _ _ h5 (fun _ => ?_)
    clear hK9 K9 hw5
    (try simp only [Act.put, pq1, pq2, pq3])
    have hO5 := own_id (unhide HOD) g5 (fun x e => by cases e)
    have hB5 := (unhide HBD).kept g5 (by simp)
    have hG5 := tn (gb_refl WD none) g5
    refine wpAnyH_ready (rs := [3]) (by kernel_rfl) (by simp) ?_
    refine AllReadyH.cons (o := ⟨some 7, .load 134 (.tmp 6), _, _, _, _⟩) rfl (fun K9 hK9 => ?_) AllReadyH.nil
    have z9 := (hB5).cell 0
    simp only [List.getElem?_cons_zero] at z9
    go_simp
    clear z9
    refine hK9.out _ _ h5 (fun _ => ?_)
    clear hK9 K9
    (try simp only [Act.put, pq1, pq2, pq3])
    refine wpAnyH_ready (rs := [6]) (by kernel_rfl) (by simp) ?_
    refine AllReadyH.cons (o := ⟨some 10, .call { callee := .builtin .append, args := #[(.tmp 7), (.tmp 9)], argTypes := #[134, 134] }, _, _, _, _⟩) rfl (fun K9 hK9 => ?_) AllReadyH.nil
    refine step_append_pile (by rfl) _ _ rfl base v _ _ rfl hO5 _ KB hE5 (unhide HKL) (unhide HK1) rfl (unhide HN) (Nat.le_trans (unhide HBA) hG5.size) ?_
    intro gb6 c6 w6 hO6 g6 hat6
    have h6 := range_kept h5 g6 (unhide HNW)
    refine hK9.out _ _ h6 (fun _ => ?_)
    clear hK9 K9
    (try simp only [Act.put, pq1, pq2, pq3])
    have hB6 := hB5.kept g6 (own_apart_t hO5 hB5 (by decide))
    have q6 := hB6.cell 0
    simp only [List.getElem?_cons_zero] at q6
    have f6 := hB6.fz 0
    refine wpAnyH_take (i := 7) (oi := ⟨some 11, .nilCheck (.tmp 4), _, _, _, _⟩) (v := .pointer (some ⟨pb, 0, none⟩)) rfl (by kernel_rfl) (by kernel_rfl) (by kernel_rfl) (fun _ _ _ h => h) (Or.inl ⟨by rfl, fun V (hV : V.rangeAt w.heap.size 0 KB) => by go_simp⟩) h6 ?_
    (try simp only [Act.put, pq1, pq2, pq3])
    refine wpAnyH_ready (rs := [8]) (by kernel_rfl) (by simp) ?_
    refine AllReadyH.cons (o := ⟨none, .store 134 (.tmp 11) (.tmp 10), _, _, _, _⟩) rfl (fun K9 hK9 => ?_) AllReadyH.nil
    go_simp
    have h7 := range_kept h6 (gb_set w6 pb 0 (.slice (some ⟨gb6, 0, none⟩) (L.length + 1) c6)) (unhide HNP)
    refine hK9.out _ _ h7 (fun _ => ?_)
    clear hK9 K9
    (try simp only [Act.put, pq1, pq2, pq3])
    refine wpAnyH_done (by kernel_rfl) ?_ _
    refine NoPanic.normal ?_
    clear q6 f6
    go_wp2
    go_end0
    exact ⟨rfl, unhide HFIN w5 w6 gb6 c6 hG5 hO5 g6 hO6 hB6 hat6⟩
end Go.Proofs.YtlifmipnoeioaaaGreatDoor

/- A pile of names: what graph's pile.take answers and leaves. -/
namespace Go.Proofs.YtlifmipnoeioaaaGreatDoor
open Go.RowKit

theorem own_shrink {w : World} {base k n m g cap : Nat} {t : TypeId} {xs : List Value} (h : w.ownsRow base t k (.slice (some ⟨g, 0, none⟩) n cap) n xs) (hm : m ≤ n) : w.ownsRow base t k (.slice (some ⟨g, 0, none⟩) m cap) m (xs.take (m * k)) := by
  have hmk : m * k ≤ n * k := Nat.mul_le_mul_right k hm
  rcases h with ⟨h1, h2⟩
  rcases h2 with ⟨h2, _⟩ | ⟨g', cap', cur, hv, hg, hh, h3, h4, h5, h6⟩
  · cases h2
  · cases hv
    refine ⟨by rw [List.length_take, h1]; omega, Or.inr ⟨g, cap, cur, rfl, hg, hh, by omega, h4, h5, ?_⟩⟩
    rw [← h6, List.take_take, Nat.min_eq_left hmk]

theorem slice_to32 (W : World) (t : TypeId) (ht : Tryz.prog.underlying t = some (.slice 33)) (ao : Option Addr) (n c k : Nat) (hk : k ≤ c) :
    (Instr.slice t (.slice ao n c) none (some (.int .i64 (k : Int))) none).run Tryz.prog W = .ok (.slice ao k c) W := by
  have ht' : Tryz.prog.underlying t = some (.slice (Tryz.prog.elem t)) := by simp [Program.elem, ht]
  have he : Tryz.prog.elem t = 33 := by simp [Program.elem, ht]
  rw [run_slice_h W t _ _ _ ht' .i64 _ (by omega) (by omega), he, size_id]
  cases ao <;> simp [Result.andThen, sliced, Addr.add]

set_option maxRecDepth 100000 in
set_option maxHeartbeats 2000000 in
theorem ptake_any (w : World) (base pb : Nat) (v : Value) (L : List (List UInt8)) (x : List UInt8) (h : PileAt w base pb v (L ++ [x])) (hL : L.length ≤ 100000) :
    Calls Tryz.prog 75 #[.pointer (some ⟨pb, 0, none⟩)] w fun e w' => e = .returned (keyV x) ∧ ∃ v', PileAt w' base pb v' L ∧ w.grownBy w' (some pb) ∧ v'.ownBlock = v.ownBlock := by
  have hx : x.length = 32 := h.ids x (by simp)
  obtain ⟨g, cap, rfl, hg, hgl⟩ := h.own.form (by simp)
  have hlen : (L ++ [x]).length = L.length + 1 := by simp
  have hown := h.own
  have hbk := h.blk
  rw [hlen] at hown hbk ⊢
  obtain ⟨n, hn⟩ : ∃ n, n = L.length := ⟨_, rfl⟩
  rw [← hn] at hown hbk hL ⊢
  have hcap : n + 1 ≤ cap := by
    rcases hown.2 with ⟨h1, _⟩ | ⟨_, _, _, h1, _, _, h2, _⟩
    · cases h1
    · cases h1; exact h2
  obtain ⟨KB, hKB⟩ : ∃ KB, KB = x.map bv := ⟨_, rfl⟩
  have hKl : KB.length = 32 := by rw [hKB]; simp [hx]
  have hkv : keyV x = .agg KB.toArray := by rw [hKB]; rfl
  have hKo : KB.toArray.all (·.oneCell') = true := by rw [hKB]; exact all_oneCell_toArray (bv_one _)
  have hr : w.rangeAt g (n * 32) KB := by
    obtain ⟨ao, c, h1, h2⟩ := Ids.own h.own h.ids
    cases h1
    have := h2.row ⟨g, 0, none⟩ rfl n (by simp; omega)
    simp only [Nat.zero_add] at this
    rw [hKB]
    have e : (L ++ [x])[n]'(by simp; omega) = x := by
      rw [List.getElem_append_right (by omega)]
      simp [hn]
    rw [e] at this
    exact this
  obtain ⟨Z, hZ, hzv⟩ := zero_id
  have hiK : (Tryz.prog.info? 33).map (·.size) = some KB.length := by rw [hKl]; exact info_id
  have hiK2 : (Tryz.prog.info? 33).map (·.size) = some KB.toArray.size := by simpa using hiK
  have hZE : Z.toList.toArray.size = KB.toArray.size := by simp [hZ, hKl]
  obtain ⟨W0, hW0, hB0, g0⟩ : ∃ W, W = w.alloc (.cells Z 33) ∧ Blk W w.heap.size 33 Z.toList ∧ w.grownBy W none := by
    obtain ⟨W1, h1, h2, h3⟩ := box_new w 33 Z.toList
    exact ⟨W1, by simpa using h1, h2, h3⟩
  have hs0 : W0.heap.size = w.heap.size + 1 := by rw [hW0]; simp
  obtain ⟨W1, hW1, hB1, g1⟩ := row_new W0 33 Z KB
  have hBZ : Blk (W0.alloc (.cells Z 33)) W0.heap.size 33 Z.toList := by simpa using Blk.new W0 33 Z.toList
  have hb0 := hbk.kept g0 (by simp)
  have hb1 := hb0.kept g1 (by simp)
  have hc0 := hb0.cell 0
  have hc1 := hb1.cell 0
  have hf1 := hb1.fz 0
  simp only [List.getElem?_cons_zero] at hc0 hc1
  have hr0 := range_kept hr g0 (by simp)
  have hplt := hbk.lt
  have hsl : ∀ W, (Instr.slice 134 (.slice (some ⟨g, 0, none⟩) (n + 1) cap) none (some (.int .i64 (n : Int))) none).run Tryz.prog W = .ok (.slice (some ⟨g, 0, none⟩) n cap) W := fun W => slice_to32 W _ Tryz.underlying134 _ _ _ _ (by omega)
  have hB2 := (hB1.other ⟨pb, 0, none⟩ (.slice (some ⟨g, 0, none⟩) n cap) (by simp; omega))
  have hR2 := ((hB0.kept g1 (by simp)).other ⟨pb, 0, none⟩ (.slice (some ⟨g, 0, none⟩) n cap) (by simp; omega))
  have hr2 := blk_all hB2
  obtain ⟨W2, hW2⟩ : ∃ W, W = W1.setCell ⟨pb, 0, none⟩ (.slice (some ⟨g, 0, none⟩) n cap) := ⟨_, rfl⟩
  have g2 : W1.grownBy W2 (some pb) := by rw [hW2]; exact gb_set _ _ _ _
  have hP2 : Blk W2 pb 134 [.slice (some ⟨g, 0, none⟩) n cap] := by rw [hW2]; exact hb1.set 0 _
  rw [← hW2] at hB2 hR2 hr2
  have hfin : PileAt (W2.setRow w.heap.size KB.toArray) base pb (.slice (some ⟨g, 0, none⟩) n cap) L ∧ w.grownBy (W2.setRow w.heap.size KB.toArray) (some pb) := by
    have g3 : W2.grownBy (W2.setRow w.heap.size KB.toArray) (some w.heap.size) := gb_row (gb_refl _ _) _ (Or.inr rfl)
    have G2 : w.grownBy W2 (some pb) := gb_trans (gb_none _ (tn g0 g1)) g2 (fun _ e => Or.inr e)
    refine ⟨⟨hP2.kept g3 (fun e => by cases e; omega), ?_, fun y hy => h.ids y (by simp [hy]), h.nb⟩, gb_row G2 _ (Or.inl (Nat.le_refl _))⟩
    have ho := own_shrink hown (Nat.le_succ n)
    have e2 : ((L ++ [x]).flatMap (·.map bv)).take (n * 32) = L.flatMap (·.map bv) := by
      rw [List.flatMap_append, List.take_append_of_le_length (by rw [flat_len2 (fun x : List UInt8 => x.map bv) 32 L (fun y hy => by simpa using h.ids y (by simp [hy]))]; omega), List.take_of_length_le (by rw [flat_len2 (fun x : List UInt8 => x.map bv) 32 L (fun y hy => by simpa using h.ids y (by simp [hy]))]; omega)]
    rw [e2] at ho
    rw [← hn]
    have o1 := (ho.kept (tn g0 g1) (by simp [Value.ownBlock])).kept g2 (Or.inr fun e => own_apart_t (ho.kept (tn g0 g1) (by simp [Value.ownBlock])) hb1 (by decide) e.symm)
    exact o1.kept g3 (Or.inr fun e => by simp [Value.ownBlock] at e; omega)
  have hwn : IntKind.i64.wrap (((n + 1 : Nat) : Int) - 1) = (n : Int) := by rw [IntKind.wrap_i64]; omega
  have hwn2 : ((n : Int) + 1) - 1 = (n : Int) := by omega
  rw [hkv]
  have HW0 := hide hW0
  have HW1 := hide hW1
  have HW2 := hide hW2
  have HBZ := hide hBZ
  have HIK := hide hiK
  have HIK2 := hide hiK2
  have HZE := hide hZE
  have HKO := hide hKo
  have HR2 := hide hR2
  have HF := hide hfin
  clear hW0 hW1 hW2 hBZ hiK hiK2 hZE hKo hfin hB0 hB1 hs0 hb0 hb1 hr h hown hbk hKB hKl hkv hx hg hgl hlen hcap hB2 hP2 g0 g1 g2 hR2 hZ hplt hn
  go_enter Tryz.func75, Tryz.ntmps75
  go_wp2_with (first
    | (refine wpList_load_mid rfl 33 _ rfl g (n * 32) (by first | rfl | simp) KB _ hr0 Tryz.underlying33 rfl (unhide HIK) ?_; clear hr0)
    | (have hB9 := unhide HBZ; refine wpList_store_row rfl 33 _ _ rfl W0.heap.size KB.toArray rfl rfl _ _ hB9 (unhide HIK2) (unhide HZE) (unhide HKO) ?_; clear hB9; rw [← unhide HW1])
    | (rw [← unhide HW2]; refine wpList_load_mid rfl 33 _ rfl W0.heap.size 0 rfl KB _ hr2 Tryz.underlying33 rfl (unhide HIK) ?_; clear hr2)
    | (have hB9 := unhide HR2; refine wpList_store_row rfl 33 _ _ rfl w.heap.size KB.toArray rfl rfl _ _ hB9 (unhide HIK2) (unhide HZE) (unhide HKO) ?_; clear hB9)
    | rw [← unhide HW0])
  refine bodyPost_ret (results_cell_row rfl _ _ _ _ _ _ _ rfl ((unhide HR2).row KB) Tryz.underlying33 rfl (unhide HIK2)) rfl ?_
  exact ⟨rfl, _, (unhide HF).1, (unhide HF).2, rfl⟩

end Go.Proofs.YtlifmipnoeioaaaGreatDoor

/- What slices.IndexFunc answers of names, and met.has as the question. -/
namespace Go.Proofs.YtlifmipnoeioaaaGreatDoor
open Go.RowKit

theorem enter_has : ∀ args w, (callFunc 49 args).run Tryz.prog w = .ok (.enter 49 args) w := fun _ _ => by kernel_rfl

set_option maxRecDepth 100000 in
set_option maxHeartbeats 2000000 in
theorem idx_any (w : World) (m : Nat) (K : List (List UInt8)) (h : MapAt w m (metK K)) (ao : Option Addr) (c : Nat) (ps : List (List UInt8)) (hI : Ids w ao c ps) (hL : ps.length ≤ 100000) :
    Calls Tryz.prog 79 #[.slice ao ps.length c, .func (.func 49) #[.map (some m)] #[]] w fun e w' => ∃ r : Int, e = .returned (.int .i64 r) ∧ w.grownBy w' none ∧ ((r = -1 ∧ ∀ x ∈ ps, K.contains x = false) ∨ ∃ A E B, ps = A ++ E :: B ∧ r = (A.length : Int) ∧ K.contains E = true ∧ ∀ x ∈ A, K.contains x = false) := by
  have eg := enter_has
  obtain ⟨n, hn⟩ : ∃ n, n = ps.length := ⟨_, rfl⟩
  rw [← hn] at hL
  rw [← hn]
  have HN := hide hn
  have HM := hide h
  have HI := hide hI
  clear hn h hI
  go_enter Tryz.func79, Tryz.ntmps79
  go_wp2
  go_loopw [8] (fun i wr => ∃ j : Nat, i = .int .i64 j ∧ j ≤ n ∧ Hid (w.grownBy wr none ∧ ∀ x ∈ ps.take j, K.contains x = false)) (fun i _ => n - (intOf i).toNat)
  case atStart => exact ⟨0, rfl, Nat.zero_le _, gb_refl _ _, by simp⟩
  case round =>
    obtain ⟨j, rfl, hj, HS⟩ := hrel
    by_cases hlt : j < n
    · have hlt' : j < ps.length := by have := unhide HN; omega
      obtain ⟨b, o, hao, hrow⟩ := ((unhide HI).none (unhide HS).1).at j hlt'
      have hr := hrow j hlt'
      have hid := (unhide HI).ids _ (List.getElem_mem hlt')
      obtain ⟨E, hEE⟩ : ∃ E, E = ps[j] := ⟨_, rfl⟩
      rw [← hEE] at hr hid
      obtain ⟨EB, hEB⟩ : ∃ EB, EB = E.map bv := ⟨_, rfl⟩
      have hkv : keyV E = .agg EB.toArray := by rw [hEB]; rfl
      rw [← hEB] at hr
      have hEl : EB.length = 32 := by rw [hEB]; simp [hid]
      have hiE : (Tryz.prog.info? 33).map (·.size) = some EB.length := by rw [hEl]; exact info_id
      have ch := has_any wr m K ((unhide HM).none (unhide HS).1) E hid
      rw [hkv] at ch
      have htk := List.take_succ_eq_append_getElem hlt'
      rw [← hEE] at htk
      have HIE := hide hiE
      have HEE := hide hEE
      have HTK := hide htk
      have hjw : IntKind.i64.wrap ((j : Int) + 1) = (j : Int) + 1 := by rw [IntKind.wrap_i64]; omega
      clear hrow hEE hEB hEl hiE hkv htk hid
      obtain ⟨y, hy⟩ : ∃ y, y = K.contains E := ⟨_, rfl⟩
      rw [← hy] at ch
      have HY := hide hy
      clear hy
      subst hao
      cases y
      · go_wp2_with (first
          | (refine wpList_load_mid rfl 33 _ rfl b (o + j * 32) rfl EB _ hr Tryz.underlying33 rfl (unhide HIE) ?_; clear hr)
          | (go_at_call 49; refine ch.mono ?_; rintro e w6 ⟨rfl, g6⟩; have HG6 := hide g6; clear ch g6))
        go_roundw
        case rel =>
          refine ⟨j + 1, by go_num, by omega, tn (unhide HS).1 (unhide HG6), fun x hx => ?_⟩
          rw [unhide HTK] at hx
          rcases List.mem_append.1 hx with hx | hx
          · exact (unhide HS).2 x hx
          · rw [List.mem_singleton.1 hx, ← unhide HY]
        case measure => simp [intOf]; omega
      · go_wp2_with (first
          | (refine wpList_load_mid rfl 33 _ rfl b (o + j * 32) rfl EB _ hr Tryz.underlying33 rfl (unhide HIE) ?_; clear hr)
          | (go_at_call 49; refine ch.mono ?_; rintro e w6 ⟨rfl, g6⟩; have HG6 := hide g6; clear ch g6))
        go_ret
        exact ⟨(j : Int), rfl, tn (unhide HS).1 (unhide HG6), Or.inr ⟨ps.take j, E, ps.drop (j + 1), by rw [unhide HEE]; simp, by rw [List.length_take, Nat.min_eq_left (Nat.le_of_lt hlt')], by rw [← unhide HY], (unhide HS).2⟩⟩
    · have hjn : j = ps.length := by have := unhide HN; omega
      have hfin : w.grownBy wr none ∧ ∀ x ∈ ps, K.contains x = false := by
        have := unhide HS
        rwa [hjn, List.take_of_length_le (Nat.le_refl _)] at this
      have HF := hide hfin
      clear hfin hjn HS
      go_wp2
      go_ret
      exact ⟨-1, rfl, (unhide HF).1, Or.inl ⟨rfl, (unhide HF).2⟩⟩

end Go.Proofs.YtlifmipnoeioaaaGreatDoor

/- What graph's Clone answers of nil and of a plain set. -/
namespace Go.Proofs.YtlifmipnoeioaaaGreatDoor
open Go.RowKit

theorem gclone_no (w : World) (po : Option Addr) (h : NoSet w po) : Calls Tryz.prog 10 #[.pointer po] w fun e w' => e = .returned (.pointer none) ∧ w' = w := by
  have c1 := h w (gb_refl _ _)
  clear h
  go_enter Tryz.func10, Tryz.ntmps10
  go_wp2_with (go_at_call 36; refine c1.mono ?_; rintro e w2 ⟨rfl, e2⟩; subst w2; clear c1)
  go_ret
  exact ⟨rfl, rfl⟩

end Go.Proofs.YtlifmipnoeioaaaGreatDoor
