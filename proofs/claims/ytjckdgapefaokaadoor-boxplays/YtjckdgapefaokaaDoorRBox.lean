/- The document's box (package coffretref08), in words of our own; and what its Draw and Known answer. Of first bytes of at most 1000, and as many drawn at a time. -/
import Derived.Test.YtjckdgapefaokaaDoorRBytes
import Derived.Test.YtjckdgapefaokaaDoorBIdeal
import Derived.Test.YtjckdgapefaokaaDoorPNumC
namespace Go.Proofs.YtjckdgapefaokaaDoor
open Go.RowKit

/-- What a step writes into its slot, in short names. -/
theorem pq1 (l : List Value) (i : Nat) (v : Value) : l.toArray.setIfInBounds i v = (l.set i v).toArray := List.setIfInBounds_toArray ..
theorem pq2 (x : Value) (l : List Value) (v : Value) : (x :: l).set 0 v = v :: l := rfl
theorem pq3 (x : Value) (l : List Value) (i : Nat) (v : Value) : (x :: l).set (i + 1) v = x :: l.set i v := rfl

/-- The cells of an entry. -/
def entC (x : Ent) : List Value := [.string (str x.s), .string (str x.k), .string (str x.be), .string (str x.tx)]
/-- The cells of a box of the document's. -/
def rbC (m : Int) (F : List UInt8) (us : Nat) (v : Value) : List Value := [.int .i64 m, .string (str F), .int .i64 (us : Int), v]

/-- The slice v is a row of entries, new since base. -/
def Rl (w : World) (base : Nat) (v : Value) (L : List Ent) : Prop := w.ownsRow base 44 4 v L.length (L.flatMap entC)

theorem ent_len (L : List Ent) : (L.flatMap entC).length = L.length * 4 := by
  induction L with
  | nil => rfl
  | cons x L ih => rw [List.flatMap_cons, List.length_append, ih, List.length_cons, Nat.succ_mul]; simp only [entC, List.length_cons, List.length_nil]; omega

theorem ent_at (L : List Ent) (i j : Nat) (h : i < L.length) (hj : j < 4) : (L.flatMap entC)[i * 4 + j]? = (entC L[i])[j]? := by
  induction L generalizing i with
  | nil => simp at h
  | cons x L ih =>
    rw [List.flatMap_cons]
    have hl : (entC x).length = 4 := rfl
    cases i with
    | zero => rw [List.getElem?_append_left (by rw [hl]; omega)]; simp
    | succ i =>
      rw [List.getElem?_append_right (by rw [hl]; omega), hl, show (i + 1) * 4 + j - 4 = i * 4 + j by omega]
      have := ih i (by simpa using h)
      rw [this]; simp

theorem ent_one (L : List Ent) : ∀ u ∈ L.flatMap entC, u.oneCell' = true := by
  intro u hu
  obtain ⟨x, _, hx⟩ := List.mem_flatMap.1 hu
  simp only [entC, List.mem_cons, List.not_mem_nil, or_false] at hx
  rcases hx with rfl | rfl | rfl | rfl <;> rfl

theorem Rl.nil (w : World) (base : Nat) : Rl w base (.slice none 0 0) [] := World.ownsRow_nil _ _ _ _
theorem Rl.none {w a : World} {base : Nat} {v : Value} {L : List Ent} (h : Rl w base v L) (g : w.grownBy a Option.none) : Rl a base v L := World.ownsRow.kept h g (by cases hv : v.ownBlock <;> simp)
theorem Rl.form {w : World} {base : Nat} {v : Value} {L : List Ent} (h : Rl w base v L) : ∃ oo oc, v = .slice oo L.length oc ∧ (0 < L.length → ∃ g, oo = some ⟨g, 0, Option.none⟩) := by
  rcases h.2 with ⟨h1, h2⟩ | ⟨g, cap, cur, h1, _⟩
  · exact ⟨Option.none, 0, by rw [h1, h2], fun h => by omega⟩
  · exact ⟨_, cap, h1, fun _ => ⟨g, rfl⟩⟩
theorem Rl.one {w : World} {base : Nat} {v : Value} {L : List Ent} (h : Rl w base v L) : v.oneCell' = true := by
  obtain ⟨_, _, rfl, _⟩ := h.form; rfl
theorem Rl.cell {w : World} {base g n c : Nat} {L : List Ent} (h : Rl w base (.slice (some ⟨g, 0, Option.none⟩) n c) L) (i j : Nat) (hi : i < L.length) (hj : j < 4) : w.cell? ⟨g, i * 4 + j, Option.none⟩ = (entC L[i])[j]? := by
  have he : (entC L[i])[j]? = some ((entC L[i])[j]'hj) := List.getElem?_eq_getElem (l := entC L[i]) hj
  rw [he]
  have := World.ownsRow.cells h (g := g) rfl (i * 4 + j) ((entC L[i])[j]'hj) (by rw [ent_at L i j hi hj, he])
  rw [Addr.add_lit, Nat.zero_add] at this
  exact this

theorem info_rbox : (Tryd.prog.info? 33).map (·.size) = some 4 := by kernel_rfl
theorem zero_rbox (w : World) : (zeroValue 33).run Tryd.prog w = .ok (.agg #[.int .i64 0, .string (str []), .int .i64 0, .slice none 0 0]) w := by kernel_rfl

theorem rbC_one (m : Int) (F : List UInt8) (us : Nat) {v : Value} (h : v.oneCell' = true) : (rbC m F us v).toArray.all (·.oneCell') = true := by
  refine all_oneCell_toArray (fun u hu => ?_)
  simp only [rbC, List.mem_cons, List.not_mem_nil, or_false] at hu
  rcases hu with rfl | rfl | rfl | rfl <;> first | rfl | exact h

set_option maxRecDepth 100000 in
set_option maxHeartbeats 1000000 in
theorem rdraw_any (w : World) (m : Int) (F : List UInt8) (us n : Nat) (v : Value) (hv : v.oneCell' = true) (hF : F.length ≤ 1000) (hu : us ≤ 90000) (hn : n ≤ 1000) :
    Calls Tryd.prog 30 #[.agg (rbC m F us v).toArray, .int .i64 (n : Int)] w fun e w' => e = .returned (.tuple #[.agg (rbC m F (us + n) v).toArray, .string (str (told F us n))]) ∧ w.grownBy w' none := by
  obtain ⟨Z, hZ⟩ : ∃ Z : List Value, Z = [.int .i64 0, .string (str []), .int .i64 0, .slice none 0 0] := ⟨_, rfl⟩
  have hzv : ∀ w, (zeroValue 33).run Tryd.prog w = .ok (.agg Z.toArray) w := fun w => by rw [hZ]; exact zero_rbox w
  have hsZ : Z.toArray.size = 4 := by rw [hZ]; rfl
  obtain ⟨C, hC⟩ : ∃ C, C = rbC m F us v := ⟨_, rfl⟩
  obtain ⟨D, hD⟩ : ∃ D, D = rbC m F (us + n) v := ⟨_, rfl⟩
  have hsD : D.toArray.size = 4 := by rw [hD]; rfl
  have hoD : D.toArray.all (·.oneCell') = true := by rw [hD]; exact rbC_one m F (us + n) hv
  have hset : C.set 2 (.int .i64 ((us : Int) + (n : Int))) = D := by rw [hC, hD]; simp [rbC]
  obtain ⟨W2, hW2⟩ : ∃ W2, W2 = (w.alloc (.cells C.toArray 33)).alloc (.cells Z.toArray 33) := ⟨_, rfl⟩
  have g2 : w.grownBy W2 none := by rw [hW2]; exact gb_alloc (gb_alloc (gb_refl _ _) _) _
  have hC2 : Blk W2 w.heap.size 33 C := by rw [hW2]; exact (Blk.new w _ _).alloc _
  have hZ2 : Blk W2 (w.heap.size + 1) 33 Z := by
    have := Blk.new (w.alloc (.cells C.toArray 33)) 33 Z
    rw [World.size_alloc] at this
    rw [hW2]; exact this
  have hc1 : W2.cell? ⟨w.heap.size, 1, none⟩ = some (.string (str F)) := by rw [hC2.cell, hC]; rfl
  have hc2 : W2.cell? ⟨w.heap.size, 2, none⟩ = some (.int .i64 (us : Int)) := by rw [hC2.cell, hC]; rfl
  have cb := rbytes_any W2 F us n hF (by omega) hn
  have after : ∀ w3, W2.grownBy w3 none → w3.cell? ⟨w.heap.size, 2, none⟩ = some (.int .i64 (us : Int)) ∧ w3.frozen? ⟨w.heap.size, 2, none⟩ = false ∧ Blk (w3.setCell ⟨w.heap.size, 2, none⟩ (.int .i64 ((us : Int) + (n : Int)))) w.heap.size 33 D ∧ Blk (w3.setCell ⟨w.heap.size, 2, none⟩ (.int .i64 ((us : Int) + (n : Int)))) (w.heap.size + 1) 33 Z ∧ w.grownBy (w3.setCell ⟨w.heap.size, 2, none⟩ (.int .i64 ((us : Int) + (n : Int)))) none := fun w3 g => by
    have h1 := hC2.kept g (by simp)
    have h3 := h1.set 2 (.int .i64 ((us : Int) + (n : Int)))
    rw [hset] at h3
    exact ⟨g.cell hc2 (by simp), h1.fz 2, h3, (hZ2.kept g (by simp)).other _ _ (by simp), gb_setCell (tn g2 g) _ _ (Or.inl (Nat.le_refl _))⟩
  have hwn : IntKind.i64.wrap ((us : Int) + (n : Int)) = (us : Int) + (n : Int) := by rw [IntKind.wrap_i64]; omega
  obtain ⟨S, hS⟩ : ∃ S, S = str F := ⟨_, rfl⟩
  obtain ⟨O, hO⟩ : ∃ O, O = str (told F us n) := ⟨_, rfl⟩
  rw [← hS] at hc1 cb
  rw [← hO] at cb ⊢
  rw [← hC, ← hD]
  have HAF := hide after
  have HW2 := hide hW2
  have HSZ := hide hsZ
  have HSD := hide hsD
  have HOD := hide hoD
  clear hZ hsZ hC hD hsD hoD hset hW2 g2 hC2 hZ2 after hS hO
  go_enter Tryd.func30, Tryd.ntmps30
  go_upto_region 1 with fail
  rw [← unhide HW2]
  go_wp2_with (first
    | (go_at_call 44; refine cb.mono ?_; rintro e w3 ⟨rfl, g3⟩; clear cb; obtain ⟨hd1, hd2, hd3, hd4, hd5⟩ := unhide HAF w3 g3)
    | (refine wpList_load_row rfl 33 _ rfl w.heap.size rfl _ _ _ _ hd3 Tryd.underlying33 rfl ?_ ?_; (rw [unhide HSD]; exact info_rbox))
    | (refine wpList_store_row rfl 33 _ _ rfl (w.heap.size + 1) _ rfl rfl _ _ hd4 ?_ ?_ (unhide HOD) ?_; (rw [unhide HSD]; exact info_rbox); (rw [unhide HSD, unhide HSZ])))
  have hfin := hd4.row D
  refine bodyPost_ret (v := .tuple #[.agg D.toArray, .string O]) ((results_row_tmp (fn := Tryd.f30) (g := w.heap.size + 1) rfl _ _ _ _ _ _ ?_ hfin Tryd.underlying33 rfl ?_).trans ?_) rfl ⟨rfl, gb_row hd5 _ (Or.inl (Nat.le_succ _))⟩
  · rfl
  · rw [unhide HSD]; exact info_rbox
  · rfl

set_option maxRecDepth 100000 in
set_option maxHeartbeats 1000000 in
theorem rknown_any (w : World) (base : Nat) (m : Int) (F : List UInt8) (us : Nat) (v : Value) (L : List Ent) (s : List UInt8) (hR : Rl w base v L) (hn : L.length ≤ 100000) :
    Calls Tryd.prog 17 #[.agg (rbC m F us v).toArray, .string (str s)] w fun e w' => e = .returned (.bool ((L.map (·.s)).contains s)) ∧ w.grownBy w' none := by
  obtain ⟨rk, hrk⟩ : ∃ r, r = (L.map (·.s)).contains s := ⟨_, rfl⟩
  rw [← hrk]
  have HRK := hide hrk
  clear hrk
  obtain ⟨C, hC⟩ : ∃ C, C = rbC m F us v := ⟨_, rfl⟩
  obtain ⟨W1, hW1⟩ : ∃ W1, W1 = w.alloc (.cells C.toArray 33) := ⟨_, rfl⟩
  have g1 : w.grownBy W1 none := by rw [hW1]; exact gb_alloc (gb_refl _ _) _
  have hC1 : Blk W1 w.heap.size 33 C := by rw [hW1]; exact Blk.new w _ _
  have hc3 : W1.cell? ⟨w.heap.size, 3, none⟩ = some v := by rw [hC1.cell, hC]; rfl
  have hR1 := hR.none g1
  obtain ⟨lo, lc, rfl, hlo⟩ := hR.form
  obtain ⟨n, hnn⟩ : ∃ n, n = L.length := ⟨_, rfl⟩
  obtain ⟨S, hS⟩ : ∃ S, S = str s := ⟨_, rfl⟩
  rw [← hnn] at hc3 hR1 hlo hn
  rw [← hC, ← hS]
  have HW1 := hide hW1
  have HS := hide hS
  have HN := hide hnn
  clear hC hC1 hW1 hS hnn hR
  go_enter Tryd.func17, Tryd.ntmps17
  go_wp2
  rw [← unhide HW1]
  go_loopw [5] (fun i wr => ∃ j : Nat, j ≤ n ∧ i = .int .i64 j ∧ wr = W1 ∧ ∀ i (h : i < L.length), i < j → L[i].s ≠ s) (fun i _ => n - (intOf i).toNat)
  case atStart => exact ⟨0, Nat.zero_le _, rfl, rfl, fun i h h2 => by omega⟩
  case round =>
    obtain ⟨j, hj, rfl, rfl, hno⟩ := hrel
    by_cases hlt : j < n
    · have hjL : j < L.length := by have := unhide HN; omega
      obtain ⟨g, rfl⟩ := hlo (by omega)
      have hce := hR1.cell j 0 hjL (by omega)
      obtain ⟨E, hE⟩ : ∃ E, E = str L[j].s := ⟨_, rfl⟩
      have hce' : wr.cell? ⟨g, j * 4, none⟩ = some (.string E) := by rw [hE]; exact hce
      have hji : (j : Int) < (n : Int) := by omega
      have hj0 : (0 : Int) ≤ (j : Int) := by omega
      have hwj : IntKind.i64.wrap ((j : Int) + 1) = (j : Int) + 1 := by rw [IntKind.wrap_i64]; omega
      by_cases heq : L[j].s = s
      · have hq : (E.toList == S.toList) = true := by rw [hE, unhide HS, str_list, str_list, heq]; simp
        have hres : (L.map (·.s)).contains s = true := by rw [List.contains_iff_mem, ← heq]; exact List.mem_map_of_mem (List.getElem_mem hjL)
        clear hce hE heq hno
        go_wp2
        go_ret
        exact ⟨by rw [unhide HRK, hres]; rfl, g1⟩
      · have hq : (E.toList == S.toList) = false := by rw [hE, unhide HS, str_list, str_list]; exact beq_eq_false_iff_ne.2 heq
        clear hce hE
        go_wp2
        go_roundw
        case rel => exact ⟨j + 1, by omega, by go_num, trivial, fun i h h2 => by
          by_cases hi : i < j
          · exact hno i h hi
          · have : i = j := by omega
            subst this; exact heq⟩
        case measure => simp [intOf]; omega
    · obtain rfl : j = n := by omega
      have hnn : ¬ (j : Int) < (j : Int) := by omega
      have hres : (L.map (·.s)).contains s = false := by
        rw [Bool.eq_false_iff]
        intro h
        rw [List.contains_iff_mem] at h
        obtain ⟨x, hx, rfl⟩ := List.mem_map.1 h
        obtain ⟨i, hi, rfl⟩ := List.getElem_of_mem hx
        exact hno i hi (by have := unhide HN; omega) rfl
      clear hno
      go_wp2
      go_ret
      exact ⟨by rw [unhide HRK, hres]; rfl, g1⟩

end Go.Proofs.YtjckdgapefaokaaDoor
