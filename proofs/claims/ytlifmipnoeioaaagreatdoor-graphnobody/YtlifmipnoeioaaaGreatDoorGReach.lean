/- What graph's reached answers: just what is reached, whatever leads on. Of names that are at most 100000 in all. -/
import Derived.Test.YtlifmipnoeioaaaGreatDoorGCloN
import Derived.Deep.LoopGhost
namespace Go.Proofs.YtlifmipnoeioaaaGreatDoor
open Go.RowKit

theorem newOf_in {x : List UInt8} : ∀ {l K : List (List UInt8)}, x ∈ newOf K l → x ∈ l
  | [], _, h => by simp [newOf] at h
  | y :: l, K, h => by
    unfold newOf at h
    split at h
    · exact List.mem_cons_of_mem _ (newOf_in h)
    · rcases List.mem_cons.1 h with rfl | h
      · simp
      · exact List.mem_cons_of_mem _ (newOf_in h)
theorem newOf_has {x : List UInt8} : ∀ {l K : List (List UInt8)}, x ∈ l → x ∈ K ++ newOf K l
  | [], _, h => by simp at h
  | y :: l, K, h => by
    unfold newOf
    split
    · rename_i hy
      rcases List.mem_cons.1 h with rfl | h
      · exact List.mem_append_left _ hy
      · exact newOf_has h
    · rcases List.mem_cons.1 h with rfl | h
      · simp
      · have := newOf_has (K := K ++ [y]) h
        simpa using this

/-- What leads on from a name: a method value, bound to a set. -/
structure Nexts (w : World) (g : Nat) (bound : Value) (nx : List UInt8 → List (List UInt8)) : Prop where
  call : ∀ {V x}, w.grownBy V none → x.length = 32 → Calls Tryz.prog g #[bound, keyV x] V fun e w' => ∃ v, e = .returned v ∧ w'.ownsRow V.heap.size 33 32 v (nx x).length ((nx x).flatMap (·.map bv)) ∧ V.grownBy w' none
  enter : ∀ args w, (callFunc g args).run Tryz.prog w = .ok (.enter g args) w
  wide : ∀ x, ∀ y ∈ nx x, y.length = 32
  few : ∀ x, (nx x).length ≤ 100000

/-- What the loop of reached keeps. -/
structure Runs (nx : List UInt8 → List (List UInt8)) (R U K L : List (List UInt8)) : Prop where
  roots : ∀ x ∈ R, x ∈ K
  rch : ∀ x ∈ K, Rch nx R x
  work : ∀ x ∈ L, x ∈ K
  done : ∀ x ∈ K, x ∉ L → ∀ y ∈ nx x, y ∈ K
  all : ∀ x ∈ K, x ∈ U
  le : L.length ≤ K.length

theorem Runs.first {nx : List UInt8 → List (List UInt8)} {R U : List (List UInt8)} (h0 : ∀ x ∈ R, x ∈ U) : Runs nx R U (newOf [] R) (newOf [] R) :=
  ⟨fun x hx => by simpa using newOf_has (K := []) hx, fun x hx => .root (newOf_in hx), fun x hx => hx, fun x hx hn => absurd hx hn, fun x hx => h0 x (newOf_in hx), Nat.le_refl _⟩
theorem Runs.step {nx : List UInt8 → List (List UInt8)} {R U K L : List (List UInt8)} {x : List UInt8} (h : Runs nx R U K (L ++ [x])) (hU : ∀ x, ∀ y ∈ nx x, y ∈ U) : Runs nx R U (K ++ newOf K (nx x)) (L ++ newOf K (nx x)) := by
  have hxK := h.work x (by simp)
  refine ⟨fun y hy => List.mem_append_left _ (h.roots y hy), fun y hy => ?_, fun y hy => ?_, fun y hy hn z hz => ?_, fun y hy => ?_, ?_⟩
  · rcases List.mem_append.1 hy with hy | hy
    · exact h.rch y hy
    · exact .next (h.rch x hxK) (newOf_in hy)
  · rcases List.mem_append.1 hy with hy | hy
    · exact List.mem_append_left _ (h.work y (by simp [hy]))
    · exact List.mem_append_right _ hy
  · rcases List.mem_append.1 hy with hy | hy
    · by_cases hyx : y = x
      · subst hyx
        exact newOf_has hz
      · exact List.mem_append_left _ (h.done y hy (fun hm => by
          rcases List.mem_append.1 hm with hm | hm
          · exact hn (List.mem_append_left _ hm)
          · exact hyx (by simpa using hm)) z hz)
    · exact absurd (List.mem_append_right _ hy) hn
  · rcases List.mem_append.1 hy with hy | hy
    · exact h.all y hy
    · exact hU x y (newOf_in hy)
  · have := h.le
    simp only [List.length_append, List.length_cons, List.length_nil] at this ⊢
    omega
theorem Runs.end {nx : List UInt8 → List (List UInt8)} {R U K : List (List UInt8)} (h : Runs nx R U K []) (x : List UInt8) : x ∈ K ↔ Rch nx R x :=
  ⟨h.rch x, fun hx => Rch.in (p := fun y => y ∈ K) h.roots (fun y hy z hz => h.done y hy (by simp) z hz) hx⟩

/-- What a pile keeps of names that are met. -/
structure Piles (w : World) (m base pb : Nat) (U : List (List UInt8)) (ao : Option Addr) (V : World) (K L : List (List UInt8)) : Prop where
  gb : w.grownBy V none
  map : MapAt V m (metK K)
  pile : ∃ v, PileAt V base pb v L ∧ ∀ ad, ao = some ad → v.ownBlock ≠ some ad.block
  all : ∀ x ∈ K, x ∈ U

theorem piles_works (w : World) (m base pb : Nat) (U : List (List UInt8)) (hm : w.heap.size ≤ m) (hb : w.heap.size ≤ base) (hU : U.length ≤ 100000) (ao : Option Addr) (c : Nat) (ps : List (List UInt8)) (hpU : ∀ x ∈ ps, x ∈ U) :
    Works 74 (.pointer (some ⟨pb, 0, none⟩)) m ao c ps (fun V K L => Piles w m base pb U ao V K L ∧ Ids V ao c ps ∧ (∀ ad, ao = some ad → ad.block < V.heap.size ∧ ad.block ≠ pb ∧ ad.block ≠ m)) where
  map h := h.1.map
  ids h := h.2.1
  none h g := by
    obtain ⟨v, p1, p2⟩ := h.1.pile
    exact ⟨⟨tn h.1.gb g, h.1.map.none g, ⟨v, p1.none g, p2⟩, h.1.all⟩, h.2.1.none g, fun ad e => ⟨Nat.lt_of_lt_of_le (h.2.2 ad e).1 g.size, (h.2.2 ad e).2⟩⟩
  put {V0 V K0 L x} h0 hin hn g0 hM hle := by
    have h : Piles w m base pb U ao V (K0 ++ [x]) L ∧ Ids V ao c ps ∧ (∀ ad, ao = some ad → ad.block < V.heap.size ∧ ad.block ≠ pb ∧ ad.block ≠ m) := by
      obtain ⟨v, p1, p2⟩ := h0.1.pile
      refine ⟨⟨gb_trans h0.1.gb g0 (fun x e => Or.inl (by cases e; exact hm)), hM, ⟨v, p1.kept g0 (fun e => h0.1.map.blk p1.blk (by cases e; rfl)) (Or.inr fun e => h0.1.map.own p1.own e.symm), p2⟩, fun y hy => ?_⟩, h0.2.1.kept g0 (fun x e ad e2 e3 => by cases e; exact (h0.2.2 ad e2).2.2 e3), fun ad e => ⟨Nat.lt_of_lt_of_le (h0.2.2 ad e).1 g0.size, (h0.2.2 ad e).2⟩⟩
      rcases List.mem_append.1 hy with hy | hy
      · exact h0.1.all y hy
      · rw [List.mem_singleton.1 hy]
        exact hpU _ hin
    obtain ⟨K, hKe⟩ : ∃ K, K = K0 ++ [x] := ⟨_, rfl⟩
    have hlt : L.length < K.length := by rw [hKe, List.length_append]; simp only [List.length_cons, List.length_nil]; omega
    rw [← hKe] at h ⊢
    clear hM h0 g0
    obtain ⟨v, p1, p2⟩ := h.1.pile
    have hKn : K.Nodup := by have := h.1.map.once; rwa [metK_keys] at this
    have hKl := nodup_le hKn h.1.all
    refine (pput_any V base pb v L p1 x (h.2.1.ids x hin) (by omega)).mono ?_
    rintro e w' ⟨he, v', q1, q2, q3⟩
    have hkeep : ∀ ad, ao = some ad → w'.heap[ad.block]? = V.heap[ad.block]? := fun ad e => q2.block _ (h.2.2 ad e).1 (h.2.2 ad e).2.1 (fun e2 => p2 ad e e2.symm)
    have hmap : w'.heap[m]? = V.heap[m]? := q2.block m h.1.map.lt (fun e => h.1.map.blk p1.blk e) (h.1.map.own p1.own)
    refine ⟨he, ⟨byPile_gb h.1.gb p1 q2 hb, h.1.map.same hmap, ⟨v', q1, fun ad e e2 => ?_⟩, h.1.all⟩, ?_, fun ad e => ⟨Nat.lt_of_lt_of_le (h.2.2 ad e).1 q2.size, (h.2.2 ad e).2⟩⟩
    · rcases q3 _ e2 with h3 | h3
      · exact p2 ad e h3
      · have := (h.2.2 ad e).1
        omega
    · exact ⟨h.2.1.zip, h.2.1.fits, h.2.1.most, h.2.1.shape, fun ad e i hi j u hu => by
        have := h.2.1.row ad e i hi j u hu
        rw [World.cell?_of_block (w := V) (w' := w') (a := ⟨ad.block, ad.off + i * 32 + j, Option.none⟩) (hkeep ad e)]
        exact this, h.2.1.ids⟩
  enter := fun args w => by exact enters_of Tryz.func74 (by kernel_rfl) rfl args w

theorem zero_pile (w : World) : (zeroValue 134).run Tryz.prog w = .ok (.slice none 0 0) w := by kernel_rfl

set_option maxRecDepth 100000 in
set_option maxHeartbeats 4000000 in
theorem reached_any (w : World) (g : Nat) (bound : Value) (nx : List UInt8 → List (List UInt8)) (hN : Nexts w g bound nx) (ao : Option Addr) (c : Nat) (R U : List (List UInt8)) (hR : Ids w ao c R) (hRa : ∀ ad, ao = some ad → ad.block < w.heap.size) (h0 : ∀ x ∈ R, x ∈ U) (h1 : ∀ x, ∀ y ∈ nx x, y ∈ U) (hU : U.length ≤ 100000) (hRl : R.length ≤ 100000) :
    Calls Tryz.prog 45 #[.slice ao R.length c, .func (.func g) #[bound] #[]] w fun e w' => ∃ m K, e = .returned (.map (some m)) ∧ MapAt w' m (metK K) ∧ w.heap.size ≤ m ∧ (∀ x, x ∈ K ↔ Rch nx R x) ∧ w.grownBy w' none := by
  have hmk : ∀ W : World, (Instr.makeMap 94 none).run Tryz.prog W = .ok (.map (some W.heap.size)) (W.alloc (.map #[] 0)) := fun W => run_makeMap _ W
  obtain ⟨W1, hW1⟩ : ∃ W, W = w.alloc (.map #[] 0) := ⟨_, rfl⟩
  have g1 : w.grownBy W1 none := by rw [hW1]; exact gb_alloc (gb_refl _ _) _
  have hs1 : W1.heap.size = w.heap.size + 1 := by rw [hW1]; simp
  have hM1 : MapAt W1 w.heap.size (metK []) := by rw [hW1]; exact MapAt.new _
  obtain ⟨W2, hW2, hB2, g2⟩ : ∃ W, W = W1.alloc (.cells #[.slice none 0 0] 134) ∧ Blk W W1.heap.size 134 [.slice none 0 0] ∧ W1.grownBy W none := box_new W1 _ _
  rw [hs1] at hB2
  have G2 := tn g1 g2
  have hW : W2 = (w.alloc (.map #[] 0)).alloc (.cells #[.slice none 0 0] 134) := by rw [hW2, hW1]
  have hzp := zero_pile
  have eg := hN.enter
  obtain ⟨n, hn⟩ : ∃ n, n = R.length := ⟨_, rfl⟩
  have hst0 : Piles w w.heap.size w.heap.size (w.heap.size + 1) U ao W2 [] [] ∧ Ids W2 ao c R ∧ (∀ ad, ao = some ad → ad.block < W2.heap.size ∧ ad.block ≠ w.heap.size + 1 ∧ ad.block ≠ w.heap.size) :=
    ⟨⟨G2, hM1.none g2, ⟨_, ⟨hB2, World.ownsRow_nil _ _ _ _, (fun _ h => by simp at h), Nat.le_succ _⟩, fun _ _ h => by cases h⟩, fun _ h => by simp at h⟩, hR.none G2, fun ad e => by have := hRa ad e; have := G2.size; omega⟩
  have cm := meet_any W2 74 (.pointer (some ⟨w.heap.size + 1, 0, none⟩)) w.heap.size ao c R [] [] _ (piles_works w w.heap.size w.heap.size (w.heap.size + 1) U (Nat.le_refl _) (Nat.le_refl _) hU ao c R h0) hst0 (Nat.le_refl _) hRl
  rw [← hn] at cm ⊢
  have HW := hide hW
  have HN := hide hN
  have H0 := hide h0
  have H1 := hide h1
  have HU := hide hU
  clear hW hW1 hW2 hs1 hM1 hB2 g1 g2 hst0 hN h0 h1 hU hRl hn hR hRa G2
  go_enter Tryz.func45, Tryz.ntmps45
  go_wp2_with (rw [← unhide HW])
  refine cm.mono ?_
  rintro e w3 ⟨rfl, hS3, _⟩
  have HS3 := hide hS3
  clear cm hS3
  go_wp2_with fail
  go_loopg [] (2 * U.length) (fun k wr => ∃ K L, Hid (Piles w w.heap.size w.heap.size (w.heap.size + 1) U none wr K L ∧ Runs nx R U K L) ∧ 2 * (U.length - K.length) + L.length ≤ k)
  case atStart =>
    refine ⟨newOf [] R, newOf [] R, ⟨?_, Runs.first (unhide H0)⟩, ?_⟩
    · have h := unhide HS3
      simp only [List.nil_append] at h
      obtain ⟨v, p1, _⟩ := h.pile
      exact ⟨h.gb, h.map, ⟨v, p1, fun _ e => by cases e⟩, h.all⟩
    · have h := (unhide HS3).map.once
      rw [metK_keys, List.nil_append] at h
      have := nodup_le h (fun x hx => unhide H0 x (newOf_in hx))
      omega
  case round =>
    obtain ⟨K, L, HP, hk⟩ := hrel
    obtain ⟨v, p1, _⟩ := (unhide HP).1.pile
    obtain ⟨av, cv, rfl⟩ := own_sl p1.own
    have hcell := p1.blk.cell 0
    simp only [List.getElem?_cons_zero] at hcell
    rcases List.eq_nil_or_concat L with rfl | ⟨L', x, rfl⟩
    · rw [List.length_nil] at hcell
      have hR := (unhide HP).2.end
      have hM := (unhide HP).1.map
      have hG := (unhide HP).1.gb
      have HR := hide hR
      clear hR HP p1 hk
      go_wp2
      go_ret
      exact ⟨_, K, rfl, hM, Nat.le_refl _, unhide HR, hG⟩
    · rw [List.concat_eq_append] at *
      have hlL : (L' ++ [x]).length = L'.length + 1 := by simp
      rw [hlL] at hcell hk
      have hx : x.length = 32 := p1.ids x (by simp)
      have hKn : K.Nodup := by have := (unhide HP).1.map.once; rwa [metK_keys] at this
      have hKU := nodup_le hKn (unhide HP).1.all
      have hLK := (unhide HP).2.le
      rw [hlL] at hLK
      have hUU := unhide HU
      have ct := ptake_any wr w.heap.size (w.heap.size + 1) _ L' x p1 (by omega)
      obtain ⟨l, hl⟩ : ∃ l, l = L'.length := ⟨_, rfl⟩
      rw [← hl] at hcell
      have HK := hide hk
      have HL := hide hl
      have HX := hide hx
      have hpos : (0 : Int) < (l : Int) + 1 := by omega
      clear hk hl hx hKn hKU hLK hUU hlL p1
      go_wp2_with fail
      refine ct.mono ?_
      rintro e w4 ⟨rfl, v4, q1, q2, q3⟩
      have hG4 : w.grownBy w4 none := gb_trans (unhide HP).1.gb q2 (fun y e => Or.inl (by cases e; exact Nat.le_succ _))
      have hM4 : MapAt w4 w.heap.size (metK K) := (unhide HP).1.map.kept q2 (by simp)
      have cn := (unhide HN).call hG4 (unhide HX)
      clear ct q2 q3
      go_wp2_with fail
      refine cn.mono ?_
      rintro e w5 ⟨v5, rfl, ho5, g5⟩
      obtain ⟨a5, c5, rfl, hI5⟩ := Ids.own ho5 ((unhide HN).wide x)
      have hP5 := q1.none g5
      have hM5 := hM4.none g5
      have hst5 : Piles w w.heap.size w.heap.size (w.heap.size + 1) U a5 w5 K L' ∧ Ids w5 a5 c5 (nx x) ∧ (∀ ad, a5 = some ad → ad.block < w5.heap.size ∧ ad.block ≠ w.heap.size + 1 ∧ ad.block ≠ w.heap.size) := by
        have hlt4 := q1.blk.lt
        have had : ∀ ad, a5 = some ad → w4.heap.size ≤ ad.block ∧ ad.block < w5.heap.size := fun ad e => ho5.lt ad.block (by rw [e]; rfl)
        refine ⟨⟨tn hG4 g5, hM5, ⟨v4, hP5, fun ad e e2 => ?_⟩, (unhide HP).1.all⟩, hI5, fun ad e => ?_⟩
        · have := (q1.own.lt _ e2).2
          have := (had ad e).1
          omega
        · have := had ad e
          omega
      have cm := meet_any w5 74 (.pointer (some ⟨w.heap.size + 1, 0, none⟩)) w.heap.size a5 c5 (nx x) K L' _ (piles_works w w.heap.size w.heap.size (w.heap.size + 1) U (Nat.le_refl _) (Nat.le_refl _) (unhide HU) a5 c5 (nx x) (unhide H1 x)) hst5 (by have := (unhide HP).2.le; simp at this; omega) ((unhide HN).few x)
      have HR := hide ((unhide HP).2.step (unhide H1))
      clear cn q1 ho5 g5 hI5 hP5 hM5 hst5 hM4 hG4 HP
      go_wp2_with fail
      refine cm.mono ?_
      rintro e w6 ⟨rfl, hS6, _⟩
      have HS6 := hide hS6
      clear cm hS6
      go_wp2_with fail
      go_roundg (2 * (U.length - (K ++ newOf K (nx x)).length) + (L' ++ newOf K (nx x)).length)
      case measure =>
        have h := (unhide HS6).map.once
        rw [metK_keys] at h
        have h2 := nodup_le h (unhide HS6).all
        have h3 := unhide HK
        simp only [List.length_append] at h2 ⊢
        omega
      case rel =>
        obtain ⟨v, p1, _⟩ := (unhide HS6).pile
        exact ⟨_, _, ⟨⟨(unhide HS6).gb, (unhide HS6).map, ⟨v, p1, fun _ e => by cases e⟩, (unhide HS6).all⟩, unhide HR⟩, Nat.le_refl _⟩

end Go.Proofs.YtlifmipnoeioaaaGreatDoor
