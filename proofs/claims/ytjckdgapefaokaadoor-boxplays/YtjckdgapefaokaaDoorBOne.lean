/- A box, as functions of lists: what is drawn, sealed, known and opened, in both modes; and what its laws lean on. No program is spoken of here. No condition but those that each lemma names. -/
import Derived.Test.YtjckdgapefaokaaDoorDMath
import Derived.Test.YtjckdgapefaokaaDoorPRefK
import Derived.Test.YtjckdgapefaokaaDoorCStream
import Derived.Test.YtjckdgapefaokaaDoorMStr
import Derived.Test.YtjckdgapefaokaaDoorMLst
import Derived.Test.YtjckdgapefaokaaDoorKEqual
import Derived.Test.YtjckdgapefaokaaDoorMApp
namespace Go.Proofs.YtjckdgapefaokaaDoor

/-- What was sealed: the sealed text; its key, what was beside it, and the text (in the mode Real: none). -/
structure Ent where
  s : List UInt8
  k : List UInt8
  be : List UInt8
  tx : List UInt8
deriving Inhabited, DecidableEq

/-- A box: its mode, its source's texts, how many bytes were told, what was sealed. -/
structure BoxS where
  mode : Nat
  T : List UInt8
  u : Nat
  L : List Ent

/-- The sealed texts. -/
def BoxS.ss (b : BoxS) : List (List UInt8) := b.L.map (·.s)
/-- WAS IT SEALED HERE? -/
def BoxS.known (b : BoxS) (s : List UInt8) : Bool := b.ss.contains s

/-- In the mode Ideal: n tries are left. -/
def BoxS.tries (k be tx : List UInt8) : Nat → BoxS → BoxS × Option (List UInt8)
  | 0, b => (b, none)
  | n + 1, b => if b.known (told b.T b.u (tx.length + 28)) then BoxS.tries k be tx n { b with u := b.u + (tx.length + 28) }
    else ({ b with u := b.u + (tx.length + 28), L := b.L ++ [⟨told b.T b.u (tx.length + 28), k, be, tx⟩] }, some (told b.T b.u (tx.length + 28)))

/-- WHAT IS SEALED, and the box behind it. -/
def BoxS.seal (b : BoxS) (k be tx : List UInt8) : BoxS × Option (List UInt8) :=
  if b.mode = 0 then ({ b with u := b.u + 12, L := b.L ++ [⟨told b.T b.u 12 ++ sealL k (told b.T b.u 12) be tx, [], [], []⟩] }, some (told b.T b.u 12 ++ sealL k (told b.T b.u 12) be tx))
  else b.tries k be tx 8

/-- WHAT IS OPENED. -/
def BoxS.opn (b : BoxS) (k be s : List UInt8) : Option (List UInt8) :=
  if b.mode = 0 then (if s.length < 28 then none else if openB k (s.take 12) be (s.drop 12) then some (openL k (s.take 12) be (s.drop 12)) else none)
  else (b.L.find? fun e => e.s == s && (e.k == k && e.be == be)).map (·.tx)

theorem BoxS.tries_kept (k be tx : List UInt8) : ∀ (n : Nat) (b : BoxS), (b.tries k be tx n).1.mode = b.mode ∧ (b.tries k be tx n).1.T = b.T
  | 0, _ => ⟨rfl, rfl⟩
  | n + 1, b => by
    unfold BoxS.tries
    split
    · exact BoxS.tries_kept k be tx n _
    · exact ⟨rfl, rfl⟩

/-- In the mode Ideal the sealed bytes hang on lengths and draws alone. -/
theorem BoxS.alike (k1 be1 t1 k2 be2 t2 : List UInt8) (ht : t1.length = t2.length) : ∀ (n : Nat) (a b : BoxS), a.T = b.T → a.u = b.u → a.ss = b.ss →
    (a.tries k1 be1 t1 n).2 = (b.tries k2 be2 t2 n).2 ∧ (a.tries k1 be1 t1 n).1.u = (b.tries k2 be2 t2 n).1.u ∧ (a.tries k1 be1 t1 n).1.ss = (b.tries k2 be2 t2 n).1.ss
  | 0, a, b, _, h2, h3 => ⟨rfl, h2, h3⟩
  | n + 1, a, b, h1, h2, h3 => by
    have hk : a.known (told a.T a.u (t1.length + 28)) = b.known (told b.T b.u (t2.length + 28)) := by unfold BoxS.known; rw [h1, h2, h3, ht]
    unfold BoxS.tries
    rw [hk]
    split
    · exact BoxS.alike k1 be1 t1 k2 be2 t2 ht n _ _ h1 (by simp only; rw [h2, ht]) h3
    · refine ⟨by rw [h1, h2, ht], by simp only; rw [h2, ht], ?_⟩
      have h4 : a.L.map (fun e : Ent => e.s) = b.L.map (fun e : Ent => e.s) := h3
      unfold BoxS.ss
      simp only [List.map_append, List.map_cons, List.map_nil]
      rw [h4, h1, h2, ht]

/-- The sealed texts are apart. -/
theorem find_one (P : Ent → Bool) : ∀ (L : List Ent) (e : Ent), (L.map (·.s)).Nodup → e ∈ L → (L.find? fun x => x.s == e.s && P x) = if P e then some e else none
  | [], _, _, h => by simp at h
  | x :: L, e, hn, he => by
    rw [List.map_cons, List.nodup_cons] at hn
    rcases List.mem_cons.1 he with rfl | he
    · rw [List.find?_cons]
      cases hp : P e with
      | true => simp
      | false =>
        simp only [beq_self_eq_true, Bool.and_false]
        rw [List.find?_eq_none.2]
        · simp
        · intro y hy hc
          rw [Bool.and_eq_true, beq_iff_eq] at hc
          exact hn.1 (by rw [← hc.1]; exact List.mem_map_of_mem hy)
    · have hne : x.s ≠ e.s := fun h => hn.1 (by rw [h]; exact List.mem_map_of_mem he)
      rw [List.find?_cons, show (x.s == e.s && P x) = false by rw [beq_eq_false_iff_ne.2 hne]; rfl]
      exact find_one P L e hn.2 he

theorem opn_known {b : BoxS} (hm : b.mode = 1) {k be s x : List UInt8} (h : b.opn k be s = some x) : b.known s = true := by
  unfold BoxS.opn at h
  rw [if_neg (by rw [hm]; omega), Option.map_eq_some_iff] at h
  obtain ⟨e, he, _⟩ := h
  have h1 := List.mem_of_find?_eq_some he
  have h2 := List.find?_some he
  rw [Bool.and_eq_true, beq_iff_eq] at h2
  unfold BoxS.known
  rw [List.contains_iff_mem, ← h2.1]
  exact List.mem_map_of_mem h1

theorem BoxS.tries_nodup (k be tx : List UInt8) : ∀ (n : Nat) (b : BoxS), b.ss.Nodup → (b.tries k be tx n).1.ss.Nodup
  | 0, _, h => h
  | n + 1, b, h => by
    unfold BoxS.tries
    split
    · exact BoxS.tries_nodup k be tx n _ h
    · rename_i hk
      have hn : told b.T b.u (tx.length + 28) ∉ b.L.map (fun e : Ent => e.s) := fun hm => hk (by unfold BoxS.known; rw [List.contains_iff_mem]; exact hm)
      have h4 : (b.L.map (fun e : Ent => e.s)).Nodup := h
      unfold BoxS.ss
      simp only [List.map_append, List.map_cons, List.map_nil]
      rw [List.nodup_append]
      refine ⟨h4, by simp, ?_⟩
      intro x hx y hy e
      have hy' : y = told b.T b.u (tx.length + 28) := by simpa using hy
      exact hn (by rw [← hy', ← e]; exact hx)

/-- In the mode Ideal: what was sealed is opened by its key, with what was beside it, and by nothing else. -/
theorem opn_of {b : BoxS} (hm : b.mode = 1) (hn : b.ss.Nodup) {e : Ent} (he : e ∈ b.L) (k be : List UInt8) : b.opn k be e.s = if k = e.k ∧ be = e.be then some e.tx else none := by
  unfold BoxS.opn
  rw [if_neg (by rw [hm]; omega), find_one (fun x => x.k == k && x.be == be) b.L e hn he]
  by_cases h : k = e.k ∧ be = e.be
  · obtain ⟨rfl, rfl⟩ := h
    simp
  · rw [if_neg h, if_neg]
    · rfl
    · rw [Bool.and_eq_true, beq_iff_eq, beq_iff_eq]
      exact fun hc => h ⟨hc.1.symm, hc.2.symm⟩

/-- In the mode Real: what is sealed is opened by its key, whatever the box. -/
theorem opn_real {b c : BoxS} (hc : c.mode = 0) (k be tx : List UInt8) : c.opn k be (told b.T b.u 12 ++ sealL k (told b.T b.u 12) be tx) = some tx := by
  have h12 : (told b.T b.u 12).length = 12 := told_length _ _ _
  unfold BoxS.opn
  rw [if_pos hc, if_neg (by rw [List.length_append, h12, sealL_length]; omega), List.take_left' h12, List.drop_left' h12, open_seal, if_pos rfl, open_text]

end Go.Proofs.YtjckdgapefaokaaDoor

/- What layer 6's functions are to answer (AeadC: proved apart, for the landed code). -/
namespace Go.Proofs.YtjckdgapefaokaaDoor
open Go.RowKit

/-- What Seal, Open and Tag answer. -/
structure AeadC : Prop where
  sealed : ∀ (w : World) (k n be t : List UInt8) (bo xo : Option Addr) (cb cx : Nat), k.length = 32 → n.length = 12 → Bts w bo cb be → Bts w xo cx t → be.length ≤ 2000 → t.length ≤ 2000 → CTab w →
    Calls Tryd.prog 23 #[.agg (k.map bv).toArray, .agg (n.map bv).toArray, .slice bo be.length cb, .slice xo t.length cx] w fun e w' => ∃ v, e = .returned v ∧ NewB w w' v (sealL k n be t) ∧ w.grownBy w' none
  opened : ∀ (w : World) (k n be y : List UInt8) (bo xo : Option Addr) (cb cx : Nat), k.length = 32 → n.length = 12 → Bts w bo cb be → Bts w xo cx y → be.length ≤ 2000 → y.length ≤ 2000 → CTab w →
    Calls Tryd.prog 47 #[.agg (k.map bv).toArray, .agg (n.map bv).toArray, .slice bo be.length cb, .slice xo y.length cx] w fun e w' => ∃ v, e = .returned (.tuple #[v, .bool (openB k n be y)]) ∧ NewB w w' v (openL k n be y) ∧ w.grownBy w' none
  tag : ∀ (w : World) (k n be x : List UInt8) (bo xo : Option Addr) (cb cx : Nat), k.length = 32 → n.length = 12 → Bts w bo cb be → Bts w xo cx x → be.length ≤ 2000 → x.length ≤ 2000 → CTab w →
    Calls Tryd.prog 38 #[.agg (k.map bv).toArray, .agg (n.map bv).toArray, .slice bo be.length cb, .slice xo x.length cx] w fun e w' => e = .returned (.agg ((tagA k n be x).map bv).toArray) ∧ w.grownBy w' none

theorem Bts.short {w : World} {ao : Option Addr} {c : Nat} {l : List UInt8} (h : Bts w ao c l) (m : Nat) : Bts w ao c (l.take m) := by
  by_cases hm : m ≤ l.length
  · exact h.take m hm
  · rw [List.take_of_length_le (by omega)]; exact h

end Go.Proofs.YtjckdgapefaokaaDoor

/- What Seal answers, by what Tag answers. -/
namespace Go.Proofs.YtjckdgapefaokaaDoor
open Go.RowKit

/-- A block that is known whole is a row of the call's own. -/
theorem own_of_blk {V : World} {base b : Nat} {l : List UInt8} (h : Blk V b 5 (l.map bv)) (hb : base ≤ b) (hl : l.length ≤ maxLen) : V.ownsRow base 5 1 (.slice (some ⟨b, 0, none⟩) l.length l.length) l.length (l.map bv) :=
  ⟨by simp, .inr ⟨b, l.length, (l.map bv).toArray, rfl, hb, h, Nat.le_refl _, hl, by simp, by rw [Nat.mul_one]; exact List.take_of_length_le (by simp)⟩⟩
theorem own_at {V : World} {base b m : Nat} {l : List UInt8} (h : Blk V b 5 (l.map bv)) (hb : base ≤ b) (hm : m = l.length) (h2 : m ≤ 2000) : V.ownsRow base 5 1 (.slice (some ⟨b, 0, none⟩) m m) m (l.map bv) := by
  subst hm
  exact own_of_blk h hb (by unfold maxLen; omega)
def TagC : Prop := ∀ (w : World) (k n be x : List UInt8) (bo xo : Option Addr) (cb cx : Nat), k.length = 32 → n.length = 12 → Bts w bo cb be → Bts w xo cx x → be.length ≤ 2000 → x.length ≤ 2000 → CTab w →
    Calls Tryd.prog 38 #[.agg (k.map bv).toArray, .agg (n.map bv).toArray, .slice bo be.length cb, .slice xo x.length cx] w fun e w' => e = .returned (.agg ((tagA k n be x).map bv).toArray) ∧ w.grownBy w' none
theorem zero16s (w : World) : (zeroValue 93).run Tryd.prog w = .ok (.agg ((List.replicate 16 (0 : UInt8)).map bv).toArray) w := by kernel_rfl
theorem new_row16 (w2 : World) (Z : Array Value) (hZ : Z = ((List.replicate 16 (0 : UInt8)).map bv).toArray) (T : List UInt8) : ∃ W3, W3 = (w2.alloc (.cells Z 93)).setRow w2.heap.size (T.map bv).toArray ∧ Blk W3 w2.heap.size 93 (T.map bv) ∧ w2.grownBy W3 none := by
  refine ⟨_, rfl, ?_, gb_row (gb_alloc (gb_refl _ _) _) _ (Or.inl (Nat.le_refl _))⟩
  subst hZ
  exact (Blk.new w2 93 ((List.replicate 16 (0 : UInt8)).map bv)).row _

set_option maxRecDepth 100000 in
set_option maxHeartbeats 1000000 in
theorem seal_of (hTag : TagC) (w : World) (k n be t : List UInt8) (bo xo : Option Addr) (cb cx : Nat) (hk : k.length = 32) (hn : n.length = 12) (hb : Bts w bo cb be) (hx : Bts w xo cx t) (hbe : be.length ≤ 2000) (ht : t.length ≤ 2000) (hT : CTab w) :
    Calls Tryd.prog 23 #[.agg (k.map bv).toArray, .agg (n.map bv).toArray, .slice bo be.length cb, .slice xo t.length cx] w fun e w' => ∃ v, e = .returned v ∧ NewB w w' v (sealL k n be t) ∧ w.grownBy w' none := by
  have tr : ∀ {x y z : World}, x.grownBy y none → y.grownBy z none → x.grownBy z none := fun h k => gb_trans h k (fun _ e => by cases e)
  have hi32 : (Tryd.prog.info? 37).map (·.size) = some 32 := by kernel_rfl
  have hi12 : (Tryd.prog.info? 64).map (·.size) = some 12 := by kernel_rfl
  have hi16 : (Tryd.prog.info? 93).map (·.size) = some 16 := by kernel_rfl
  obtain ⟨Z, hZ⟩ : ∃ A : Array Value, A = ((List.replicate 16 (0 : UInt8)).map bv).toArray := ⟨_, rfl⟩
  have hz : ∀ w : World, (zeroValue 93).run Tryd.prog w = .ok (.agg Z) w := by rw [hZ]; exact zero16s
  obtain ⟨KA, hKA⟩ : ∃ A : Array Value, A = (k.map bv).toArray := ⟨_, rfl⟩
  obtain ⟨NA, hNA⟩ : ∃ A : Array Value, A = (n.map bv).toArray := ⟨_, rfl⟩
  have hsK : KA.size = 32 := by rw [hKA]; simp [hk]
  have hsN : NA.size = 12 := by rw [hNA]; simp [hn]
  obtain ⟨W1, hW1⟩ : ∃ W1, W1 = (w.alloc (.cells KA 37)).alloc (.cells NA 64) := ⟨_, rfl⟩
  have hs1 : W1.heap.size = w.heap.size + 2 := by rw [hW1, World.size_alloc, World.size_alloc]
  have hg1 : w.grownBy W1 none := by rw [hW1]; exact gb_alloc (gb_alloc (gb_refl _ _) _) _
  have hK1 : Blk W1 w.heap.size 37 (k.map bv) := by rw [hW1, hKA]; exact (Blk.new w 37 _).alloc _
  have hN1 : Blk W1 (w.heap.size + 1) 64 (n.map bv) := by
    have := Blk.new (w.alloc (.cells KA 37)) 64 (n.map bv)
    rw [World.size_alloc] at this
    rw [hW1, hNA]; exact this
  have kb : ∀ V, W1.grownBy V none → V.heap[w.heap.size]? = some (.cells KA 37 (0, 0)) := fun V gV => by rw [hKA]; exact hK1.kept gV (by simp)
  have nb : ∀ V, W1.grownBy V none → V.heap[w.heap.size + 1]? = some (.cells NA 64 (0, 0)) := fun V gV => by rw [hNA]; exact hN1.kept gV (by simp)
  obtain ⟨s, hs⟩ : ∃ s, s = streamL k n 1 t := ⟨_, rfl⟩
  have hsl : s.length = t.length := by rw [hs, streamL_length]
  obtain ⟨T, hTg⟩ : ∃ T, T = tagA k n be s := ⟨_, rfl⟩
  have hTl : T.length = 16 := by rw [hTg]; exact tagA_length _ _ _ _
  have hsT : ((T.map bv).toArray).size = 16 := by simp [hTl]
  have hseal : sealL k n be t = s ++ T := by rw [sealL, hTg, hs]
  have cSt : ∀ V, w.grownBy V none → Calls Tryd.prog 37 #[.agg KA, .agg NA, .int .u32 1, .slice xo t.length cx] V fun e w' => e = .returned (.slice (some ⟨V.heap.size + 2, 0, none⟩) s.length s.length) ∧ Blk w' (V.heap.size + 2) 5 (s.map bv) ∧ V.grownBy w' none := fun V gV => by
    have h := stream_any V k n 1 hk hn xo cx t (hx.kept gV (fun _ e => by cases e)) (by omega) (hT.kept0 gV)
    rw [show wz 1 = 1 from rfl, ← hs, ← hKA, ← hNA] at h
    rw [hsl]; exact h
  have cTg : ∀ V p, w.grownBy V none → Blk V p 5 (s.map bv) → Calls Tryd.prog 38 #[.agg KA, .agg NA, .slice bo be.length cb, .slice (some ⟨p, 0, none⟩) s.length s.length] V fun e w' => e = .returned (.agg (T.map bv).toArray) ∧ V.grownBy w' none := fun V p gV hB => by
    have h := hTag V k n be s bo (some ⟨p, 0, none⟩) cb s.length hk hn (hb.kept gV (fun _ e => by cases e)) (blk_bytes hB s.length (Nat.le_refl _) (by unfold maxLen; omega)) hbe (by omega) (hT.kept0 gV)
    rw [← hTg, ← hKA, ← hNA] at h
    exact h
  have slT : ∀ (p : Nat) (W : World), (Instr.sliceAt 93 (.pointer (some ⟨p, 0, none⟩)) none none none).run Tryd.prog W = .ok (.slice (some ⟨p, 0, none⟩) 16 16) W := fun p W => slice_whole5 93 5 16 Tryd.underlying93 size_byte p 0 (by omega) W
  obtain ⟨m, hm⟩ : ∃ m, m = s.length := ⟨_, rfl⟩
  have hm2 : m ≤ 2000 := by omega
  rw [← hKA, ← hNA, hseal]
  rw [← hm] at cSt cTg
  have HKB := hide kb
  have HNB := hide nb
  have HSK := hide hsK
  have HSN := hide hsN
  have HST := hide hsT
  have HTL := hide hTl
  have HW1 := hide hW1
  have HZ := hide hZ
  have HM := hide hm
  clear hKA hNA hsK hsN hW1 hK1 hN1 kb nb hs hsl hTg hTl hsT hseal hZ hm hb hx hT hTag hk hn hbe ht
  go_enter Tryd.func23, Tryd.ntmps23
  go_wp2_with (first
    | (rw [← unhide HW1]; clear HW1; have gg := gb_refl W1 none; refine wpList_load_row rfl 37 _ rfl w.heap.size rfl _ _ _ _ (unhide HKB _ gg) Tryd.underlying37 rfl ?_ ?_; (rw [unhide HSK]; exact hi32))
    | (refine wpList_load_row rfl 37 _ rfl w.heap.size rfl _ _ _ _ (unhide HKB _ gg) Tryd.underlying37 rfl ?_ ?_; (rw [unhide HSK]; exact hi32))
    | (refine wpList_load_row rfl 64 _ rfl (w.heap.size + 1) rfl _ _ _ _ (unhide HNB _ gg) Tryd.underlying64 rfl ?_ ?_; (rw [unhide HSN]; exact hi12))
    | (go_at_call 37; refine (cSt _ hg1).mono ?_; rintro e w2 ⟨rfl, hS2, g2⟩; clear cSt; rw [hs1] at hS2; clear gg; have gg := g2; have HS2 := hide hS2; clear hS2)
    | (go_at_call 38; refine (cTg _ _ (tr hg1 gg) (unhide HS2)).mono ?_; rintro e w3 ⟨rfl, g3⟩; clear cTg)
    | (refine wpList_store_row rfl 93 _ _ rfl w3.heap.size _ rfl rfl _ _ (heap_alloc_new w3 (.cells Z 93)) ?_ ?_ ?_ ?_; (rw [unhide HST]; exact hi16); (rw [unhide HST, unhide HZ]; rfl); (exact all_oneCell_toArray (bv_one _)); obtain ⟨W4, hW4, hT4, g4⟩ := new_row16 w3 Z (unhide HZ) T; rw [← hW4]; clear hW4; have hO4 := own_at (base := w.heap.size) ((unhide HS2).kept (tr g3 g4) (by simp)) (by omega) (unhide HM) hm2; have hB4 := blk_bytes hT4 16 (by rw [unhide HTL]; omega) (by decide); have HO4 := hide hO4; have HB4 := hide hB4; have GG4 := tr hg1 (tr gg (tr g3 g4)); clear hT4 hO4 hB4)
    | (refine wpList_append_btm rfl _ _ rfl w.heap.size _ m (s.map bv) rfl (unhide HO4) _ 16 T (unhide HB4) 16 (unhide HTL).symm rfl (by omega) GG4.size ?_; intro v5 w5 hO5 g5))
  have hO6 : w5.ownsRow w.heap.size 5 1 v5 (s ++ T).length ((s ++ T).map bv) := by
    rw [List.length_append, List.map_append, unhide HTL, ← unhide HM]; exact hO5
  have GG5 : w.grownBy w5 none := gb_trans GG4 g5 (fun x e => Or.inl (by
    have e2 : some (w.heap.size + 2 + 2) = some x := e
    injection e2 with e3
    omega))
  go_ret
  exact ⟨_, rfl, NewB.own hO6, GG5⟩
end Go.Proofs.YtjckdgapefaokaaDoor

/- What parted and check answer, or throw. No condition but those that each lemma names. -/
namespace Go.Proofs.YtjckdgapefaokaaDoor
open Go.RowKit

set_option maxRecDepth 100000 in
set_option maxHeartbeats 1000000 in
theorem parted_short (w : World) (xo : Option Addr) (cx m : Nat) (hm : m < 16) :
    Calls Tryd.prog 66 #[.slice xo m cx] w fun e w' => (∃ s, e = .panicked [{ v := .iface 25 s, recovered := false }]) ∧ w.grownBy w' none := by
  have q3 : (m : Int) < 16 := by omega
  go_enter Tryd.func66, Tryd.ntmps66
  go_wp2
  exact ⟨rfl, ⟨_, rfl⟩, gb_refl _ _⟩

set_option maxRecDepth 100000 in
set_option maxHeartbeats 1000000 in
theorem parted_any (w : World) (xo : Option Addr) (cx a : Nat) (hc : a + 16 ≤ cx) (hb : a ≤ 100000) :
    Calls Tryd.prog 66 #[.slice xo (a + 16) cx] w fun e w' => e = .returned (.tuple #[.slice xo a cx, .slice (cutA xo cx a) 16 (cx - a)]) ∧ w.grownBy w' none := by
  obtain ⟨m, hm⟩ : ∃ m, m = a + 16 := ⟨_, rfl⟩
  have hto := fun W => slice_to (P := Tryd.prog) W 22 5 Tryd.underlying22 size_byte xo m cx a (by omega)
  have hfr := fun W => slice_from (P := Tryd.prog) W 22 5 Tryd.underlying22 size_byte xo m cx a (by omega)
  rw [show m - a = 16 by omega] at hfr
  have q3 : ¬ (m : Int) < 16 := by omega
  have q1 : (m : Int) - 16 = (a : Int) := by omega
  have q2 : IntKind.i64.wrap (a : Int) = (a : Int) := by rw [IntKind.wrap_i64]; omega
  rw [← hm]
  clear hm hc hb
  go_enter Tryd.func66, Tryd.ntmps66
  go_wp2
  go_quiet (fail)
  go_wp2
  go_ret2
  exact ⟨rfl, gb_drewN (gb_refl _ _) _⟩

set_option maxRecDepth 100000 in
set_option maxHeartbeats 1000000 in
theorem check_same (w : World) (T : List UInt8) (hT : T.length = 16) (ao : Option Addr) (c : Nat) (hy : Bts w ao c T) :
    Calls Tryd.prog 67 #[.agg (T.map bv).toArray, .slice ao 16 c] w fun e w' => e = .returned (.tuple #[]) ∧ w.grownBy w' none := by
  have hg1 := gb_alloc (gb_refl w none) (.cells (T.map bv).toArray 93)
  have hB1 := Blk.new w 93 (T.map bv)
  have he := equal_any _ (some ⟨w.heap.size, 0, none⟩) ao 16 c T T (blk_bytes hB1 16 (by omega) (by decide)) (hy.kept hg1 (fun _ e => by cases e))
  rw [hT, decide_eq_true rfl] at he
  have slT : ∀ (p : Nat) (W : World), (Instr.sliceAt 93 (.pointer (some ⟨p, 0, none⟩)) none none none).run Tryd.prog W = .ok (.slice (some ⟨p, 0, none⟩) 16 16) W := fun p W => slice_whole5 93 5 16 Tryd.underlying93 size_byte p 0 (by omega) W
  obtain ⟨TA, hTA⟩ : ∃ A : Array Value, A = (T.map bv).toArray := ⟨_, rfl⟩
  rw [← hTA] at he hg1 ⊢
  obtain ⟨W1, hW1⟩ : ∃ W1, W1 = w.alloc (.cells TA 93) := ⟨_, rfl⟩
  rw [← hW1] at he hg1
  have HW1 := hide hW1
  clear hTA hW1 hB1 hy hT
  go_enter Tryd.func67, Tryd.ntmps67
  go_wp2_with (go_at_call 91; rw [← unhide HW1]; refine he.mono ?_; rintro e w2 ⟨rfl, rfl⟩; clear he)
  go_end0
  exact ⟨rfl, hg1⟩

set_option maxRecDepth 100000 in
set_option maxHeartbeats 1000000 in
theorem check_other (w : World) (T y : List UInt8) (hT : T.length = 16) (ao : Option Addr) (c : Nat) (hy : Bts w ao c y) (hl : y.length = 16) (hne : T ≠ y) :
    Calls Tryd.prog 67 #[.agg (T.map bv).toArray, .slice ao 16 c] w fun e w' => (∃ s, e = .panicked [{ v := .iface 25 s, recovered := false }]) ∧ w.grownBy w' none := by
  have hg1 := gb_alloc (gb_refl w none) (.cells (T.map bv).toArray 93)
  have hB1 := Blk.new w 93 (T.map bv)
  have he := equal_any _ (some ⟨w.heap.size, 0, none⟩) ao 16 c T y (blk_bytes hB1 16 (by omega) (by decide)) (hy.kept hg1 (fun _ e => by cases e))
  rw [hT, hl, decide_eq_false hne] at he
  have slT : ∀ (p : Nat) (W : World), (Instr.sliceAt 93 (.pointer (some ⟨p, 0, none⟩)) none none none).run Tryd.prog W = .ok (.slice (some ⟨p, 0, none⟩) 16 16) W := fun p W => slice_whole5 93 5 16 Tryd.underlying93 size_byte p 0 (by omega) W
  obtain ⟨TA, hTA⟩ : ∃ A : Array Value, A = (T.map bv).toArray := ⟨_, rfl⟩
  rw [← hTA] at he hg1 ⊢
  obtain ⟨W1, hW1⟩ : ∃ W1, W1 = w.alloc (.cells TA 93) := ⟨_, rfl⟩
  rw [← hW1] at he hg1
  have HW1 := hide hW1
  clear hTA hW1 hB1 hy hT hl hne
  go_enter Tryd.func67, Tryd.ntmps67
  go_wp2_with (go_at_call 91; rw [← unhide HW1]; refine he.mono ?_; rintro e w2 ⟨rfl, rfl⟩; clear he)
  exact ⟨rfl, ⟨_, rfl⟩, hg1⟩

end Go.Proofs.YtjckdgapefaokaaDoor

/- What a box's law reckons of its small play: the first bytes of a source of no texts; that what one key sealed by them another one does not open. No condition but those that each lemma names. -/
namespace Go.Proofs.YtjckdgapefaokaaDoor

/-- The first bytes behind no texts. -/
def none12 : List UInt8 := [92, 93, 66, 220, 243, 159, 113, 192, 34, 108, 167, 32]

set_option maxRecDepth 100000 in
theorem none_sum : (sumAt [] 0).take 12 = none12 := by kernel_rfl

theorem none_told : told [] 0 12 = none12 := by
  have h := told_sum [] 0 12 (by omega)
  rw [← none_sum]
  simpa using h

/-- A key whose bytes are zeros but for its first. -/
def key1 (x : UInt8) : List UInt8 := x :: List.replicate 31 0
theorem key1_length (x : UInt8) : (key1 x).length = 32 := rfl

set_option maxRecDepth 100000 in
theorem other_key : openB (key1 2) none12 [] (sealL (key1 1) none12 [] [97, 98]) = false := by kernel_rfl

end Go.Proofs.YtjckdgapefaokaaDoor
