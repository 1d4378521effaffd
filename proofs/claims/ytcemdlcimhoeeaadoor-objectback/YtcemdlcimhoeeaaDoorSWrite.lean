/- What sha's Write leaves: the bytes are taken in behind those before; of any bytes, anywhere in memory but in the Hash's own block, where all together are fewer than 2 to the 60. -/
import Derived.Test.YtcemdlcimhoeeaaDoorSHash
namespace Go.Proofs.YtcemdlcimhoeeaaDoor
open Go.RowKit

/-- A slice value's length. -/
def lenS : Value → Nat
  | .slice _ n _ => n
  | _ => 0

theorem write_nil (w : World) (v : Value) :
    Calls Tryd.prog 58 #[.pointer none, v] w fun e w' => e = .returned (.tuple #[]) ∧ w' = w := by
  go_enter Tryd.func58, Tryd.ntmps58
  go_wp2
  refine bodyPost_ret (results_none rfl _ _ _) rfl ?_
  exact ⟨rfl, rfl⟩

theorem Blk.sized {w : World} {b : Nat} {t : TypeId} {pre post : List Value} {words : List W} {rest : List UInt8} {n : Nat} (h : Blk w b t (pre ++ (hc words rest n ++ post))) (h8 : words.length = 8) (h64 : rest.length = 64) (k : Nat) :
    Blk (w.setCell ⟨b, pre.length + 72, none⟩ (.int .u64 (k : Int))) b t (pre ++ (hc words rest k ++ post)) := by
  have h1 : Blk w b t ((pre ++ words.map wv ++ rest.map bv) ++ (.int .u64 (n : Int) :: post)) := by simpa [hc, List.append_assoc] using h
  have h2 : (pre ++ words.map wv ++ rest.map bv).length = pre.length + 72 := by simp [h8, h64]
  have h3 := h1.set (pre.length + 72) (.int .u64 (k : Int))
  rw [List.set_append_right _ _ (by omega), h2, Nat.sub_self, List.set_cons_zero] at h3
  simpa [hc, List.append_assoc] using h3

theorem Blk.worded {w : World} {b : Nat} {t : TypeId} {pre post : List Value} {words words' : List W} {rest : List UInt8} {n : Nat} (h : Blk w b t (pre ++ (hc words rest n ++ post))) (hl : words.length = words'.length) :
    Blk (w.setCells b pre.length (words'.map wv)) b t (pre ++ (hc words' rest n ++ post)) := by
  have h1 : Blk w b t (pre ++ (words.map wv ++ (rest.map bv ++ (.int .u64 (n : Int) :: post)))) := by simpa [hc, List.append_assoc] using h
  have h2 := Blk.setCells (words'.map wv) _ h1 (by simp [hl])
  simpa [hc, List.append_assoc] using h2

theorem Blk.sizeAt {w : World} {b : Nat} {t : TypeId} {pre post : List Value} {words : List W} {rest : List UInt8} {n : Nat} (h : Blk w b t (pre ++ (hc words rest n ++ post))) (h8 : words.length = 8) (h64 : rest.length = 64) :
    w.cell? ⟨b, pre.length + 72, none⟩ = some (.int .u64 (n : Int)) := by
  have h1 : Blk w b t ((pre ++ words.map wv ++ rest.map bv) ++ (.int .u64 (n : Int) :: post)) := by simpa [hc, List.append_assoc] using h
  have h2 : (pre ++ words.map wv ++ rest.map bv).length = pre.length + 72 := by simp [h8, h64]
  rw [h1.cell, List.getElem?_append_right (by omega), h2, Nat.sub_self]; rfl

set_option maxRecDepth 100000 in
set_option maxHeartbeats 1000000 in
theorem write_any (w : World) (b : Nat) (t : TypeId) (pre post : List Value) (words : List W) (rest l : List UInt8) (hH : HAt w b t pre post words rest l) (hT : Tabs w) (hG : Glb b)
    (ao : Option Addr) (c : Nat) (x : List UInt8) (hx : Bts w ao c x) (hoff : 0 < x.length → Off ao b) (hlen : l.length + x.length < 1152921504606846976) :
    Calls Tryd.prog 58 #[.pointer (some ⟨b, pre.length, none⟩), .slice ao x.length c] w fun e w' => e = .returned (.tuple #[]) ∧ (∃ words' rest', HAt w' b t pre post words' rest' (l ++ x)) ∧ w.grownBy w' (some b) := by
  go_enter Tryd.func58, Tryd.ntmps58
  go_wp2
  go_loopw [1] (fun sv wr => ∃ (done left : List UInt8) (ao : Option Addr) (c : Nat) (words : List W) (rest : List UInt8), x = done ++ left ∧ sv = .slice ao left.length c ∧ Bts wr ao c left ∧ (0 < left.length → Off ao b) ∧ HAt wr b t pre post words rest (l ++ done) ∧ w.grownBy wr (some b)) (fun sv _ => lenS sv)
  case atStart => exact ⟨[], x, ao, c, words, rest, rfl, rfl, hx, hoff, by simpa using hH, gb_refl _ _⟩
  case round =>
    clear hx hoff hH
    obtain ⟨done, left, ao, c, words, rest, hd, rfl, hx, hoff, hH, hg⟩ := hrel
    obtain ⟨o, ho⟩ : ∃ o, o = pre.length := ⟨_, rfl⟩
    rw [← ho]
    by_cases hlt : 0 < left.length
    · have hoff := hoff hlt
      have hz := hH.size
      obtain ⟨n, hn⟩ : ∃ n, n = (l ++ done).length := ⟨_, rfl⟩
      have hnl : n + left.length < 1152921504606846976 := by
        rw [hn, List.length_append]
        rw [hd, List.length_append] at hlen
        omega
      rw [← hn, ← ho] at hz
      obtain ⟨at', hat⟩ : ∃ at', at' = n % 64 := ⟨_, rfl⟩
      have hat1 : at' < 64 := by omega
      obtain ⟨ad, rfl⟩ : ∃ ad, ao = some ad := by
        cases ao with
        | none => have := hx.zip rfl; omega
        | some ad => exact ⟨ad, rfl⟩
      obtain ⟨m, hm⟩ : ∃ m, m = min left.length (64 - at') := ⟨_, rfl⟩
      have hm0 : 0 < m := by omega
      have hm1 : m ≤ left.length := by omega
      have hm2 : at' + m ≤ 64 := by omega
      have hm3 : at' + m < 64 → m = left.length := by omega
      have hsl := slice_arr_from 100 5 64 Tryd.underlying100 size_byte b (o + 8) at' (at' : Int) rfl hat1
      have hnm : (n : Int) % 64 = (at' : Int) := by omega
      have hT1 : Tabs wr := hT.kept hg (fun y e => by cases e; exact hG)
      obtain ⟨cs, hcs⟩ : ∃ cs, cs = left.take m := ⟨_, rfl⟩
      have hcl : cs.length = m := by rw [hcs, List.length_take]; omega
      have hrb := hH.rest
      have hol : (pre ++ words.map wv).length = o + 8 := by rw [List.length_append, List.length_map, hH.took.w8, ho]
      have hr64 := hH.took.r64
      have hw8 := hH.took.w8
      have hsplit : rest.map bv = (rest.take at').map bv ++ (((rest.drop at').take m).map bv ++ (rest.drop (at' + m)).map bv) := by
        rw [← List.map_append, ← List.map_append, ← List.drop_drop, List.take_append_drop, List.take_append_drop]
      have hblk : Blk wr b t ((pre ++ words.map wv ++ (rest.take at').map bv) ++ (((rest.drop at').take m).map bv ++ ((rest.drop (at' + m)).map bv ++ (.int .u64 (n : Int) :: post)))) := by
        rw [hsplit, ← hn] at hrb
        simpa [List.append_assoc] using hrb
      have hal : (pre ++ words.map wv ++ (rest.take at').map bv).length = o + 8 + at' := by
        rw [List.length_append, hol, List.length_map, List.length_take]; omega
      have hvl : (((rest.drop at').take m).map bv).length = m := by rw [List.length_map, List.length_take, List.length_drop]; omega
      have hth := hblk.thereIn
      rw [hal, hvl] at hth
      have hcp : (Builtin.copy_ #[32, 32] 3 #[.slice (some ⟨b, o + 8 + at', none⟩) (64 - at') (64 - at'), .slice (some ad) left.length c]).run Tryd.prog wr = .ok (goInt (cs.map bv).length) (wr.setCells b (o + 8 + at') (cs.map bv)) :=
        run_copy_cells wr _ _ _ 5 b (o + 8 + at') _ _ ad _ _ (cs.map bv) Tryd.underlying32 (by kernel_rfl) (by rw [List.length_map, hcl, hm]) (by rw [hcs]; exact (hx.take m hm1).news ad rfl) (fun j hj => (hth j (by rw [List.length_map, hcl] at hj; exact hj)).1) (fun j hj => (hth j (by rw [List.length_map, hcl] at hj; exact hj)).2) (bv_one _)
      rw [List.length_map, hcl] at hcp
      obtain ⟨W1, hW1⟩ : ∃ W1, W1 = wr.setCells b (o + 8 + at') (cs.map bv) := ⟨_, rfl⟩
      rw [← hW1] at hcp
      have hg1 : w.grownBy W1 (some b) := by rw [hW1]; exact gb_setCells (Or.inr rfl) _ _ hg
      have hg0 : wr.grownBy W1 (some b) := by rw [hW1]; exact gb_setCells (Or.inr rfl) _ _ (gb_refl _ _)
      have hB1 : Blk W1 b t (pre ++ (hc words (spliceL rest at' cs) n ++ post)) := by
        have := Blk.setCells (cs.map bv) _ hblk (by rw [hvl, List.length_map, hcl])
        rw [hal, ← hW1] at this
        simpa [hc, spliceL, hcl, List.append_assoc] using this
      have hx1 : Bts W1 (some ad) c left := hx.kept hg0 (fun y e => by cases e; exact hoff)
      have hfrom := fun W => slice_from (P := Tryd.prog) W 32 5 Tryd.underlying32 size_byte (some ad) left.length c m hm1
      have hT2 : Tabs W1 := hT1.kept hg0 (fun y e => by cases e; exact hG)
      have hsz1 : W1.cell? ⟨b, o + 72, none⟩ = some (.int .u64 (n : Int)) := by
        have h1 : Blk W1 b t ((pre ++ words.map wv ++ (spliceL rest at' cs).map bv) ++ (.int .u64 (n : Int) :: post)) := by simpa [hc, List.append_assoc] using hB1
        have h2 : (pre ++ words.map wv ++ (spliceL rest at' cs).map bv).length = o + 72 := by
          rw [List.length_append, hol, List.length_map, spliceL_length _ _ _ (by omega)]; omega
        rw [h1.cell, List.getElem?_append_right (by omega), h2, Nat.sub_self]; rfl
      have hfz1 := hB1.fz (o + 72)
      have hadd : IntKind.u64.wrap ((n : Int) + (m : Int)) = ((n + m : Nat) : Int) := by rw [IntKind.wrap_u64]; omega
      have HD := hide hd
      have HX := hide hx1
      have HH := hide hH
      have HO := hide ho
      have HN := hide hn
      have HA := hide hat
      have HM := hide hm
      have HCS := hide hcs
      have HCL := hide hcl
      have HB := hide hB1
      have HT := hide hT2
      have HW8 := hide hw8
      have HR64 := hide hr64
      have HOL := hide hol
      clear hd hx hx1 hH ho hn hat hlen hm hcs hcl hB1 hT2 hT1 hT hblk hsplit hal hvl hth hrb hW1 hg0 hw8 hr64 hol
      have hl0 : (0 : Int) < (left.length : Int) := by omega
      have hsl64 : (spliceL rest at' cs).length = 64 := by
        rw [spliceL_length _ _ _ (by rw [unhide HR64, unhide HCL]; omega), unhide HR64]
      have HS64 := hide hsl64
      clear hsl64
      have hfin : ∀ (V : World) (words' : List W), Blk V b t (pre ++ (hc words' (spliceL rest at' cs) n ++ post)) → Took words' (spliceL rest at' cs) (l ++ (done ++ cs)) → W1.grownBy V (some b) → ∀ z : Int, z = ((n + m : Nat) : Int) →
          ∃ (done' left' : List UInt8) (ao' : Option Addr) (c' : Nat) (words : List W) (rest : List UInt8), x = done' ++ left' ∧ Value.slice (cutA (some ad) c m) (left.length - m) (c - m) = .slice ao' left'.length c' ∧ Bts (V.setCell ⟨b, o + 72, none⟩ (.int .u64 z)) ao' c' left' ∧ (0 < left'.length → Off ao' b) ∧ HAt (V.setCell ⟨b, o + 72, none⟩ (.int .u64 z)) b t pre post words rest (l ++ done') ∧ w.grownBy (V.setCell ⟨b, o + 72, none⟩ (.int .u64 z)) (some b) := by
        intro V words' hBW htk hgW z hzz
        subst hzz
        refine ⟨done ++ cs, left.drop m, cutA (some ad) c m, c - m, words', spliceL rest at' cs, ?_, ?_, ?_, fun _ => cutA_off hoff, ⟨?_, htk⟩, ?_⟩
        · rw [unhide HD, unhide HCS, List.append_assoc, List.take_append_drop]
        · rw [List.length_drop]
        · exact (((unhide HX).drop m hm1).kept hgW (fun y e => by cases e; exact cutA_off hoff)).kept (gb_set V b (o + 72) _) (fun y e => by cases e; exact cutA_off hoff)
        · have := hBW.sized htk.w8 (unhide HS64) (n + m)
          rw [← unhide HO, show n + m = (l ++ (done ++ cs)).length by rw [← List.append_assoc, List.length_append, unhide HCL, unhide HN]] at this
          rw [show n + m = (l ++ (done ++ cs)).length by rw [← List.append_assoc, List.length_append, unhide HCL, unhide HN]]
          exact this
        · exact gb_setCell (gb_trans hg1 hgW (fun y e => by cases e; exact Or.inr rfl)) _ _ (Or.inr rfl)
      by_cases hful : at' + m = 64
      · have hf1 : (at' : Int) + (m : Int) = 64 := by omega
        obtain ⟨sf, hsf⟩ : ∃ sf, sf = soFarL words n := ⟨_, rfl⟩
        have hsl8 : sf.length = 8 := by rw [hsf, unhide HN]; exact (unhide HH).took.soFar_length
        obtain ⟨cw, hcw⟩ : ∃ cw, cw = comp sf (spliceL rest at' cs) := ⟨_, rfl⟩
        have hcw8 : cw.length = 8 := by rw [hcw]; exact comp_length hsl8 _
        have hso : ∀ W, W1.grownBy W none → Calls Tryd.prog 67 #[.pointer (some ⟨b, o, none⟩)] W fun e w' => e = .returned (.agg (sf.map wv).toArray) ∧ W.grownBy w' none := by
          intro W gW
          have hBW := (unhide HB).kept gW (by simp)
          have h1 : Blk W b t (pre ++ (words.map wv ++ ((spliceL rest at' cs).map bv ++ (.int .u64 (n : Int) :: post)))) := by simpa [hc, List.append_assoc] using hBW
          have h2 := h1.range
          rw [← unhide HO] at h2
          rw [hsf]
          exact soFar_any W b o n words (unhide HW8) h2 (gW.cell hsz1 (by simp)) ((unhide HT).kept0 gW)
        have htk : ∀ W, W1.grownBy W none → Calls Tryd.prog 66 #[.agg (sf.map wv).toArray, .pointer (some ⟨b, o + 8, none⟩)] W fun e w' => e = .returned (.agg (cw.map wv).toArray) ∧ W.grownBy w' none := by
          intro W gW
          have hBW := (unhide HB).kept gW (by simp)
          have h1 : Blk W b t ((pre ++ words.map wv) ++ ((spliceL rest at' cs).map bv ++ (.int .u64 (n : Int) :: post))) := by simpa [hc, List.append_assoc] using hBW
          have h2 := h1.range
          rw [unhide HOL] at h2
          rw [hcw]
          exact taken_any W b (o + 8) (spliceL rest at' cs) sf hsl8 (unhide HS64) h2 ((unhide HT).kept0 gW)
        have hst : ∀ V : World, W1.grownBy V none → (storeCells ⟨b, o, none⟩ (cw.map wv)).run Tryd.prog V = .ok () (V.setCells b o (cw.map wv)) := by
          intro V gW
          have hBW := (unhide HB).kept gW (by simp)
          have h1 : Blk V b t (pre ++ (words.map wv ++ ((spliceL rest at' cs).map bv ++ (.int .u64 (n : Int) :: post)))) := by simpa [hc, List.append_assoc] using hBW
          have h2 := h1.thereIn
          rw [← unhide HO, List.length_map, unhide HW8] at h2
          exact run_storeCells_cells (P := Tryd.prog) b o (cw.map wv) 0 V (fun j hj => (h2 j (by rw [List.length_map, hcw8] at hj; exact hj)).1) (fun j hj => (h2 j (by rw [List.length_map, hcw8] at hj; exact hj)).2) (wv_one _)
        have hBW : ∀ W, W1.grownBy W none → Blk (W.setCells b o (cw.map wv)) b t (pre ++ (hc cw (spliceL rest at' cs) n ++ post)) := by
          intro W gW
          have hBW := (unhide HB).kept gW (by simp)
          have := Blk.worded (words' := cw) hBW (by rw [unhide HW8, hcw8])
          rw [← unhide HO] at this
          exact this
        have hsz2 : ∀ W, W1.grownBy W none → (W.setCells b o (cw.map wv)).cell? ⟨b, o + 72, none⟩ = some (.int .u64 (n : Int)) := by
          intro W gW
          have := (hBW W gW).sizeAt hcw8 (unhide HS64)
          rw [← unhide HO] at this
          exact this
        have hfz2 : ∀ W, W1.grownBy W none → (W.setCells b o (cw.map wv)).frozen? ⟨b, o + 72, none⟩ = false := fun W gW => (hBW W gW).fz _
        have hgr := gb_refl W1 none
        have htook : Took cw (spliceL rest at' cs) (l ++ (done ++ cs)) := by
          have := (unhide HH).took.full cs (by rw [← unhide HN, ← unhide HA, unhide HCL]; exact hful)
          rw [← unhide HN, ← unhide HA, ← hsf, ← hcw, List.append_assoc] at this
          exact this
        have HTK := hide htook
        have HF := hide hfin
        have HBW := hide hBW
        have HCW := hide hcw
        have HSF := hide hsf
        have HC8 := hide hcw8
        have HS8 := hide hsl8
        clear htook hfin hBW hcw hsf hcw8 hsl8
        go_wp2
        go_region_with (first
          | (go_at_call 67; refine (hso _ ?_).mono ?_; (exact gb_drew (gb_refl _ _)); rintro e w2 ⟨rfl, g2⟩; have G2 : W1.grownBy w2 none := gb_trans (gb_drew (gb_refl _ _)) g2 (fun _ e => by cases e))
          | (go_at_call 66; refine (htk _ ?_).mono ?_; (first | assumption | exact gb_drew (by assumption)); rintro e w3 ⟨rfl, g3⟩; have G3 : W1.grownBy w3 none := gb_trans G2 g3 (fun _ e => by cases e)))
        have hs3 := hsz2 w3 G3
        have hf3 := hfz2 w3 G3
        clear hso htk hst hsz2 hfz2
        go_wp2
        go_roundw
        case rel => exact unhide HF (w3.setCells b o (cw.map wv)) cw (unhide HBW w3 G3) (unhide HTK) (gb_setCells (Or.inr rfl) _ _ (gb_none _ G3)) _ (by omega)
        case measure => simp [lenS]; omega
      · have hf1 : ((at' : Int) + (m : Int) == 64) = false := by simp; omega
        have HF := hide hfin
        clear hfin
        go_wp2
        go_roundw
        case rel =>
          exact unhide HF W1 words (unhide HB) (by
            have := (unhide HH).took.less cs (by rw [← unhide HN, ← unhide HA, unhide HCL]; omega)
            rw [← unhide HN, ← unhide HA, List.append_assoc] at this
            exact this) (gb_refl _ _) _ (by omega)
        case measure => simp [lenS]; omega
    · obtain rfl : left = [] := List.length_eq_zero_iff.1 (by omega)
      rw [List.append_nil] at hd
      subst hd
      go_wp2
      go_end0
      exact ⟨rfl, ⟨words, rest, hH⟩, hg⟩
end Go.Proofs.YtcemdlcimhoeeaaDoor
