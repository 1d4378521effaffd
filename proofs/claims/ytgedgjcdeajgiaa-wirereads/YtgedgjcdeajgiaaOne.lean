/- The law package's 'one': a text that is laid, and read; it answers true, and nothing that was in memory has changed. -/
import Derived.Test.YtgedgjcdeajgiaaLays
import Derived.Laws.BytesArg
import Derived.Lib.SlBytesConst
import Derived.Laws.NewBlocks
namespace Go.Proofs.Ytgedgjcdeajgiaa
open Go.RowKit

/-- Bytes as a string. -/
def str (l : List UInt8) : ByteArray := ⟨l.toArray⟩

theorem str_list (l : List UInt8) : (str l).toList = l := by
  rw [ByteArray.toList_eq]
  rfl

theorem conv_str {w : World} {ao : Option Addr} {c : Nat} {l : List UInt8} (h : Bts w ao c l) : (convert 22 9 (.slice ao l.length c)).run Try.prog w = .ok (.string (str l)) w := by
  cases ao with
  | none =>
    have := List.eq_nil_of_length_eq_zero (h.zip rfl).1
    subst this
    exact run_convert_bytes_nil w 22 5 Try.underlying22 Try.underlying5 _ _ 9 Try.underlying9
  | some ad =>
    by_cases hl : l = []
    · subst hl
      rw [show ([] : List UInt8).length = 0 from rfl, run_convert_bytes_string w 22 9 5 (some ad) 0 c Try.underlying22 Try.underlying5 Try.underlying9]
      rw [run_bytesToString w ad 0 c [] (by simp [loadCells, loadCellsFrom])]
      rfl
    have hs := h.shape ad rfl (List.length_pos_iff.2 hl)
    have hc := h.cell ad rfl
    obtain ⟨b, o, s⟩ := ad
    simp only at hs hc
    subst hs
    have := run_convert_bytes_arg (P := Try.prog) w 22 5 Try.underlying22 Try.underlying5 b o l.length c (l.map fun x => (x.toNat : Int)) (by simp) (fun i hi => by
      rw [hc i hi]
      simp [List.getD, hi]) 9 Try.underlying9
    have e : strOfNums (l.map fun x => (x.toNat : Int)) = str l := by
      apply ByteArray.ext
      apply Array.toList_inj.1
      rw [strOfNums_data, List.map_map]
      show _ = l
      conv => rhs; rw [← List.map_id l]
      apply List.map_congr_left
      intro x _
      simp
    rw [this, e]

set_option maxRecDepth 100000 in
set_option maxHeartbeats 400000 in
theorem one_any (w : World) : Calls Try.prog 16 #[] w fun e w' => e = .returned (.bool true) ∧ w.grownBy w' none := by
  have kc := fun (w : World) (C : Array Value) (n c : Nat) => Lib.run_convert_bytes_const (P := Try.prog) w 22 5 C n c Try.underlying22 Try.underlying5
  go_enter Try.func16, Try.ntmps16
  have hb : Bts (w.alloc (.cells #[.int .u8 97, .int .u8 98] 5 (2, 3))) (some ⟨w.heap.size, 0, none⟩) 2 [97, 98] := by
    refine ⟨(fun e => by cases e), by decide, by unfold maxLen; decide, (fun ad e _ => by cases e; rfl), (fun ad e i hi => ?_)⟩
    cases e
    have hh := heap_alloc_new w (.cells #[.int .u8 97, .int .u8 98] 5 (2, 3))
    match i, hi with
    | 0, _ => simp only [World.cell?, hh]; rfl
    | 1, _ => simp only [World.cell?, hh]; rfl
  have h1 : Calls Try.prog 11 #[.slice none 0 0, .slice (some ⟨w.heap.size, 0, none⟩) 2 2] (w.alloc (.cells #[.int .u8 97, .int .u8 98] 5 (2, 3))) _ := sizedl_any _ none (some ⟨w.heap.size, 0, none⟩) 0 2 [] [97, 98] (Bts.nil _) hb (by simp)
  have e1 : ([] : List UInt8) ++ layS [97, 98] = [0, 0, 0, 2, 97, 98] := by decide
  rw [e1] at h1
  go_wp2_with fail
  refine h1.mono ?_
  rintro e w1 ⟨v1, rfl, ⟨ao, c, rfl, hb1, _⟩, g1⟩
  have g1' : w.grownBy w1 none := gb_trans (World.grownBy_alloc w _ none) g1 (fun _ e => by cases e)
  clear h1 hb e1 kc
  have h2 := new_any w1 ao c _ hb1 (by simp)
  go_wp2_with fail
  refine h2.mono ?_
  rintro e w2 ⟨rb, rfl, hrb, r2, g2⟩
  have hb2 := hb1.kept g2 (fun _ e => by cases e)
  have cv : (convert 22 9 (.slice ao 6 c)).run Try.prog w2 = .ok (.string (str [0, 0, 0, 2, 97, 98])) w2 := conv_str hb2
  have h3 := sized_at w2 rb _ 0 (by simp) r2
  have e3 : sizedS [0, 0, 0, 2, 97, 98] 0 = ([97, 98], [], 0) := by decide
  rw [e3] at h3
  have t1 : ((str [0, 0, 0, 2, 97, 98]).toList == [0, 0, 0, 2, 97, 98]) = true := by rw [str_list]; decide
  have t2 : ((str [97, 98]).toList == [97, 98]) = true := by rw [str_list]; decide
  clear h2
  go_wp2_with fail
  refine h3.mono ?_
  rintro e w3 ⟨v3, rfl, ⟨ao3, c3, rfl, hb3, _⟩, r3, g3⟩
  have cv3 : (convert 22 9 (.slice ao3 2 c3)).run Try.prog w3 = .ok (.string (str [97, 98])) w3 := conv_str hb3
  clear h3 cv
  go_wp2_with fail
  refine (done_at _ _ _ _ r3).mono ?_
  rintro e w4 ⟨rfl, rfl⟩
  go_wp2
  go_ret
  exact ⟨rfl, gb_trans (gb_trans g1' g2 (fun _ e => by cases e)) g3 (fun x e => by cases e; have := g1'.size; exact Or.inl (by omega))⟩

end Go.Proofs.Ytgedgjcdeajgiaa
