/- What is laid is read as it was, whatever stands behind it; cut off at its last byte it is not: said of plain lists of bytes. Conditions: texts of at most 65536 bytes, lists of at most 65535 texts. -/
import Derived.Test.YtgedgjcdeajgiaaNumbers
namespace Go.Proofs.Ytgedgjcdeajgiaa

theorem be4_lay (n : Nat) (h : n < 4294967296) (m : List UInt8) : be ((lb n 4 ++ m).take 4) = n := by
  have hl := lb_len n 4
  rw [List.take_append_of_le_length (by omega), List.take_of_length_le (by omega), be_lb, Nat.mod_eq_of_lt (by omega)]

theorem drop4_lay (n : Nat) (m : List UInt8) : (lb n 4 ++ m).drop 4 = m := by
  have hl := lb_len n 4
  rw [List.drop_append_of_le_length (by omega), List.drop_of_length_le (by omega), List.nil_append]

theorem sizedS_lay (x m : List UInt8) (h : x.length ≤ 65536) : sizedS (layS x ++ m) 0 = (x, m, 0) := by
  have e1 : layS x ++ m = lb x.length 4 ++ (x ++ m) := by unfold layS; rw [List.append_assoc]
  have hl := lb_len x.length 4
  unfold sizedS
  rw [e1, be4_lay _ (by omega), drop4_lay, if_pos rfl, if_neg (by simp [hl]), if_neg (by omega), if_neg (by simp [hl])]
  simp

theorem layS_len (x : List UInt8) : (layS x).length = 4 + x.length := by simp [layS, lb_len]

theorem sizedS_cut (x : List UInt8) (h : x.length ≤ 65536) : sizedS (layS x).dropLast 0 = ([], [], 10) := by
  have hl := lb_len x.length 4
  by_cases hx : x = []
  · have hlen : (layS x).dropLast.length < 4 := by rw [List.length_dropLast, layS_len, hx]; simp
    unfold sizedS
    rw [if_pos rfl, if_pos hlen]
  · have hp : 0 < x.length := List.length_pos_iff.2 hx
    have e1 : (layS x).dropLast = lb x.length 4 ++ x.dropLast := by unfold layS; rw [List.dropLast_append_of_ne_nil hx]
    unfold sizedS
    rw [e1, be4_lay _ (by omega), if_pos rfl, if_neg (by simp [hl]), if_neg (by omega), if_pos (by simp [hl]; omega)]

theorem textsS_lay (L : List (List UInt8)) (m : List UInt8) (h : ∀ x ∈ L, x.length ≤ 65536) : textsS L.length (L.flatMap layS ++ m) = (L, m, 0) := by
  induction L with
  | nil => simp [textsS]
  | cons x L ih =>
    rw [List.length_cons, List.flatMap_cons, List.append_assoc, textsS, sizedS_lay x _ (h x (by simp)), if_pos rfl, ih (fun y hy => h y (by simp [hy]))]
    simp [accS]

theorem textsS_cut (L : List (List UInt8)) (hne : L ≠ []) (h : ∀ x ∈ L, x.length ≤ 65536) : textsS L.length (L.flatMap layS).dropLast = ([], [], 10) := by
  induction L with
  | nil => exact absurd rfl hne
  | cons x L ih =>
    have hx := h x (by simp)
    rw [List.length_cons, List.flatMap_cons, textsS]
    cases L with
    | nil =>
      rw [List.flatMap_nil, List.append_nil, sizedS_cut x hx]
      simp
    | cons y L =>
      have hn : (y :: L).flatMap layS ≠ [] := by
        intro e
        have := congrArg List.length e
        simp [layS_len] at this
      rw [List.dropLast_append_of_ne_nil hn, sizedS_lay x _ hx, if_pos rfl, ih (by simp) (fun z hz => h z (by simp [hz]))]
      simp [accS]

theorem numS2_lay (n : Nat) (h : n < 65536) (m : List UInt8) : numS (lb n 2 ++ m) 0 2 = (n, m, 0) := by
  have hl := lb_len n 2
  have hnb : nb 2 = 2 := by decide
  unfold numS
  rw [hnb, if_pos rfl, if_neg (by simp [hl])]
  rw [List.take_append_of_le_length (by omega), List.take_of_length_le (by omega), be_lb, Nat.mod_eq_of_lt (by omega), List.drop_append_of_le_length (by omega), List.drop_of_length_le (by omega), List.nil_append]

theorem numS8_lay (v : Nat) (h : v < 18446744073709551616) (m : List UInt8) : numS (lb v 8 ++ m) 0 8 = (v, m, 0) := by
  have hl := lb_len v 8
  have hnb : nb 8 = 8 := by decide
  unfold numS
  rw [hnb, if_pos rfl, if_neg (by simp [hl])]
  rw [List.take_append_of_le_length (by omega), List.take_of_length_le (by omega), be_lb, Nat.mod_eq_of_lt (by omega), List.drop_append_of_le_length (by omega), List.drop_of_length_le (by omega), List.nil_append]

theorem listS_lay (L : List (List UInt8)) (m : List UInt8) (most : Int) (hm : (L.length : Int) ≤ most) (h6 : L.length < 65536) (h : ∀ x ∈ L, x.length ≤ 65536) : listS (layL L ++ m) 0 most = (L, m, 0) := by
  unfold listS layL
  rw [List.append_assoc, numS2_lay _ h6, if_neg (by simp only; omega), if_pos rfl]
  exact textsS_lay L m h

theorem layL_len (L : List (List UInt8)) : (layL L).length = 2 + roomL L := by
  unfold layL
  rw [List.length_append, lb_len, flat_len]

theorem layL_ne (L : List (List UInt8)) : layL L ≠ [] := by
  intro e
  have := congrArg List.length e
  simp [layL, lb_len] at this

theorem listS_cut (L : List (List UInt8)) (most : Int) (hm : (L.length : Int) ≤ most) (h6 : L.length < 65536) (h : ∀ x ∈ L, x.length ≤ 65536) : listS (layL L).dropLast 0 most = ([], [], 10) := by
  unfold listS
  by_cases hL : L = []
  · subst hL
    have e1 : numS (layL []).dropLast 0 2 = (0, [], 10) := by decide
    rw [e1, if_neg (by simp only; simpa using hm)]
    simp
  · have hf : L.flatMap layS ≠ [] := by
      cases L with
      | nil => exact absurd rfl hL
      | cons x L =>
        intro e
        have := congrArg List.length e
        simp [layS_len] at this
    have e1 : (layL L).dropLast = lb L.length 2 ++ (L.flatMap layS).dropLast := by unfold layL; rw [List.dropLast_append_of_ne_nil hf]
    rw [e1, numS2_lay _ h6, if_neg (by simp only; omega), if_pos rfl]
    exact textsS_cut L hL h

end Go.Proofs.Ytgedgjcdeajgiaa
