/- The law package's 'few': where it answers true, the texts are short enough; it changes nothing. And what an argument that is a list of texts holds. -/
import Derived.Test.YtgedgjcdeajgiaaOpen
import Derived.Deep.Slices
namespace Go.Proofs.Ytgedgjcdeajgiaa
open Go.ChangeShapes Go.WideShapes Go.ChangeAt Go.RowKit Go.Deep

def fewN (L : List (List UInt8)) : Nat := (L.map fun x => 5 + min x.length 9000).sum

theorem fewN_snoc {L : List (List UInt8)} {k : Nat} (h : k < L.length) : fewN (L.take (k + 1)) = fewN (L.take k) + (5 + min (L[k]).length 9000) := by
  unfold fewN
  rw [takeL_snoc h, List.map_append, List.sum_append]
  simp only [List.map_cons, List.map_nil, List.sum_cons, List.sum_nil, Nat.add_zero]

theorem few_room (L : List (List UInt8)) (h : fewN L ≤ 9000) : roomL L + L.length ≤ 9000 ∧ ∀ x ∈ L, x.length ≤ 9000 := by
  have key : ∀ M : List (List UInt8), fewN M ≤ 9000 → roomL M + M.length = fewN M ∧ ∀ x ∈ M, x.length ≤ 9000 := by
    intro M
    induction M with
    | nil => intro _; simp [roomL, fewN]
    | cons x M ih =>
      intro hM
      have e1 : fewN (x :: M) = 5 + min x.length 9000 + fewN M := by simp [fewN]
      have e2 : roomL (x :: M) = 4 + x.length + roomL M := by simp [roomL]
      obtain ⟨i1, i2⟩ := ih (by omega)
      refine ⟨by simp only [List.length_cons]; omega, ?_⟩
      intro y hy
      rcases List.mem_cons.1 hy with rfl | hy
      · omega
      · exact i2 y hy
  obtain ⟨k1, k2⟩ := key L h
  exact ⟨by omega, k2⟩

set_option maxRecDepth 100000 in
set_option maxHeartbeats 400000 in
theorem few_any (w : World) (bo : Option Addr) (d : Nat) (L : List (List UInt8)) (hL : Lst w bo d L) :
    Calls Try.prog 8 #[.slice bo L.length d] w fun e w' => ((e = .returned (.bool true) ∧ fewN L ≤ 9000) ∨ e = .returned (.bool false)) ∧ w' = w := by
  have hdm := hL.most
  have hfit := hL.fits
  unfold maxLen at hdm
  obtain ⟨q, hq⟩ : ∃ q, q = L.length := ⟨_, rfl⟩
  rw [← hq]
  have HQ := hide hq
  have hqd : q ≤ d := by omega
  clear hq hfit
  go_enter Try.func8, Try.ntmps8
  go_wp2
  go_loop [3, 4] (fun n i => ∃ k : Nat, k ≤ q ∧ i = .int .i64 k ∧ n = .int .i64 ((fewN (L.take k) : Nat) : Int) ∧ fewN (L.take k) ≤ 9000) (fun _ i => q - (intOf i).toNat)
  case atStart => exact ⟨0, Nat.zero_le _, rfl, rfl, by simp [fewN]⟩
  case round =>
    obtain ⟨k, hk, rfl, rfl, hle⟩ := hrel
    by_cases hlt : k < q
    · have hkL : k < L.length := by have := unhide HQ; omega
      obtain ⟨ad, rfl⟩ : ∃ ad, bo = some ad := by
        cases bo with
        | none => have := hL.zip rfl; omega
        | some ad => exact ⟨ad, rfl⟩
      obtain ⟨ai, ci, hc, hbi⟩ := hL.cell ad rfl k hkL
      have hs := hL.shape ad rfl (by omega)
      obtain ⟨b, o, s⟩ := ad
      simp only at hs hc
      subst hs
      have hrm := fewN_snoc hkL
      have HR := hide hrm
      have hm9 := hbi.most
      have hm8 := hbi.fits
      unfold maxLen at hm9
      obtain ⟨xl, hxl⟩ : ∃ xl, xl = (L[k]).length := ⟨_, rfl⟩
      rw [← hxl] at hc hm8 HR
      obtain ⟨fk, hfk⟩ : ∃ fk, fk = fewN (L.take k) := ⟨_, rfl⟩
      rw [← hfk] at hle HR ⊢
      clear hrm hbi hxl hfk
      by_cases hx9 : xl ≤ 9000
      · by_cases htot : fk + 5 + xl ≤ 9000
        · go_wp2
          go_round
          case rel => exact ⟨k + 1, by omega, by go_num, by have := unhide HR; rw [this, Nat.min_eq_left hx9]; go_num, by have := unhide HR; omega⟩
          case measure => simp [intOf]; omega
        · go_wp2
          go_ret
          exact ⟨Or.inr rfl, rfl⟩
      · go_wp2
        go_ret
        exact ⟨Or.inr rfl, rfl⟩
    · have htk : L.take k = L := List.take_of_length_le (by have := unhide HQ; omega)
      rw [htk] at hle
      have HLE := hide hle
      clear htk hle
      go_wp2
      go_ret
      exact ⟨Or.inl ⟨rfl, unhide HLE⟩, rfl⟩

/-- A slice of bytes in a cell. -/
theorem bts_cell {H : Type} {enc : TypeId × Value → H} {W : World} {fuel : Nat} {v : Value} {x : DataW H × List MemPlace} (h : DataW.trod enc Try.prog W 0 (fun _ => true) true fuel 22 [v] = some x) :
    ∃ l ao c, v = .slice ao (l : List UInt8).length c ∧ Bts W ao c l := by
  have hv : ∃ ao n c, v = .slice ao n c := by
    rcases open_ints Try.underlying22 Try.underlying5 (by kernel_rfl) h with ⟨hcs, _⟩ | ⟨y, l, c, zs, hcs, _⟩
    · cases hcs; exact ⟨_, _, _, rfl⟩
    · cases hcs; exact ⟨_, _, _, rfl⟩
  obtain ⟨ao, n, c, rfl⟩ := hv
  obtain ⟨l, h1, h2⟩ := bts_open (enc := enc) (W := W) (a := ao) (len := n) (cap := c) (d := x.1) (p := x.2) ⟨fuel, by simpa [Value.cells] using h⟩
  exact ⟨l, ao, c, by rw [h1], h2⟩

theorem lst_open {H : Type} {enc : TypeId × Value → H} {W : World} {a : Option Addr} {len cap : Nat} {d : DataW H} {p : List MemPlace} (h : DataW.Trod enc Try.prog W 0 (fun _ => true) true 23 (.slice a len cap) d p) :
    ∃ L : List (List UInt8), L.length = len ∧ Lst W a cap L := by
  obtain ⟨fuel, hf⟩ := h
  rcases open_slice1 Try.underlying23 (by kernel_rfl) hf with ⟨hcs, _⟩ | ⟨x, l, c, m, n, V, D, Pl, hcs, _, hl, hm, hmm, _, hx⟩
  · simp [Value.cells] at hcs
    obtain ⟨rfl, rfl, rfl⟩ := hcs
    exact ⟨[], rfl, ⟨fun _ => ⟨rfl, rfl⟩, Nat.le_refl _, Nat.zero_le _, (fun _ e => by cases e), (fun _ e => by cases e)⟩⟩
  · simp [Value.cells] at hcs
    obtain ⟨rfl, rfl, rfl⟩ := hcs
    have hmc : m = cap := by simpa using hmm
    have hsp : 0 < m → x.spot = none := fun h0 => by
      have := World.cell?_spot (hx 0 h0).1
      simpa [Addr.add] using this
    have key : ∀ i, i < len → ∃ y : List UInt8, ∃ ao c, V i = .slice ao y.length c ∧ Bts W ao c y := fun i hi => by
      obtain ⟨y, ao, c, h1, h2⟩ := bts_cell (hx i (by omega)).2
      exact ⟨y, ao, c, h1, h2⟩
    obtain ⟨f, hfx⟩ := choose_lt (α := List UInt8) (p := fun i y => ∃ ao c, V i = .slice ao y.length c ∧ Bts W ao c y) key
    refine ⟨(List.range len).map f, by simp, ⟨(fun e => by cases e), by simp; omega, hm, (fun ad e hp => by cases e; exact hsp (by simp at hp; omega)), (fun ad e i hi => ?_)⟩⟩
    cases e
    have hi' : i < len := by simpa using hi
    have hs := hsp (by omega)
    have hc := (hx i (by omega)).1
    obtain ⟨b, o, s⟩ := x
    simp only at hs
    subst hs
    rw [Addr.add_lit] at hc
    obtain ⟨ao, ci, h1, h2⟩ := hfx i hi'
    rw [h1] at hc
    exact ⟨ao, ci, by simpa using hc, by simpa using h2⟩

end Go.Proofs.Ytgedgjcdeajgiaa
