/- What a source tells, as a plain function of bytes: the texts' own, and behind them those of the sums that come of the texts' sum and a number. No condition but those that each lemma names. -/
import Derived.Test.YtjckdgapefaokaaDoorDPut
import Derived.Test.YtjckdgapefaokaaDoorPMath
namespace Go.Proofs.YtjckdgapefaokaaDoor
open Go.RowKit

/-- The k-th sum behind the texts. -/
def sumAt (T : List UInt8) (k : Nat) : List UInt8 := shaL (shaL T ++ lb k 8)

theorem sumAt_length (T : List UInt8) (k : Nat) : (sumAt T k).length = 32 := shaL_length _

/-- The i-th byte of a source. -/
def tell (T : List UInt8) (i : Nat) : UInt8 := if i < T.length then T.getD i 0 else (sumAt T ((i - T.length) / 32)).getD ((i - T.length) % 32) 0

/-- n bytes of a source, from the u-th on. -/
def told (T : List UInt8) (u n : Nat) : List UInt8 := (List.range n).map fun i => tell T (u + i)

theorem told_length (T : List UInt8) (u n : Nat) : (told T u n).length = n := by simp [told]

theorem told_at (T : List UInt8) (u n i : Nat) (h : i < (told T u n).length) : (told T u n)[i] = tell T (u + i) := by simp [told]

theorem told_zero (T : List UInt8) (u : Nat) : told T u 0 = [] := rfl

theorem told_add (T : List UInt8) (u n m : Nat) : told T u (n + m) = told T u n ++ told T (u + n) m := by
  apply List.ext_getElem
  · simp [told_length]
  · intro i h1 h2
    rw [told_at]
    by_cases hi : i < n
    · rw [List.getElem_append_left (by rw [told_length]; exact hi), told_at]
    · rw [List.getElem_append_right (by rw [told_length]; omega), told_at, told_length]
      congr 1
      omega

theorem told_take (T : List UInt8) (u n m : Nat) (h : m ≤ n) : (told T u n).take m = told T u m := by
  obtain ⟨k, rfl⟩ : ∃ k, n = m + k := ⟨n - m, by omega⟩
  rw [told_add, List.take_left' (told_length _ _ _)]

theorem told_texts (T : List UInt8) (u n : Nat) (h : u + n ≤ T.length) : told T u n = (T.drop u).take n := by
  apply List.ext_getElem
  · simp [told_length]; omega
  · intro i h1 h2
    rw [told_at]
    rw [told_length] at h1
    have hi : u + i < T.length := by omega
    simp [tell, hi]

theorem told_all (T : List UInt8) : told T 0 T.length = T := by
  rw [told_texts T 0 T.length (by omega)]
  simp

theorem told_sum (T : List UInt8) (f n : Nat) (h : f % 32 + n ≤ 32) : told T (T.length + f) n = ((sumAt T (f / 32)).drop (f % 32)).take n := by
  apply List.ext_getElem
  · simp [told_length, sumAt_length]; omega
  · intro i h1 h2
    rw [told_at]
    rw [told_length] at h1
    have e1 : (T.length + f + i - T.length) / 32 = f / 32 := by omega
    have e2 : (T.length + f + i - T.length) % 32 = f % 32 + i := by omega
    have e3 : ¬ T.length + f + i < T.length := by omega
    have e4 : f % 32 + i < (sumAt T (f / 32)).length := by rw [sumAt_length]; omega
    unfold tell
    rw [if_neg e3, e1, e2]
    simp [List.getD, e4]

/-- The cells of a source: of which texts, and how many bytes were told. -/
def srcC (T : List UInt8) (u : Nat) : List Value := .string (str (T.drop u)) :: ((shaL T).map bv ++ [.int .u64 ((u - T.length : Nat) : Int), .int .i64 (u : Int)])

theorem srcC_length (T : List UInt8) (u : Nat) : (srcC T u).length = 35 := by simp [srcC, shaL_length]

theorem srcC_one (T : List UInt8) (u : Nat) : ∀ v ∈ srcC T u, v.oneCell' = true := by
  intro v hv
  rcases List.mem_cons.1 hv with rfl | h
  · rfl
  · rcases List.mem_append.1 h with h | h
    · exact bv_one _ v h
    · simp at h
      rcases h with rfl | rfl <;> rfl

/-- The cells of a plain source, that nobody made. -/
def zeroC : List Value := .string (str []) :: ((List.replicate 32 (0 : UInt8)).map bv ++ [.int .u64 0, .int .i64 0])

theorem sha_nothing : shaL [] ≠ List.replicate 32 (0 : UInt8) := by
  have h : (shaL []).head? = some 227 := by kernel_rfl
  intro e
  rw [e] at h
  exact absurd h (by decide)

end Go.Proofs.YtjckdgapefaokaaDoor
