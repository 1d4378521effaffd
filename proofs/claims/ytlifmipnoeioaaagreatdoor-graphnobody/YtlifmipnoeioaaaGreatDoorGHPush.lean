/- A heap in a list: what up and down keep; the first is the least. Pure. -/
import Derived.Test.YtlifmipnoeioaaaGreatDoorGPop
import Derived.Test.YtlifmipnoeioaaaGreatDoorMGrd
import Derived.Deep.LoopGhost
namespace Go.Proofs.YtlifmipnoeioaaaGreatDoor
open Go.RowKit

theorem cmLt_irr (a : CmR) : cmLt a a = false := by unfold cmLt; rw [if_pos rfl]; exact lessL_irr _
theorem cmLt_trans (a b c : CmR) (h1 : cmLt a b = true) (h2 : cmLt b c = true) : cmLt a c = true := by
  unfold cmLt at *
  by_cases e1 : a.time = b.time
  · by_cases e2 : b.time = c.time
    · rw [if_pos e1] at h1
      rw [if_pos e2] at h2
      rw [if_pos (e1.trans e2)]
      exact lessL_trans _ _ _ h1 h2
    · rw [if_neg e2] at h2
      rw [if_neg (by omega)]
      simp at h2 ⊢
      omega
  · rw [if_neg e1] at h1
    by_cases e2 : b.time = c.time
    · rw [if_neg (by omega)]
      simp at h1 ⊢
      omega
    · rw [if_neg e2] at h2
      simp at h1 h2
      rw [if_neg (by omega)]
      simp
      omega
theorem cmLt_asymm (a b : CmR) (h : cmLt a b = true) : cmLt b a = false := by
  cases h2 : cmLt b a with
  | false => rfl
  | true =>
    have := cmLt_trans _ _ _ h h2
    rw [cmLt_irr] at this
    cases this
theorem cmLt_total (a b : CmR) (h1 : cmLt a b = false) (h2 : cmLt b a = false) : a.time = b.time ∧ a.id = b.id := by
  unfold cmLt at *
  by_cases e1 : a.time = b.time
  · rw [if_pos e1] at h1
    rw [if_pos e1.symm] at h2
    exact ⟨e1, lessL_total _ _ h1 h2⟩
  · rw [if_neg e1] at h1
    rw [if_neg (fun e => e1 e.symm)] at h2
    simp at h1 h2
    omega
theorem cmLt_congr (a b c : CmR) (h : a.time = b.time ∧ a.id = b.id) : cmLt a c = cmLt b c ∧ cmLt c a = cmLt c b := by
  unfold cmLt
  rw [h.1, h.2]
  exact ⟨rfl, rfl⟩
theorem cmLt_ntrans (a b c : CmR) (h1 : cmLt a b = false) (h2 : cmLt b c = false) : cmLt a c = false := by
  cases h3 : cmLt a c with
  | false => rfl
  | true =>
    cases h4 : cmLt b a with
    | true =>
      have := cmLt_trans _ _ _ h4 h3
      rw [h2] at this
      cases this
    | false =>
      have he := cmLt_total a b h1 h4
      rw [(cmLt_congr a b c he).1, h2] at h3
      cases h3

def atH (H : List CmR) (i : Nat) : CmR := H.getD i default
theorem atH_eq {H : List CmR} {i : Nat} (h : i < H.length) : atH H i = H[i] := by unfold atH; rw [List.getD_eq_getElem?_getD, List.getElem?_eq_getElem h]; rfl
theorem atH_swap {H : List CmR} {i j : Nat} (hi : i < H.length) (hj : j < H.length) (k : Nat) : atH (swapL H i j hi hj) k = if k = j then atH H i else if k = i then atH H j else atH H k := by
  unfold swapL atH
  rw [List.getD_eq_getElem?_getD, List.getElem?_set, List.getElem?_set, List.length_set]
  by_cases h1 : k = j
  · subst h1
    rw [if_pos rfl, if_pos hj, if_pos rfl, List.getD_eq_getElem?_getD, List.getElem?_eq_getElem hi]
  · rw [if_neg (fun e => h1 e.symm), if_neg h1]
    by_cases h2 : k = i
    · subst h2
      rw [if_pos rfl, if_pos hi, if_pos rfl, List.getD_eq_getElem?_getD, List.getElem?_eq_getElem hj]
    · rw [if_neg (fun e => h2 e.symm), if_neg h2, List.getD_eq_getElem?_getD]
theorem swapL_len {H : List CmR} {i j : Nat} (hi : i < H.length) (hj : j < H.length) : (swapL H i j hi hj).length = H.length := by simp [swapL]
theorem swapL_perm {H : List CmR} {i j : Nat} (hi : i < H.length) (hj : j < H.length) : (swapL H i j hi hj).Perm H := by
  have h := Array.swap_perm (xs := H.toArray) (i := i) (j := j) (by simpa using hi) (by simpa using hj)
  have h2 := h.toList
  simpa [swapL] using h2

/-- A heap, up to n. -/
def HeapTo (H : List CmR) (n : Nat) : Prop := ∀ i, 0 < i → i < n → cmLt (atH H i) (atH H ((i - 1) / 2)) = false
def UpInv (H : List CmR) (n j : Nat) : Prop := (∀ i, 0 < i → i < n → i ≠ j → cmLt (atH H i) (atH H ((i - 1) / 2)) = false) ∧ (0 < j → ∀ c, 0 < c → c < n → (c - 1) / 2 = j → cmLt (atH H c) (atH H ((j - 1) / 2)) = false)
def DownInv (H : List CmR) (n j : Nat) : Prop := (∀ i, 0 < i → i < n → (i - 1) / 2 ≠ j → cmLt (atH H i) (atH H ((i - 1) / 2)) = false) ∧ (0 < j → ∀ c, 0 < c → c < n → (c - 1) / 2 = j → cmLt (atH H c) (atH H ((j - 1) / 2)) = false)

theorem UpInv.end0 {H : List CmR} {n : Nat} (h : UpInv H n 0) : HeapTo H n := fun i h1 h2 => h.1 i h1 h2 (by omega)
theorem UpInv.end {H : List CmR} {n j : Nat} (h : UpInv H n j) (hj : cmLt (atH H j) (atH H ((j - 1) / 2)) = false) : HeapTo H n := fun i h1 h2 => by
  by_cases e : i = j
  · subst e; exact hj
  · exact h.1 i h1 h2 e
theorem UpInv.step {H : List CmR} {n j p : Nat} (hp : p = (j - 1) / 2) (h : UpInv H n j) (h0 : 0 < j) (hjn : j < n) (hi : p < H.length) (hj : j < H.length) (hlt : cmLt (atH H j) (atH H p) = true) : UpInv (swapL H p j hi hj) n p := by
  have hpj : p < j := by omega
  have hE : ∀ k, atH (swapL H p j hi hj) k = if k = j then atH H p else if k = p then atH H j else atH H k := fun k => atH_swap hi hj k
  constructor
  · intro i h1 h2 h3
    rw [hE, hE]
    by_cases e1 : i = j
    · subst e1
      rw [if_pos rfl, ← hp, if_neg (by omega), if_pos rfl]
      exact cmLt_asymm _ _ hlt
    · rw [if_neg e1, if_neg h3]
      by_cases e2 : (i - 1) / 2 = j
      · rw [if_pos e2]
        have := h.2 h0 i h1 h2 e2
        rwa [← hp] at this
      · rw [if_neg e2]
        by_cases e3 : (i - 1) / 2 = p
        · rw [if_pos e3]
          have h5 := h.1 i h1 h2 e1
          rw [e3] at h5
          cases h6 : cmLt (atH H i) (atH H j) with
          | false => rfl
          | true =>
            have := cmLt_trans _ _ _ h6 hlt
            rw [h5] at this
            cases this
        · rw [if_neg e3]
          exact h.1 i h1 h2 e1
  · intro hp0 c h1 h2 h3
    rw [hE, hE]
    have e4 : (p - 1) / 2 ≠ j := by omega
    have e5 : (p - 1) / 2 ≠ p := by omega
    rw [if_neg e4, if_neg e5]
    have hpp := h.1 p hp0 (by omega) (by omega)
    by_cases e1 : c = j
    · rw [if_pos e1]; exact hpp
    · rw [if_neg e1, if_neg (by omega)]
      have h5 := h.1 c h1 h2 e1
      rw [h3] at h5
      exact cmLt_ntrans _ _ _ h5 hpp

theorem DownInv.end {H : List CmR} {n j : Nat} (h : DownInv H n j) (hj : ∀ c, 0 < c → c < n → (c - 1) / 2 = j → cmLt (atH H c) (atH H j) = false) : HeapTo H n := fun i h1 h2 => by
  by_cases e : (i - 1) / 2 = j
  · rw [e]; exact hj i h1 h2 e
  · exact h.1 i h1 h2 e
theorem DownInv.step {H : List CmR} {n i j : Nat} (h : DownInv H n i) (hj0 : 0 < j) (hjn : j < n) (hpar : (j - 1) / 2 = i) (hi : i < H.length) (hj : j < H.length) (hlt : cmLt (atH H j) (atH H i) = true) (hsib : ∀ c, 0 < c → c < n → (c - 1) / 2 = i → cmLt (atH H c) (atH H j) = false) : DownInv (swapL H i j hi hj) n j := by
  have hij : i < j := by omega
  have hE : ∀ k, atH (swapL H i j hi hj) k = if k = j then atH H i else if k = i then atH H j else atH H k := fun k => atH_swap hi hj k
  constructor
  · intro k h1 h2 h3
    rw [hE, hE, if_neg h3]
    by_cases e1 : (k - 1) / 2 = i
    · rw [if_pos e1]
      by_cases e2 : k = j
      · rw [if_pos e2]; exact cmLt_asymm _ _ hlt
      · rw [if_neg e2, if_neg (by omega)]
        exact hsib k h1 h2 e1
    · rw [if_neg e1, if_neg (fun e => e1 (by rw [e]; exact hpar))]
      by_cases e2 : k = i
      · rw [if_pos e2, e2]
        exact h.2 (by omega) j hj0 hjn hpar
      · rw [if_neg e2]
        exact h.1 k h1 h2 e1
  · intro _ c h1 h2 h3
    rw [hE, hE, hpar]
    rw [if_neg (by omega), if_neg (by omega), if_neg (by omega), if_pos rfl]
    have := h.1 c h1 h2 (by omega)
    rwa [h3] at this

theorem HeapTo.top {H : List CmR} {n : Nat} (h : HeapTo H n) : ∀ k, k < n → cmLt (atH H k) (atH H 0) = false := by
  intro k
  induction k using Nat.strongRecOn with
  | _ k ih =>
    intro hk
    by_cases h0 : k = 0
    · subst h0; exact cmLt_irr _
    · exact cmLt_ntrans _ _ _ (h k (by omega) hk) (ih ((k - 1) / 2) (by omega) (by omega))
theorem HeapTo.less {H G : List CmR} {n : Nat} (h : HeapTo H n) (he : ∀ i, i < n → atH G i = atH H i) : HeapTo G n := fun i h1 h2 => by
  rw [he i h2, he _ (by omega)]
  exact h i h1 h2

end Go.Proofs.YtlifmipnoeioaaaGreatDoor

/- What the library's heap leaves: up and down, Push and Pop, of commits that wait. Of at most 100000 commits. -/
namespace Go.Proofs.YtlifmipnoeioaaaGreatDoor
open Go.RowKit

theorem mLen (v : Value) (w : World) : (Go.method 407 99 v "Len").run Tryz.prog w = .ok (55, v) w := by kernel_rfl
theorem mLess (v : Value) (w : World) : (Go.method 407 99 v "Less").run Tryz.prog w = .ok (198, v) w := by kernel_rfl
theorem mSwap (v : Value) (w : World) : (Go.method 407 99 v "Swap").run Tryz.prog w = .ok (201, v) w := by kernel_rfl
theorem mPush (v : Value) (w : World) : (Go.method 407 99 v "Push").run Tryz.prog w = .ok (200, v) w := by kernel_rfl
theorem mPop (v : Value) (w : World) : (Go.method 407 99 v "Pop").run Tryz.prog w = .ok (199, v) w := by kernel_rfl

theorem gb_same {w a b : World} {r : Option Nat} (h : w.grownBy a r) (k : a.grownBy b r) : w.grownBy b r := gb_trans h k (fun _ e => Or.inr e)

set_option maxRecDepth 100000 in
set_option maxHeartbeats 4000000 in
theorem up_any (w : World) (base wb : Nat) (sp : Option Addr) (v : Value) (H : List CmR) (h : WaitAt w base wb sp v H) (j : Nat) (hj : j < H.length) (hU : UpInv H H.length j) (hl : H.length ≤ 100000) :
    Calls Tryz.prog 105 #[.iface 99 (.pointer (some ⟨wb, 0, none⟩)), .int .i64 (j : Int)] w fun e w' => e = .returned (.tuple #[]) ∧ ∃ H', H'.Perm H ∧ HeapTo H' H.length ∧ WaitAt w' base wb sp v H' ∧ w.grownBy w' v.ownBlock := by
  have m1 := mLess
  have m2 := mSwap
  obtain ⟨n, hn⟩ : ∃ n, n = H.length := ⟨_, rfl⟩
  rw [← hn] at hj hU hl ⊢
  have HN := hide hn
  have HH := hide h
  have HU := hide hU
  clear hn h hU
  go_enter Tryz.func105, Tryz.ntmps105
  go_wp2_with fail
  go_loopg [1] j (fun k sj wr => ∃ (i : Nat) (G : List CmR), sj = .int .i64 i ∧ i < n ∧ Hid (WaitAt wr base wb sp v G ∧ UpInv G n i ∧ G.Perm H ∧ w.grownBy wr v.ownBlock) ∧ i ≤ k)
  case atStart => exact ⟨j, H, rfl, hj, ⟨unhide HH, unhide HU, List.Perm.refl _, gb_refl _ _⟩, Nat.le_refl _⟩
  case round =>
    obtain ⟨i, G, rfl, hi, HG, hk⟩ := hrel
    have HK := hide hk
    clear hk
    have hGl : G.length = n := by rw [(unhide HG).2.2.1.length_eq, unhide HN]
    rcases Nat.eq_zero_or_pos i with rfl | hi0
    · have hE := (unhide HG).2.1.end0
      have HE := hide hE
      clear hE hGl
      go_upto_region 1 with fail
      refine region_named fun O hO => ?_
      refine wpList_val (by rw [hO]; kernel_rfl) (.int .i64 0) (fun K9 hK9 => by go_simp; exact hK9) ?_
      (try simp only [Act.put, pq1, pq2, pq3])
      refine wpList_val (by rw [hO]; kernel_rfl) (.int .i64 0) (fun K9 hK9 => by go_simp; exact hK9) ?_
      (try simp only [Act.put, pq1, pq2, pq3])
      refine wpList_val (by rw [hO]; kernel_rfl) (.bool true) (fun K9 hK9 => by go_simp; exact hK9) ?_
      (try simp only [Act.put, pq1, pq2, pq3])
      refine wpList_val (by rw [hO]; kernel_rfl) (.bool true) (fun K9 hK9 => by go_simp; exact hK9) ?_
      (try simp only [Act.put, pq1, pq2, pq3])
      refine wpList_skip (by rw [hO]; kernel_rfl) ?_
      (try simp only [Act.put, pq1, pq2, pq3])
      refine wpList_skip (by rw [hO]; kernel_rfl) ?_
      (try simp only [Act.put, pq1, pq2, pq3])
      refine wpList_skip (by rw [hO]; kernel_rfl) ?_
      (try simp only [Act.put, pq1, pq2, pq3])
      refine wpList_skip (by rw [hO]; kernel_rfl) ?_
      (try simp only [Act.put, pq1, pq2, pq3])
      refine wpList_skip (by rw [hO]; kernel_rfl) ?_
      (try simp only [Act.put, pq1, pq2, pq3])
      refine wpList_val (by rw [hO]; kernel_rfl) (.bool true) (fun K9 hK9 => by go_simp; exact hK9) ?_
      (try simp only [Act.put, pq1, pq2, pq3])
      go_wp2
      go_end0
      obtain ⟨a1, a2, a3, a4⟩ := unhide HG
      exact ⟨rfl, G, a3, unhide HE, a1, a4⟩
    · obtain ⟨q, rfl⟩ : ∃ q, i = q + 1 := ⟨i - 1, by omega⟩
      obtain ⟨p, hp⟩ : ∃ p, p = q / 2 := ⟨_, rfl⟩
      have hpq : p ≤ q := by omega
      have hp2 : p = (q + 1 - 1) / 2 := by rw [hp]; rfl
      have hw1 : IntKind.i64.wrap (((q + 1 : Nat) : Int) - 1) = (q : Int) := by rw [IntKind.wrap_i64]; omega
      have hw2 : ((q : Int) + 1) - 1 = (q : Int) := by omega
      have hd : Int.tdiv (q : Int) 2 = (p : Int) := by rw [hp, Int.tdiv_eq_ediv_of_nonneg (by omega)]; omega
      have hd2 : (q : Int) / 2 = (p : Int) := by rw [hp]; omega
      have hne : ¬ ((p : Int) = (q : Int) + 1) := by omega
      have hneb : ((p : Int) == (q : Int) + 1) = false := by simpa using hne
      have ce : (((q + 1 : Nat)) : Int) = (q : Int) + 1 := by omega
      have hiG : q + 1 < G.length := by omega
      have hpG : p < G.length := by omega
      have cl := wless_any wr base wb sp v G (unhide HG).1 (q + 1) p hiG hpG (by omega)
      obtain ⟨y, hy⟩ : ∃ y, y = cmLt G[q + 1] G[p] := ⟨_, rfl⟩
      rw [← hy] at cl
      have hy2 : y = cmLt (atH G (q + 1)) (atH G p) := by rw [hy, atH_eq hiG, atH_eq hpG]
      have HY := hide hy2
      have HP := hide hp2
      have HGL := hide hGl
      have HHG := hide hiG
      have HHP := hide hpG
      rw [ce] at cl ⊢
      clear hp hp2 hy hy2 hGl hiG hpG ce
      cases y with
      | false =>
        go_wp2_with (go_at_call 198; refine cl.mono ?_; rintro e w2 ⟨rfl, g2⟩; clear cl)
        go_end0
        obtain ⟨a1, a2, a3, a4⟩ := unhide HG
        exact ⟨rfl, G, a3, a2.end (by rw [← unhide HP]; exact (unhide HY).symm), a1.none g2, tn a4 g2⟩
      | true =>
        have cs : ∀ w2, wr.grownBy w2 none → Calls Tryz.prog 201 #[.pointer (some ⟨wb, 0, none⟩), .int .i64 (p : Int), .int .i64 ((q : Int) + 1)] w2 fun e w' => e = .returned (.tuple #[]) ∧ WaitAt w' base wb sp v (swapL G p (q + 1) (unhide HHP) (unhide HHG)) ∧ w2.grownBy w' v.ownBlock := fun w2 g2 =>
          wswap_any w2 base wb sp v G ((unhide HG).1.none g2) p (q + 1) (unhide HHP) (unhide HHG) (by have := unhide HGL; omega)
        have HCS := hide cs
        clear cs
        go_wp2_with (first
          | (go_at_call 198; refine cl.mono ?_; rintro e w2 ⟨rfl, g2⟩; clear cl; have cs := unhide HCS w2 g2)
          | (go_at_call 201; refine cs.mono ?_; rintro e w3 ⟨rfl, hW3, g3⟩; clear cs; have HW3 := hide hW3; clear hW3))
        go_roundg p
        case measure => have := unhide HK; omega
        case rel =>
          obtain ⟨a1, a2, a3, a4⟩ := unhide HG
          refine ⟨p, swapL G p (q + 1) (unhide HHP) (unhide HHG), rfl, by omega, ⟨unhide HW3, a2.step (unhide HP) (by omega) hi (unhide HHP) (unhide HHG) (unhide HY).symm, (swapL_perm _ _).trans a3, gb_same (tn a4 g2) g3⟩, Nat.le_refl _⟩

end Go.Proofs.YtlifmipnoeioaaaGreatDoor

/- What the library's heap leaves: down. Of at most 100000 commits. -/
namespace Go.Proofs.YtlifmipnoeioaaaGreatDoor
open Go.RowKit

set_option maxRecDepth 100000 in
set_option maxHeartbeats 8000000 in
theorem down_any (w : World) (base wb : Nat) (sp : Option Addr) (v : Value) (H : List CmR) (h : WaitAt w base wb sp v H) (n : Nat) (hn : n ≤ H.length) (hD : DownInv H n 0) (hl : H.length ≤ 100000) :
    Calls Tryz.prog 81 #[.iface 99 (.pointer (some ⟨wb, 0, none⟩)), .int .i64 0, .int .i64 (n : Int)] w fun e w' => ∃ y, e = .returned y ∧ ∃ H', H'.Perm H ∧ HeapTo H' n ∧ WaitAt w' base wb sp v H' ∧ (∀ k, n ≤ k → atH H' k = atH H k) ∧ w.grownBy w' v.ownBlock := by
  have m1 := mLess
  have m2 := mSwap
  obtain ⟨N, hN⟩ : ∃ N, N = H.length := ⟨_, rfl⟩
  rw [← hN] at hn hl
  have HN := hide hN
  have HH := hide h
  have HD := hide hD
  clear hN h hD
  go_enter Tryz.func81, Tryz.ntmps81
  go_wp2_with fail
  go_loopg [7] n (fun k si wr => ∃ (i : Nat) (G : List CmR), si = .int .i64 i ∧ i ≤ n ∧ Hid (WaitAt wr base wb sp v G ∧ DownInv G n i ∧ G.Perm H ∧ w.grownBy wr v.ownBlock) ∧ Hid (∀ k, n ≤ k → atH G k = atH H k) ∧ n - i ≤ k)
  case atStart => exact ⟨0, H, rfl, Nat.zero_le _, ⟨unhide HH, unhide HD, List.Perm.refl _, gb_refl _ _⟩, fun _ _ => rfl, by omega⟩
  case round =>
    obtain ⟨i, G, rfl, hi, HG, HKP, hk⟩ := hrel
    have HK := hide hk
    clear hk
    have hGl : G.length = N := by rw [(unhide HG).2.2.1.length_eq, unhide HN]
    have HGL := hide hGl
    obtain ⟨j1, hj1⟩ : ∃ j, j = 2 * i + 1 := ⟨_, rfl⟩
    obtain ⟨j2, hj2⟩ : ∃ j, j = j1 + 1 := ⟨_, rfl⟩
    have e1 : 2 * (i : Int) + 1 = (j1 : Int) := by omega
    have e2 : (j1 : Int) + 1 = (j2 : Int) := by omega
    have b1 : j1 ≤ 300000 := by omega
    have hnn : ¬ ((j1 : Int) < 0) := by omega
    have HJ1 := hide hj1
    have HJ2 := hide hj2
    by_cases hA : j1 < n
    · have hA1 : decide (n ≤ j1) = false := by simp; omega
      have hA2 : ¬ n ≤ j1 := by omega
      by_cases hB : j2 < n
      · have hJ1G : j1 < G.length := by omega
        have hJ2G : j2 < G.length := by omega
        have c6 := wless_any wr base wb sp v G (unhide HG).1 j2 j1 hJ2G hJ1G (by omega)
        obtain ⟨y6, hy6⟩ : ∃ y, y = cmLt G[j2] G[j1] := ⟨_, rfl⟩
        rw [← hy6] at c6
        have hz6 : y6 = cmLt (atH G j2) (atH G j1) := by rw [hy6, atH_eq hJ2G, atH_eq hJ1G]
        have HZ6 := hide hz6
        clear hGl hj1 hj2 hJ1G hJ2G hy6 hz6
        cases y6 with
        | false =>
          go_upto_region 8 with (go_at_call 198; refine c6.mono ?_; rintro e w6 ⟨rfl, g6⟩; clear c6)
          have hJG : j1 < G.length := by have := unhide HGL; omega
          have hIG : i < G.length := by have := unhide HGL; have := unhide HJ1; omega
          have hJ0 : 0 < j1 := by have := unhide HJ1; omega
          have hJp : (j1 - 1) / 2 = i := by have := unhide HJ1; have := unhide HJ2; omega
          have c8 := wless_any w6 base wb sp v G ((unhide HG).1.none g6) j1 i hJG hIG (by have := unhide HGL; omega)
          obtain ⟨y8, hy8⟩ : ∃ y, y = cmLt G[j1] G[i] := ⟨_, rfl⟩
          rw [← hy8] at c8
          have hz8 : y8 = cmLt (atH G j1) (atH G i) := by rw [hy8, atH_eq hJG, atH_eq hIG]
          have hsib : ∀ c, 0 < c → c < n → (c - 1) / 2 = i → cmLt (atH G c) (atH G j1) = false := fun c h1 h2 h3 => by
                    have h4 := unhide HJ1
                    have h5 := unhide HJ2
                    rcases (by omega : c = j1 ∨ c = j2) with rfl | rfl
                    · exact cmLt_irr _
                    · exact (unhide HZ6).symm
          have HZ8 := hide hz8
          have HSB := hide hsib
          have HJG := hide hJG
          have HIG := hide hIG
          have HJ0 := hide hJ0
          have HJP := hide hJp
          have HGW := hide g6
          clear hy8 hz8 hsib hJG hIG hJ0 hJp
          cases y8 with
          | false =>
            go_wp2_with (go_at_call 198; refine c8.mono ?_; rintro e w8 ⟨rfl, g8⟩; clear c8)
            go_ret
            obtain ⟨a1, a2, a3, a4⟩ := unhide HG
            have gA := tn (unhide HGW) g8
            refine ⟨_, rfl, G, a3, a2.end (fun c h1 h2 h3 => cmLt_ntrans _ _ _ (unhide HSB c h1 h2 h3) (unhide HZ8).symm), a1.none gA, fun k hk => unhide HKP k hk, tn a4 gA⟩
          | true =>
            have cs : ∀ w8, w6.grownBy w8 none → Calls Tryz.prog 201 #[.pointer (some ⟨wb, 0, none⟩), .int .i64 (i : Int), .int .i64 (j1 : Int)] w8 fun e w' => e = .returned (.tuple #[]) ∧ WaitAt w' base wb sp v (swapL G i j1 (unhide HIG) (unhide HJG)) ∧ w8.grownBy w' v.ownBlock := fun w8 g8 => wswap_any w8 base wb sp v G ((unhide HG).1.none (tn (unhide HGW) g8)) i j1 (unhide HIG) (unhide HJG) (by have := unhide HGL; omega)
            have HCS := hide cs
            clear cs
            go_wp2_with (first | (go_at_call 198; refine c8.mono ?_; rintro e w8 ⟨rfl, g8⟩; clear c8; have cs := unhide HCS w8 g8) | (go_at_call 201; refine cs.mono ?_; rintro e w9 ⟨rfl, hW9, g9⟩; clear cs; have HW9 := hide hW9; clear hW9))
            go_roundg (n - j1)
            case measure => have := unhide HK; have := unhide HJ1; have := unhide HJ2; omega
            case rel =>
              obtain ⟨a1, a2, a3, a4⟩ := unhide HG
              refine ⟨j1, swapL G i j1 (unhide HIG) (unhide HJG), rfl, by omega, ⟨unhide HW9, a2.step (unhide HJ0) (by omega) (unhide HJP) (unhide HIG) (unhide HJG) (unhide HZ8).symm (unhide HSB), (swapL_perm _ _).trans a3, gb_same (tn a4 (tn (unhide HGW) g8)) g9⟩, fun k hk => ?_, Nat.le_refl _⟩
              rw [atH_swap, if_neg (by omega), if_neg (by have := unhide HJ1; have := unhide HJ2; omega)]
              exact unhide HKP k hk
        | true =>
          go_upto_region 8 with (go_at_call 198; refine c6.mono ?_; rintro e w6 ⟨rfl, g6⟩; clear c6)
          have hJG : j2 < G.length := by have := unhide HGL; omega
          have hIG : i < G.length := by have := unhide HGL; have := unhide HJ1; omega
          have hJ0 : 0 < j2 := by have := unhide HJ1; omega
          have hJp : (j2 - 1) / 2 = i := by have := unhide HJ1; have := unhide HJ2; omega
          have c8 := wless_any w6 base wb sp v G ((unhide HG).1.none g6) j2 i hJG hIG (by have := unhide HGL; omega)
          obtain ⟨y8, hy8⟩ : ∃ y, y = cmLt G[j2] G[i] := ⟨_, rfl⟩
          rw [← hy8] at c8
          have hz8 : y8 = cmLt (atH G j2) (atH G i) := by rw [hy8, atH_eq hJG, atH_eq hIG]
          have hsib : ∀ c, 0 < c → c < n → (c - 1) / 2 = i → cmLt (atH G c) (atH G j2) = false := fun c h1 h2 h3 => by
                    have h4 := unhide HJ1
                    have h5 := unhide HJ2
                    rcases (by omega : c = j1 ∨ c = j2) with rfl | rfl
                    · exact cmLt_asymm _ _ (unhide HZ6).symm
                    · exact cmLt_irr _
          have HZ8 := hide hz8
          have HSB := hide hsib
          have HJG := hide hJG
          have HIG := hide hIG
          have HJ0 := hide hJ0
          have HJP := hide hJp
          have HGW := hide g6
          clear hy8 hz8 hsib hJG hIG hJ0 hJp
          cases y8 with
          | false =>
            go_wp2_with (go_at_call 198; refine c8.mono ?_; rintro e w8 ⟨rfl, g8⟩; clear c8)
            go_ret
            obtain ⟨a1, a2, a3, a4⟩ := unhide HG
            have gA := tn (unhide HGW) g8
            refine ⟨_, rfl, G, a3, a2.end (fun c h1 h2 h3 => cmLt_ntrans _ _ _ (unhide HSB c h1 h2 h3) (unhide HZ8).symm), a1.none gA, fun k hk => unhide HKP k hk, tn a4 gA⟩
          | true =>
            have cs : ∀ w8, w6.grownBy w8 none → Calls Tryz.prog 201 #[.pointer (some ⟨wb, 0, none⟩), .int .i64 (i : Int), .int .i64 (j2 : Int)] w8 fun e w' => e = .returned (.tuple #[]) ∧ WaitAt w' base wb sp v (swapL G i j2 (unhide HIG) (unhide HJG)) ∧ w8.grownBy w' v.ownBlock := fun w8 g8 => wswap_any w8 base wb sp v G ((unhide HG).1.none (tn (unhide HGW) g8)) i j2 (unhide HIG) (unhide HJG) (by have := unhide HGL; omega)
            have HCS := hide cs
            clear cs
            go_wp2_with (first | (go_at_call 198; refine c8.mono ?_; rintro e w8 ⟨rfl, g8⟩; clear c8; have cs := unhide HCS w8 g8) | (go_at_call 201; refine cs.mono ?_; rintro e w9 ⟨rfl, hW9, g9⟩; clear cs; have HW9 := hide hW9; clear hW9))
            go_roundg (n - j2)
            case measure => have := unhide HK; have := unhide HJ1; have := unhide HJ2; omega
            case rel =>
              obtain ⟨a1, a2, a3, a4⟩ := unhide HG
              refine ⟨j2, swapL G i j2 (unhide HIG) (unhide HJG), rfl, by omega, ⟨unhide HW9, a2.step (unhide HJ0) (by omega) (unhide HJP) (unhide HIG) (unhide HJG) (unhide HZ8).symm (unhide HSB), (swapL_perm _ _).trans a3, gb_same (tn a4 (tn (unhide HGW) g8)) g9⟩, fun k hk => ?_, Nat.le_refl _⟩
              rw [atH_swap, if_neg (by omega), if_neg (by have := unhide HJ1; have := unhide HJ2; omega)]
              exact unhide HKP k hk
      · have hB1 : decide (j2 < n) = false := by simp; omega
        clear hGl hj1 hj2
        go_upto_region 6 with fail
        refine region_named fun O hO => ?_
        refine wpList_val (by rw [hO]; kernel_rfl) (.int .i64 (j2 : Int)) (fun K9 hK9 => by go_simp; exact hK9) ?_
        (try simp only [Act.put, pq1, pq2, pq3])
        refine wpList_val (by rw [hO]; kernel_rfl) (.int .i64 (n : Int)) (fun K9 hK9 => by go_simp; exact hK9) ?_
        (try simp only [Act.put, pq1, pq2, pq3])
        refine wpList_val (by rw [hO]; kernel_rfl) (.bool false) (fun K9 hK9 => by go_simp; exact hK9) ?_
        (try simp only [Act.put, pq1, pq2, pq3])
        refine wpList_val (by rw [hO]; kernel_rfl) (.bool false) (fun K9 hK9 => by go_simp; exact hK9) ?_
        (try simp only [Act.put, pq1, pq2, pq3])
        refine wpList_skip (by rw [hO]; kernel_rfl) ?_
        (try simp only [Act.put, pq1, pq2, pq3])
        refine wpList_skip (by rw [hO]; kernel_rfl) ?_
        (try simp only [Act.put, pq1, pq2, pq3])
        refine wpList_skip (by rw [hO]; kernel_rfl) ?_
        (try simp only [Act.put, pq1, pq2, pq3])
        refine wpList_skip (by rw [hO]; kernel_rfl) ?_
        (try simp only [Act.put, pq1, pq2, pq3])
        refine wpList_val (by rw [hO]; kernel_rfl) (.bool false) (fun K9 hK9 => by go_simp; exact hK9) ?_
        (try simp only [Act.put, pq1, pq2, pq3])
        go_upto_region 8 with fail
        have hJG : j1 < G.length := by have := unhide HGL; omega
        have hIG : i < G.length := by have := unhide HGL; have := unhide HJ1; omega
        have hJ0 : 0 < j1 := by have := unhide HJ1; omega
        have hJp : (j1 - 1) / 2 = i := by have := unhide HJ1; have := unhide HJ2; omega
        have c8 := wless_any wr base wb sp v G ((unhide HG).1.none (gb_refl wr none)) j1 i hJG hIG (by have := unhide HGL; omega)
        obtain ⟨y8, hy8⟩ : ∃ y, y = cmLt G[j1] G[i] := ⟨_, rfl⟩
        rw [← hy8] at c8
        have hz8 : y8 = cmLt (atH G j1) (atH G i) := by rw [hy8, atH_eq hJG, atH_eq hIG]
        have hsib : ∀ c, 0 < c → c < n → (c - 1) / 2 = i → cmLt (atH G c) (atH G j1) = false := fun c h1 h2 h3 => by
                  have : c = j1 := by have := unhide HJ1; have := unhide HJ2; omega
                  rw [this]; exact cmLt_irr _
        have HZ8 := hide hz8
        have HSB := hide hsib
        have HJG := hide hJG
        have HIG := hide hIG
        have HJ0 := hide hJ0
        have HJP := hide hJp
        have HGW := hide (gb_refl wr none)
        clear hy8 hz8 hsib hJG hIG hJ0 hJp
        cases y8 with
        | false =>
          go_wp2_with (go_at_call 198; refine c8.mono ?_; rintro e w8 ⟨rfl, g8⟩; clear c8)
          go_ret
          obtain ⟨a1, a2, a3, a4⟩ := unhide HG
          have gA := tn (unhide HGW) g8
          refine ⟨_, rfl, G, a3, a2.end (fun c h1 h2 h3 => cmLt_ntrans _ _ _ (unhide HSB c h1 h2 h3) (unhide HZ8).symm), a1.none gA, fun k hk => unhide HKP k hk, tn a4 gA⟩
        | true =>
          have cs : ∀ w8, wr.grownBy w8 none → Calls Tryz.prog 201 #[.pointer (some ⟨wb, 0, none⟩), .int .i64 (i : Int), .int .i64 (j1 : Int)] w8 fun e w' => e = .returned (.tuple #[]) ∧ WaitAt w' base wb sp v (swapL G i j1 (unhide HIG) (unhide HJG)) ∧ w8.grownBy w' v.ownBlock := fun w8 g8 => wswap_any w8 base wb sp v G ((unhide HG).1.none (tn (unhide HGW) g8)) i j1 (unhide HIG) (unhide HJG) (by have := unhide HGL; omega)
          have HCS := hide cs
          clear cs
          go_wp2_with (first | (go_at_call 198; refine c8.mono ?_; rintro e w8 ⟨rfl, g8⟩; clear c8; have cs := unhide HCS w8 g8) | (go_at_call 201; refine cs.mono ?_; rintro e w9 ⟨rfl, hW9, g9⟩; clear cs; have HW9 := hide hW9; clear hW9))
          go_roundg (n - j1)
          case measure => have := unhide HK; have := unhide HJ1; have := unhide HJ2; omega
          case rel =>
            obtain ⟨a1, a2, a3, a4⟩ := unhide HG
            refine ⟨j1, swapL G i j1 (unhide HIG) (unhide HJG), rfl, by omega, ⟨unhide HW9, a2.step (unhide HJ0) (by omega) (unhide HJP) (unhide HIG) (unhide HJG) (unhide HZ8).symm (unhide HSB), (swapL_perm _ _).trans a3, gb_same (tn a4 (tn (unhide HGW) g8)) g9⟩, fun k hk => ?_, Nat.le_refl _⟩
            rw [atH_swap, if_neg (by omega), if_neg (by have := unhide HJ1; have := unhide HJ2; omega)]
            exact unhide HKP k hk
    · have hA1 : decide (n ≤ j1) = true := by simp; omega
      have hA2 : n ≤ j1 := by omega
      have hE := (unhide HG).2.1.end (fun c h1 h2 h3 => by omega)
      have HE := hide hE
      clear hE hGl hj1 hj2
      go_upto_region 3 with fail
      refine region_named fun O hO => ?_
      refine wpList_val (by rw [hO]; kernel_rfl) (.int .i64 (j1 : Int)) (fun K9 hK9 => by go_simp; exact hK9) ?_
      (try simp only [Act.put, pq1, pq2, pq3])
      refine wpList_val (by rw [hO]; kernel_rfl) (.int .i64 (n : Int)) (fun K9 hK9 => by go_simp; exact hK9) ?_
      (try simp only [Act.put, pq1, pq2, pq3])
      refine wpList_val (by rw [hO]; kernel_rfl) (.bool true) (fun K9 hK9 => by go_simp; exact hK9) ?_
      (try simp only [Act.put, pq1, pq2, pq3])
      refine wpList_val (by rw [hO]; kernel_rfl) (.bool true) (fun K9 hK9 => by go_simp; exact hK9) ?_
      (try simp only [Act.put, pq1, pq2, pq3])
      refine wpList_skip (by rw [hO]; kernel_rfl) ?_
      (try simp only [Act.put, pq1, pq2, pq3])
      refine wpList_skip (by rw [hO]; kernel_rfl) ?_
      (try simp only [Act.put, pq1, pq2, pq3])
      refine wpList_val (by rw [hO]; kernel_rfl) (.bool true) (fun K9 hK9 => by go_simp; exact hK9) ?_
      (try simp only [Act.put, pq1, pq2, pq3])
      go_wp2
      go_ret
      obtain ⟨a1, a2, a3, a4⟩ := unhide HG
      first
        | exact ⟨_, rfl, G, a3, unhide HE, a1, unhide HKP, a4⟩
        | exact ⟨⟨_, rfl⟩, G, a3, unhide HE, a1, unhide HKP, a4⟩

end Go.Proofs.YtlifmipnoeioaaaGreatDoor

/- What the library's heap.Push and heap.Pop answer and leave, of commits that wait: the least one is handed out. Of at most 90000 commits. -/
namespace Go.Proofs.YtlifmipnoeioaaaGreatDoor
open Go.RowKit

theorem byPile_row {w a b : World} {pb : Nat} {v v' : Value} (h : ByPile w a pb v) (k : a.grownBy b v'.ownBlock) (hv : ∀ k, v'.ownBlock = some k → v.ownBlock = some k ∨ w.heap.size ≤ k) : ByPile w b pb v :=
  ⟨k.os.trans h.os, k.tape.trans h.tape, k.output.trans h.output, Nat.le_trans h.size k.size, fun i hi h1 h2 => by
    rw [k.block i (Nat.lt_of_lt_of_le hi h.size) (fun e => by
      rcases hv i e.symm with h3 | h3
      · exact h2 h3.symm
      · omega), h.block i hi h1 h2]⟩

theorem upInv_new {H : List CmR} (r : CmR) (h : HeapTo H H.length) : UpInv (H ++ [r]) (H.length + 1) H.length := by
  have hat : ∀ i, i < H.length → atH (H ++ [r]) i = atH H i := fun i hi => by
    unfold atH
    rw [List.getD_eq_getElem?_getD, List.getD_eq_getElem?_getD, List.getElem?_append_left hi]
  refine ⟨fun i h1 h2 h3 => ?_, fun h0 c h1 h2 h3 => by omega⟩
  rw [hat i (by omega), hat _ (by omega)]
  exact h i h1 (by omega)

set_option maxRecDepth 100000 in
set_option maxHeartbeats 4000000 in
theorem hpush_any (w : World) (base wb : Nat) (sp : Option Addr) (v : Value) (H : List CmR) (h : WaitAt w base wb sp v H) (r : CmR) (hr : r.id.length = 32) (hH : HeapTo H H.length) (hL : H.length ≤ 90000) :
    Calls Tryz.prog 80 #[.iface 99 (.pointer (some ⟨wb, 0, none⟩)), .iface 107 (.agg (cmC r).toArray)] w fun e w' => e = .returned (.tuple #[]) ∧ ∃ v' H', WaitAt w' base wb sp v' H' ∧ H'.Perm (H ++ [r]) ∧ HeapTo H' H'.length ∧ ByPile w w' wb v ∧ (∀ k, v'.ownBlock = some k → v.ownBlock = some k ∨ w.heap.size ≤ k) := by
  have m1 := mPush
  have m2 := mLen
  have cp := wpush_any w base wb sp v H h r hr (by omega)
  obtain ⟨RV, hRV⟩ : ∃ x, x = Value.agg (cmC r).toArray := ⟨_, rfl⟩
  rw [← hRV] at cp ⊢
  have HU := hide (upInv_new r hH)
  obtain ⟨n, hn⟩ : ∃ n, n = H.length := ⟨_, rfl⟩
  have HN := hide hn
  have hL' : n ≤ 90000 := by omega
  clear h hr hH hL hRV hn
  go_enter Tryz.func80, Tryz.ntmps80
  go_wp2_with fail
  refine cp.mono ?_
  rintro e w1 ⟨rfl, v1, hW1, hP1, hv1⟩
  have cl := wlen_any w1 base wb sp v1 _ hW1
  have el : (H ++ [r]).length = n + 1 := by rw [unhide HN]; simp
  rw [el] at cl
  have ew : (((n + 1 : Nat)) : Int) = (n : Int) + 1 := by omega
  rw [ew] at cl
  have cu := up_any w1 base wb sp v1 _ hW1 n (by omega) (by rw [el]; have := unhide HU; rw [← unhide HN] at this; exact this) (by omega)
  have hw : IntKind.i64.wrap ((n : Int) + 1 - 1) = (n : Int) := by rw [IntKind.wrap_i64]; omega
  have hw2 : (n : Int) + 1 - 1 = (n : Int) := by omega
  have HP1 := hide hP1
  have HV1 := hide hv1
  have HEL := hide el
  clear cp hW1 hP1 hv1 el ew
  go_wp2_with (first
    | (go_at_call 55; refine cl.mono ?_; rintro e w2 ⟨rfl, e2⟩; subst w2; clear cl))
  refine cu.mono ?_
  rintro e w3 ⟨rfl, H3, p3, q3, hW3, g3⟩
  have HQ := hide (And.intro p3 (And.intro q3 (And.intro hW3 g3)))
  clear cu p3 q3 hW3 g3
  go_wp2
  go_end0
  obtain ⟨p3, q3, hW3, g3⟩ := unhide HQ
  exact ⟨rfl, v1, H3, hW3, p3, by rw [p3.length_eq]; exact q3, byPile_row (unhide HP1) g3 (unhide HV1), unhide HV1⟩

theorem downInv_pop {H : List CmR} (n : Nat) (hn : H.length = n + 1) (h : HeapTo H (n + 1)) : DownInv (swapL H 0 n (by omega) (by omega)) n 0 := by
  refine ⟨fun i h1 h2 h3 => ?_, fun h0 => by omega⟩
  rw [atH_swap, atH_swap, if_neg (by omega), if_neg (by omega), if_neg (by omega), if_neg h3]
  exact h i h1 (by omega)

theorem list_snoc_at {H : List CmR} (n : Nat) (hn : H.length = n + 1) : H = H.take n ++ [atH H n] := by
  rw [atH_eq (by omega)]
  conv => lhs; rw [← List.take_append_drop n H, List.drop_eq_getElem_cons (by omega)]
  rw [List.drop_of_length_le (by omega)]

set_option maxRecDepth 100000 in
set_option maxHeartbeats 4000000 in
theorem hpop_any (w : World) (base wb : Nat) (sp : Option Addr) (v : Value) (H : List CmR) (h : WaitAt w base wb sp v H) (h0 : 0 < H.length) (hH : HeapTo H H.length) (hL : H.length ≤ 90000) :
    Calls Tryz.prog 56 #[.iface 99 (.pointer (some ⟨wb, 0, none⟩))] w fun e w' => ∃ r v' H', e = .returned (.iface 107 (.agg (cmC r).toArray)) ∧ r ∈ H ∧ (∀ x ∈ H, cmLt x r = false) ∧ WaitAt w' base wb sp v' H' ∧ (H' ++ [r]).Perm H ∧ HeapTo H' H'.length ∧ ByPile w w' wb v ∧ v'.ownBlock = v.ownBlock := by
  have m1 := mLen
  have m2 := mSwap
  have m3 := mPop
  obtain ⟨n, hn⟩ : ∃ n, H.length = n + 1 := ⟨H.length - 1, by omega⟩
  have cl := wlen_any w base wb sp v H h
  have cs := wswap_any w base wb sp v H h 0 n (by omega) (by omega) (by omega)
  rw [hn] at cl hH
  have ew : (((n + 1 : Nat)) : Int) = (n : Int) + 1 := by omega
  rw [ew] at cl
  have hw : IntKind.i64.wrap ((n : Int) + 1 - 1) = (n : Int) := by rw [IntKind.wrap_i64]; omega
  have hw2 : (n : Int) + 1 - 1 = (n : Int) := by omega
  obtain ⟨G, hG⟩ : ∃ G, G = swapL H 0 n (by omega) (by omega) := ⟨_, rfl⟩
  rw [← hG] at cs
  have hGl : G.length = n + 1 := by rw [hG, swapL_len]; exact hn
  have hGD : DownInv G n 0 := by rw [hG]; exact downInv_pop n hn hH
  have hGp : G.Perm H := by rw [hG]; exact swapL_perm _ _
  have hGn : atH G n = atH H 0 := by rw [hG, atH_swap, if_pos rfl]
  have htop : ∀ x ∈ H, cmLt x (atH H 0) = false := fun x hx => by
    obtain ⟨i, hi, rfl⟩ := List.mem_iff_getElem.1 hx
    rw [← atH_eq hi]
    exact hH.top i (by omega)
  have hmem : atH H 0 ∈ H := by rw [atH_eq h0]; exact List.getElem_mem h0
  have hn9 : n ≤ 90000 := by omega
  have HGL := hide hGl
  have HGD := hide hGD
  have HGP := hide hGp
  have HGN := hide hGn
  have HTOP := hide htop
  have HMEM := hide hmem
  have c0 : ((0 : Nat) : Int) = 0 := rfl
  rw [c0] at cs
  clear h h0 hH hL hn ew hG hGl hGD hGp hGn htop hmem c0
  go_enter Tryz.func56, Tryz.ntmps56
  go_wp2_with (first
    | (go_at_call 55; refine cl.mono ?_; rintro e w1 ⟨rfl, e1⟩; subst w1; clear cl)
    | (go_at_call 201; refine cs.mono ?_; rintro e w2 ⟨rfl, hW2, g2⟩; clear cs; have HW2 := hide hW2; clear hW2; have cd := down_any w2 base wb sp v G (unhide HW2) n (by have := unhide HGL; omega) (unhide HGD) (by have := unhide HGL; omega)))
  refine cd.mono ?_
  rintro e w3 ⟨y3, rfl, G3, p3, q3, hW3, hk3, g3⟩
  have hl3 : G3.length = n + 1 := by rw [p3.length_eq]; exact unhide HGL
  have hs3 := list_snoc_at n hl3
  have hr3 : atH G3 n = atH H 0 := by rw [hk3 n (Nat.le_refl _)]; exact unhide HGN
  rw [hr3] at hs3
  have hW3' := hW3
  rw [hs3] at hW3'
  have cp := wpop_any w3 base wb sp v (G3.take n) (atH H 0) hW3' (by rw [List.length_take]; omega)
  have HF : Hid ((G3.take n ++ [atH H 0]).Perm H ∧ HeapTo (G3.take n) (G3.take n).length) := by
    refine ⟨by rw [← hs3]; exact p3.trans (unhide HGP), ?_⟩
    rw [List.length_take, hl3, Nat.min_eq_left (Nat.le_succ n)]
    refine q3.less fun i hi => ?_
    unfold atH
    rw [List.getD_eq_getElem?_getD, List.getD_eq_getElem?_getD, List.getElem?_take_of_lt hi]
  have HGG := hide (And.intro g2 g3)
  obtain ⟨RC, hRC⟩ : ∃ x, x = Value.agg (cmC (atH H 0)).toArray := ⟨_, rfl⟩
  rw [← hRC] at cp
  have HRC := hide hRC
  clear cd p3 q3 hW3 hk3 g3 hl3 hs3 hr3 hW3' hRC g2
  go_wp2_with (go_at_call 199; refine cp.mono ?_; rintro e w4 ⟨rfl, v4, hW4, g4, hv4⟩; clear cp; have HW4 := hide (And.intro hW4 (And.intro g4 hv4)); clear hW4 g4 hv4)
  go_ret
  obtain ⟨hW4, g4, hv4⟩ := unhide HW4
  obtain ⟨g2, g3⟩ := unhide HGG
  refine ⟨atH H 0, v4, G3.take n, by rw [unhide HRC]; rfl, unhide HMEM, unhide HTOP, hW4, (unhide HF).1, (unhide HF).2, ?_, hv4⟩
  have g23 := gb_same g2 g3
  refine ⟨g4.os.trans g23.os, g4.tape.trans g23.tape, g4.output.trans g23.output, Nat.le_trans g23.size g4.size, fun k hk h1 h2 => ?_⟩
  rw [g4.block k (Nat.lt_of_lt_of_le hk g23.size) (fun e => h1 (by cases e; rfl)), g23.block k hk h2]

end Go.Proofs.YtlifmipnoeioaaaGreatDoor
