/- The library's sort of names: laid in this program's numbers (the shelf's contract, imported); what graph's compare and Less answer. No condition but those that each lemma names. -/
import Derived.Test.YtlifmipnoeioaaaGreatDoorGMap
import Derived.Test.YtlifmipnoeioaaaGreatDoorNLess
import Derived.Shelf.SlSortCmp.WholeK
import Derived.Shelf.SlSortCmp.NoneTotal
import Derived.Test.YtlifmipnoeioaaaGreatDoorOData
import Derived.Lib.BytesEntry
import Derived.Lib.Bytealg
import Derived.Test.YtlifmipnoeioaaaGreatDoorGCloN
namespace Go.Proofs.YtlifmipnoeioaaaGreatDoor
open Go.RowKit Go.Shelf Go.Lib Go.Sort

/-- This program's numbers, in the places of the shelf's. -/
def srtR : Ren :=
  ⟨fun n => if n = 6 then 70 else if n = 14 then 100 else if n = 15 then 101 else if n = 20 then 128
    else if n = 21 then 129 else if n = 22 then 130 else if n = 23 then 131 else if n = 24 then 132
    else if n = 25 then 133 else if n = 26 then 134 else if n = 27 then 135 else if n = 28 then 136 else if n = 29 then 137
    else if n = 46 then 158 else if n = 47 then 159 else if n = 48 then 160 else if n = 49 then 161 else if n = 50 then 162 else if n = 57 then 173 else n,
   fun n => if n = 0 then 0 else if n = 3 then 3 else if n = 4 then 4 else if n = 5 then 5 else if n = 9 then 9 else if n = 22 then 29 else if n = 24 then 33 else if n = 25 then 111 else if n = 39 then 174 else if n = 45 then 214
    else if n = 46 then 215 else if n = 50 then 219 else if n = 53 then 209 else if n = 55 then 70 else if n = 66 then 237 else if n = 70 then 241 else if n = 76 then 251 else if n = 77 then 252 else n,
   fun n => n⟩

theorem srt6 : SlLaysF0.n6 Tryz.prog srtR where
  mixed := by kernel_rfl
  f6 := ⟨Tryz.f70.name, by kernel_rfl, by kernel_rfl⟩
  f14 := ⟨Tryz.f100.name, by kernel_rfl, by kernel_rfl⟩
  f15 := by kernel_rfl
  f20 := ⟨Tryz.f128.name, by kernel_rfl, by kernel_rfl⟩
  f21 := ⟨Tryz.f129.name, by kernel_rfl, by kernel_rfl⟩
  f22 := ⟨Tryz.f130.name, by kernel_rfl, by kernel_rfl⟩
  f23 := ⟨Tryz.f131.name, by kernel_rfl, by kernel_rfl⟩
  f24 := ⟨Tryz.f132.name, by kernel_rfl, by kernel_rfl⟩
  f25 := ⟨Tryz.f133.name, by kernel_rfl, by kernel_rfl⟩
  f26 := ⟨Tryz.f134.name, by kernel_rfl, by kernel_rfl⟩
  f27 := ⟨Tryz.f135.name, by kernel_rfl, by kernel_rfl⟩
  f28 := by kernel_rfl
  f29 := by kernel_rfl
  f46 := ⟨Tryz.f158.name, by kernel_rfl, by kernel_rfl⟩
  f47 := by kernel_rfl
  f48 := by kernel_rfl
  f49 := ⟨Tryz.f161.name, by kernel_rfl, by kernel_rfl⟩
  f50 := ⟨Tryz.f162.name, by kernel_rfl, by kernel_rfl⟩
  f57 := ⟨Tryz.f173.name, by kernel_rfl, by kernel_rfl⟩
  t0 := by kernel_rfl
  a0 := fun _ => by kernel_rfl
  z0 := fun _ => by kernel_rfl
  v0 := fun _ => by kernel_rfl
  t3 := by kernel_rfl
  a3 := fun _ => by kernel_rfl
  z3 := fun _ => by kernel_rfl
  v3 := fun _ => by kernel_rfl
  t4 := by kernel_rfl
  a4 := fun _ => by kernel_rfl
  z4 := fun _ => by kernel_rfl
  v4 := fun _ => by kernel_rfl
  t5 := by kernel_rfl
  a5 := fun _ => by kernel_rfl
  z5 := fun _ => by kernel_rfl
  v5 := fun _ => by kernel_rfl
  t9 := by kernel_rfl
  a9 := fun _ => by kernel_rfl
  z9 := fun _ => by kernel_rfl
  v9 := fun _ => by kernel_rfl
  t22 := by kernel_rfl
  a22 := fun _ => by kernel_rfl
  z22 := fun _ => by kernel_rfl
  v22 := fun _ => by kernel_rfl
  t25 := by kernel_rfl
  a25 := fun _ => by kernel_rfl
  z25 := fun _ => by kernel_rfl
  v25 := fun _ => by kernel_rfl
  t39 := by kernel_rfl
  a39 := fun _ => by kernel_rfl
  z39 := fun _ => by kernel_rfl
  v39 := fun _ => by kernel_rfl
  t45 := by kernel_rfl
  a45 := fun _ => by kernel_rfl
  z45 := fun _ => by kernel_rfl
  v45 := fun _ => by kernel_rfl
  t46 := by kernel_rfl
  a46 := fun _ => by kernel_rfl
  z46 := fun _ => by kernel_rfl
  v46 := fun _ => by kernel_rfl
  t50 := by kernel_rfl
  a50 := fun _ => by kernel_rfl
  z50 := fun _ => by kernel_rfl
  v50 := fun _ => by kernel_rfl
  t53 := by kernel_rfl
  a53 := fun _ => by kernel_rfl
  z53 := fun _ => by kernel_rfl
  v53 := fun _ => by kernel_rfl
  t55 := by kernel_rfl
  a55 := fun _ => by kernel_rfl
  z55 := fun _ => by kernel_rfl
  v55 := fun _ => by kernel_rfl
  t66 := by kernel_rfl
  a66 := fun _ => by kernel_rfl
  z66 := fun _ => by kernel_rfl
  v66 := fun _ => by kernel_rfl
  t70 := by kernel_rfl
  a70 := fun _ => by kernel_rfl
  z70 := fun _ => by kernel_rfl
  v70 := fun _ => by kernel_rfl
  t76 := by kernel_rfl
  a76 := fun _ => by kernel_rfl
  z76 := fun _ => by kernel_rfl
  v76 := fun _ => by kernel_rfl
  t77 := by kernel_rfl
  a77 := fun _ => by kernel_rfl
  z77 := fun _ => by kernel_rfl
  v77 := fun _ => by kernel_rfl

end Go.Proofs.YtlifmipnoeioaaaGreatDoor

/- What graph's compare and Less answer; and that the library's sort, by compare, leaves names that rise. -/
namespace Go.Proofs.YtlifmipnoeioaaaGreatDoor
open Go.RowKit Go.Shelf Go.Lib Go.Sort

theorem cmp_less : ∀ a b : List UInt8, decide (compareBytes a b < 0) = lessL a b
  | [], [] => rfl
  | [], _ :: _ => rfl
  | _ :: _, [] => rfl
  | x :: a, y :: b => by
    rw [lessL_cons, ← cmp_less a b]
    show decide ((if x < y then -1 else if y < x then 1 else compareBytes a b) < 0) = _
    by_cases h1 : x < y
    · simp [h1]
    · by_cases h2 : y < x
      · have : (x == y) = false := by
          rw [beq_eq_false_iff_ne]
          rintro rfl
          exact UInt8.lt_irrefl _ h2
        simp [h1, h2, this]
      · have : x = y := UInt8.le_antisymm (UInt8.not_lt.1 h2) (UInt8.not_lt.1 h1)
        subst this
        simp [h1]

theorem run_cmp (W : World) (bA bB : Nat) (a b : List UInt8) (ha : a.length = 32) (hb : b.length = 32) (hA : W.rangeAt bA 0 (a.map bv)) (hB : W.rangeAt bB 0 (b.map bv)) :
    (Extern.BytealgCompare.compare #[.slice (some ⟨bA, 0, none⟩) 32 32, .slice (some ⟨bB, 0, none⟩) 32 32]).run Tryz.prog W = .ok (.int .i64 (compareBytes a b)) W := by
  have hl : ∀ (blk : Nat) (l : List UInt8), l.length = 32 → W.rangeAt blk 0 (l.map bv) → (Extern.Bytes.bytesOf (.slice (some ⟨blk, 0, none⟩) 32 32)).run Tryz.prog W = .ok ⟨l.toArray⟩ W := by
    intro blk l hl hr
    have := run_loadBytesX (P := Tryz.prog) W (l.map fun x => (x.toNat : Int)) ⟨blk, 0, none⟩ .empty (fun j x hx => by
      obtain ⟨hj, rfl⟩ := List.getElem?_eq_some_iff.1 hx
      have hj' : j < l.length := by simpa using hj
      rw [Addr.add_mid]
      have := hr j (bv l[j]) (by simp [hj'])
      simpa [bv] using this)
    rw [List.length_map, hl] at this
    show (Extern.Bytes.loadBytes _ 32 _).run _ _ = _
    rw [this]
    have e : Lib.bytesOf (l.map fun x => (x.toNat : Int)) = l := by
      unfold Lib.bytesOf
      rw [List.map_map]
      conv => rhs; rw [← List.map_id l]
      apply List.map_congr_left
      intro x _
      simp
    rw [e]
    simp
  change Sem.run Tryz.prog (do pure (goInt (Extern.BytealgCompare.cmp (← Extern.Bytes.bytesOf (.slice (some ⟨bA, 0, none⟩) 32 32)) (← Extern.Bytes.bytesOf (.slice (some ⟨bB, 0, none⟩) 32 32))))) W = _
  simp only [Sem.run_bind, hl bA a ha hA, hl bB b hb hB, Sem.run_pure, Result.andThen]
  rw [cmp_eq]
  rfl

set_option maxRecDepth 100000 in
theorem bcmp_any (W : World) (bA bB : Nat) (a b : List UInt8) (ha : a.length = 32) (hb : b.length = 32) (hA : W.rangeAt bA 0 (a.map bv)) (hB : W.rangeAt bB 0 (b.map bv)) :
    Calls Tryz.prog 83 #[.slice (some ⟨bA, 0, none⟩) 32 32, .slice (some ⟨bB, 0, none⟩) 32 32] W fun e w' => e = .returned (.int .i64 (compareBytes a b)) ∧ w' = W := by
  have h8 := @run_callFunc_extern Tryz.prog 111 _ Extern.BytealgCompare.compare Tryz.func111 (by kernel_rfl) (by kernel_rfl) (by kernel_rfl) (by kernel_rfl)
  have h9 := run_cmp W bA bB a b ha hb hA hB
  obtain ⟨y, hy⟩ : ∃ y, y = compareBytes a b := ⟨_, rfl⟩
  rw [← hy] at h9 ⊢
  clear hy hA hB ha hb
  go_enter Tryz.func83, Tryz.ntmps83
  go_wp2
  go_ret
  exact ⟨rfl, rfl⟩

set_option maxRecDepth 100000 in
theorem compare_any (W : World) (a b : List UInt8) (ha : a.length = 32) (hb : b.length = 32) :
    Calls Tryz.prog 58 #[keyV a, keyV b] W fun e w' => e = .returned (.int .i64 (compareBytes a b)) ∧ ∃ q os, w' = grow (W.drewN q) os := by
  obtain ⟨AB, hAB⟩ : ∃ l, l = a.map bv := ⟨_, rfl⟩
  obtain ⟨BB, hBB⟩ : ∃ l, l = b.map bv := ⟨_, rfl⟩
  obtain ⟨y, hy⟩ : ∃ y, y = compareBytes a b := ⟨_, rfl⟩
  obtain ⟨W1, hW1, hB1, g1⟩ := box_new W 33 AB
  obtain ⟨W2, hW2, hB2, g2⟩ := box_new W1 33 BB
  have hs1 : W1.heap.size = W.heap.size + 1 := by rw [hW1]; simp
  rw [hs1] at hB2
  obtain ⟨WD, hWD⟩ : ∃ V, V = W2.drew := ⟨_, rfl⟩
  have hfin : ∃ q os, WD = grow (W.drewN q) os := ⟨1, #[.cells AB.toArray 33, .cells BB.toArray 33], by
    rw [hWD, hW2, hW1, alloc_eq_grow, alloc_eq_grow, grow_grow]; rfl⟩
  have hc := bcmp_any WD W.heap.size (W.heap.size + 1) a b ha hb (by rw [hWD, ← hAB]; exact blk_all (hB1.kept g2 (by simp)).drew) (by rw [hWD, ← hBB]; exact blk_all hB2.drew)
  rw [← hy] at hc
  have hW : W2 = (W.alloc (.cells AB.toArray 33)).alloc (.cells BB.toArray 33) := by rw [hW2, hW1]
  rw [show keyV a = .agg AB.toArray by rw [hAB]; rfl, show keyV b = .agg BB.toArray by rw [hBB]; rfl, ← hy]
  have HW := hide hW
  have HC := hide hc
  have HF := hide hfin
  clear hW hW1 hW2 hB1 hB2 g1 g2 hs1 hAB hBB hy hc hfin ha hb
  go_enter Tryz.func58, Tryz.ntmps58
  go_upto_region 1 with (rw [← unhide HW])
  refine wp_region_noPanic ?_
  refine wp_region_held_drew (S := fun V => V = WD) (by kernel_rfl) hWD.symm (fun _ => ?_)
  rw [← hWD]
  clear hWD
  refine wpAnyH_take (i := 0) (oi := ⟨some 5, .slice 33 (.tmp 2) none none none, _, _, _, _⟩) (v := .slice (some ⟨W.heap.size, 0, none⟩) 32 32) rfl (by kernel_rfl) (by kernel_rfl) (by kernel_rfl) (fun _ _ _ h => h) (Or.inl ⟨by rfl, fun V (hV : V = WD) => by (subst hV; have z9 := slice_wid W.heap.size 0; go_simp)⟩) rfl ?_
  (try simp only [Act.put, pq1, pq2, pq3])
  refine wpAnyH_take (i := 1) (oi := ⟨some 6, .slice 33 (.tmp 3) none none none, _, _, _, _⟩) (v := .slice (some ⟨W.heap.size + 1, 0, none⟩) 32 32) rfl (by kernel_rfl) (by kernel_rfl) (by kernel_rfl) (fun _ _ _ h => h) (Or.inl ⟨by rfl, fun V (hV : V = WD) => by (subst hV; have z9 := slice_wid (W.heap.size + 1) 0; go_simp)⟩) rfl ?_
  (try simp only [Act.put, pq1, pq2, pq3])
  refine wpAnyH_ready (rs := [2]) (by kernel_rfl) (by simp) ?_
  refine AllReadyH.cons (o := ⟨some 7, .call { callee := .value (.func 83), args := #[(.tmp 5), (.tmp 6)], argTypes := #[37, 37] }, _, _, _, _⟩) rfl (fun K9 hK9 => ?_) AllReadyH.nil
  go_simp
  go_at_call 83
  refine (unhide HC).mono ?_
  rintro e w2 ⟨rfl, e2⟩
  subst w2
  go_wp2_with fail
  refine hK9.out _ _ rfl (fun _ => ?_)
  clear hK9 K9
  (try simp only [Act.put, pq1, pq2, pq3])
  refine wpAnyH_take (i := 3) (oi := ⟨some 4, .assign (.tmp 7), _, _, _, _⟩) (v := .int .i64 y) rfl (by kernel_rfl) (by kernel_rfl) (by kernel_rfl) (fun _ _ _ h => h) (Or.inl ⟨by rfl, fun V (hV : V = WD) => by go_simp⟩) rfl ?_
  (try simp only [Act.put, pq1, pq2, pq3])
  refine wpAnyH_done (by kernel_rfl) ?_ _
  refine NoPanic.normal ?_
  go_wp2
  go_ret
  exact ⟨rfl, unhide HF⟩

theorem grow_gb (W : World) (q : Nat) (os : Array Obj) : W.grownBy (grow (W.drewN q) os) none :=
  ⟨rfl, rfl, rfl, by simp [grow, World.drewN], fun i hi _ => by
    have : i < (W.drewN q).heap.size := hi
    simp only [grow]
    rw [Array.getElem?_append_left this]
    rfl⟩

set_option maxRecDepth 100000 in
theorem gless_any (w : World) (a b : List UInt8) (ha : a.length = 32) (hb : b.length = 32) :
    Calls Tryz.prog 30 #[keyV a, keyV b] w fun e w' => e = .returned (.bool (lessL a b)) ∧ w.grownBy w' none := by
  obtain ⟨AB, hAB⟩ : ∃ l, l = a.map bv := ⟨_, rfl⟩
  obtain ⟨BB, hBB⟩ : ∃ l, l = b.map bv := ⟨_, rfl⟩
  have hAl : AB.length = 32 := by rw [hAB]; simp [ha]
  have hBl : BB.length = 32 := by rw [hBB]; simp [hb]
  obtain ⟨W1, hW1, hB1, g1⟩ := box_new w 33 AB
  obtain ⟨W2, hW2, hB2, g2⟩ := box_new W1 33 BB
  have hs1 : W1.heap.size = w.heap.size + 1 := by rw [hW1]; simp
  rw [hs1] at hB2
  have hc := compare_any W2 a b ha hb
  rw [← cmp_less]
  obtain ⟨y, hy⟩ : ∃ y, y = compareBytes a b := ⟨_, rfl⟩
  rw [← hy] at hc ⊢
  have hra := blk_all (hB1.kept g2 (by simp))
  have hrb := blk_all hB2
  have hiA : (Tryz.prog.info? 33).map (·.size) = some AB.length := by rw [hAl]; exact info_id
  have hiB : (Tryz.prog.info? 33).map (·.size) = some BB.length := by rw [hBl]; exact info_id
  have hW : W2 = (w.alloc (.cells AB.toArray 33)).alloc (.cells BB.toArray 33) := by rw [hW2, hW1]
  rw [show keyV a = .agg AB.toArray by rw [hAB]; rfl, show keyV b = .agg BB.toArray by rw [hBB]; rfl] at hc ⊢
  have HW := hide hW
  have HIA := hide hiA
  have HIB := hide hiB
  have HG := hide (tn g1 g2)
  clear hW hW1 hW2 hB1 hB2 g1 g2 hs1 hAB hBB hy ha hb hAl hBl hiA hiB
  go_enter Tryz.func30, Tryz.ntmps30
  go_wp2_with (first
    | (rw [← unhide HW]; refine wpList_load_mid rfl 33 _ rfl w.heap.size 0 rfl AB _ hra Tryz.underlying33 rfl (unhide HIA) ?_; clear hra)
    | (refine wpList_load_mid rfl 33 _ rfl (w.heap.size + 1) 0 rfl BB _ hrb Tryz.underlying33 rfl (unhide HIB) ?_; clear hrb)
    | (go_at_call 58; refine hc.mono ?_; rintro e w3 ⟨rfl, q, os, e3⟩; clear hc; have g3 := hide (tn (unhide HG) (e3 ▸ grow_gb W2 q os)); clear e3))
  go_ret
  exact ⟨rfl, unhide g3⟩

/-- A name of 32 bytes. -/
abbrev Nm := { l : List UInt8 // l.length = 32 }
instance : Inhabited Nm := ⟨⟨List.replicate 32 0, by simp⟩⟩
def encN (x : Nm) : List Value := x.1.map bv
theorem encN_len (x : Nm) : (encN x).length = 32 := by simp [encN, x.2]
theorem lt_less (x y : Nm) : ltOf (fun x y : Nm => compareBytes x.1 y.1) x y = lessL x.1 y.1 := cmp_less x.1 y.1
theorem swo_less : SWO (ltOf fun x y : Nm => compareBytes x.1 y.1) where
  irrefl x := by rw [lt_less]; exact lessL_irr _
  trans x y z h1 h2 := by rw [lt_less] at *; exact lessL_trans _ _ _ h1 h2
  ntrans x y z h1 h2 := by
    rw [lt_less] at *
    cases h3 : lessL x.1 z.1 with
    | false => rfl
    | true =>
      by_cases he : lessL y.1 x.1 = true
      · have := lessL_trans _ _ _ he h3
        rw [h2] at this
        cases this
      · have e1 := lessL_total _ _ h1 (by simpa using he)
        rw [e1] at h3
        rw [h2] at h3
        cases h3

end Go.Proofs.YtlifmipnoeioaaaGreatDoor

/- The commits that wait: words for the heap's row, and what waiting's Len, Less, Swap, Push and Pop answer and leave. Of at most 100000 commits. -/
namespace Go.Proofs.YtlifmipnoeioaaaGreatDoor
open Go.RowKit

/-- A commit that waits, and where its parents lie. -/
structure CmR where
  id : List UInt8
  time : Nat
  pars : List (List UInt8)
  po : Option Addr
  pc : Nat
deriving Inhabited
def cmC (r : CmR) : List Value := r.id.map bv ++ [.int .u64 (r.time : Int), .slice r.po r.pars.length r.pc]
theorem cmC_len (r : CmR) (h : r.id.length = 32) : (cmC r).length = 34 := by simp [cmC, h]
theorem cmC_one (r : CmR) : ∀ u ∈ cmC r, u.oneCell' = true := by
  intro u hu
  simp only [cmC, List.mem_append, List.mem_cons, List.not_mem_nil, or_false] at hu
  rcases hu with hu | rfl | rfl
  · exact bv_one _ u hu
  all_goals rfl
theorem cmC_at (r : CmR) (h : r.id.length = 32) : (cmC r)[32]? = some (.int .u64 (r.time : Int)) ∧ (cmC r)[33]? = some (.slice r.po r.pars.length r.pc) := by
  have hl : (r.id.map bv).length = 32 := by simp [h]
  unfold cmC
  refine ⟨?_, ?_⟩ <;> rw [List.getElem?_append_right (by omega), hl] <;> rfl
theorem cm_id {w : World} {b o : Nat} {r : CmR} (h : w.rangeAt b o (cmC r)) : w.rangeAt b o (r.id.map bv) := by
  intro j v hv
  refine h j v ?_
  unfold cmC
  rw [List.getElem?_append_left (List.getElem?_eq_some_iff.1 hv).1]
  exact hv

/-- The one that is told first. -/
def cmLt (a b : CmR) : Bool := if a.time = b.time then lessL a.id b.id else decide (b.time < a.time)

theorem info_com : (Tryz.prog.info? 107).map (·.size) = some 34 := by kernel_rfl
theorem size_com (w : World) : (Go.sizeOf 107).run Tryz.prog w = .ok 34 w := by kernel_rfl
def zeroCm : CmR := ⟨List.replicate 32 0, 0, [], none, 0⟩
theorem zero_com (w : World) : (zeroValue 107).run Tryz.prog w = .ok (.agg (cmC zeroCm).toArray) w := by kernel_rfl
theorem info_comp : (Tryz.prog.info? 107).map (fun i => (i.zero, i.size, i.bytes)) = some (some (.agg (cmC zeroCm).toArray), 34, 64) := by kernel_rfl

/-- The block wb waits for a set: a heap's row, not older than base. -/
structure WaitAt (w : World) (base wb : Nat) (sp : Option Addr) (v : Value) (H : List CmR) : Prop where
  blk : Blk w wb 102 [.pointer sp, v]
  own : w.ownsRow base 107 34 v H.length (H.flatMap cmC)
  ids : ∀ r ∈ H, r.id.length = 32
  nb : base ≤ wb
theorem WaitAt.kept {w a : World} {base wb : Nat} {sp : Option Addr} {v : Value} {H : List CmR} {r : Option Nat} (h : WaitAt w base wb sp v H) (g : w.grownBy a r) (h1 : some wb ≠ r) (h2 : v.ownBlock = none ∨ v.ownBlock ≠ r) : WaitAt a base wb sp v H :=
  ⟨h.blk.kept g h1, h.own.kept g h2, h.ids, h.nb⟩
theorem WaitAt.none {w a : World} {base wb : Nat} {sp : Option Addr} {v : Value} {H : List CmR} (h : WaitAt w base wb sp v H) (g : w.grownBy a Option.none) : WaitAt a base wb sp v H :=
  h.kept g (by simp) (by cases v.ownBlock <;> simp)
theorem WaitAt.cell {w : World} {base wb : Nat} {sp : Option Addr} {v : Value} {H : List CmR} (h : WaitAt w base wb sp v H) : w.cell? ⟨wb, 0, Option.none⟩ = some (.pointer sp) ∧ w.cell? ⟨wb, 1, Option.none⟩ = some v := ⟨by rw [h.blk.cell]; rfl, by rw [h.blk.cell]; rfl⟩
theorem WaitAt.row {w : World} {base wb : Nat} {sp : Option Addr} {v : Value} {H : List CmR} (h : WaitAt w base wb sp v H) (hn : 0 < H.length) : ∃ g cap, v = .slice (some ⟨g, 0, Option.none⟩) H.length cap ∧ base ≤ g ∧ g < w.heap.size ∧ H.length ≤ cap ∧ ∀ i (hi : i < H.length), w.rangeAt g (i * 34) (cmC H[i]) := by
  obtain ⟨g, cap, rfl, h1, h2⟩ := h.own.form hn
  obtain ⟨ao, c, e, _, hc, _, _, h3⟩ := own_rows cmC 34 h.own (fun x hx => cmC_len x (h.ids x hx))
  cases e
  refine ⟨g, cap, rfl, h1, h2, hc, fun i hi => ?_⟩
  have := h3 ⟨g, 0, Option.none⟩ rfl i hi
  simpa using this

set_option maxRecDepth 100000 in
theorem wlen_any (w : World) (base wb : Nat) (sp : Option Addr) (v : Value) (H : List CmR) (h : WaitAt w base wb sp v H) :
    Calls Tryz.prog 55 #[.pointer (some ⟨wb, 0, none⟩)] w fun e w' => e = .returned (.int .i64 (H.length : Int)) ∧ w' = w := by
  obtain ⟨ao, c, rfl⟩ := own_sl h.own
  have hc := h.cell.2
  clear h
  go_enter Tryz.func55, Tryz.ntmps55
  go_wp2
  go_ret
  exact ⟨rfl, rfl⟩

set_option maxRecDepth 100000 in
set_option maxHeartbeats 4000000 in
theorem wless_any (w : World) (base wb : Nat) (sp : Option Addr) (v : Value) (H : List CmR) (h : WaitAt w base wb sp v H) (i j : Nat) (hi : i < H.length) (hj : j < H.length) (hl : H.length ≤ 100000) :
    Calls Tryz.prog 198 #[.pointer (some ⟨wb, 0, none⟩), .int .i64 (i : Int), .int .i64 (j : Int)] w fun e w' => e = .returned (.bool (cmLt H[i] H[j])) ∧ w.grownBy w' none := by
  obtain ⟨g, cap, rfl, hg, hgl, hcap, hrow⟩ := h.row (by omega)
  have hc := h.cell.2
  have hrI := hrow i hi
  have hrJ := hrow j hj
  have hid := h.ids _ (List.getElem_mem hi)
  have hjd := h.ids _ (List.getElem_mem hj)
  obtain ⟨A, hA⟩ : ∃ A, A = H[i] := ⟨_, rfl⟩
  obtain ⟨B, hB⟩ : ∃ A, A = H[j] := ⟨_, rfl⟩
  rw [← hA] at hrI hid
  rw [← hB] at hrJ hjd
  rw [← hA, ← hB]
  obtain ⟨AC, hAC⟩ : ∃ A', A' = cmC A := ⟨_, rfl⟩
  obtain ⟨BC, hBC⟩ : ∃ A', A' = cmC B := ⟨_, rfl⟩
  rw [← hAC] at hrI
  rw [← hBC] at hrJ
  have hAl : AC.length = 34 := by rw [hAC]; exact cmC_len _ hid
  have hBl : BC.length = 34 := by rw [hBC]; exact cmC_len _ hjd
  have hAo : AC.toArray.all (·.oneCell') = true := by rw [hAC]; exact all_oneCell_toArray (cmC_one _)
  have hBo : BC.toArray.all (·.oneCell') = true := by rw [hBC]; exact all_oneCell_toArray (cmC_one _)
  have hiA : (Tryz.prog.info? 107).map (·.size) = some AC.length := by rw [hAl]; exact info_com
  have hiB : (Tryz.prog.info? 107).map (·.size) = some BC.length := by rw [hBl]; exact info_com
  have hiA2 : (Tryz.prog.info? 107).map (·.size) = some AC.toArray.size := by simpa using hiA
  have hiB2 : (Tryz.prog.info? 107).map (·.size) = some BC.toArray.size := by simpa using hiB
  obtain ⟨ZC, hZC⟩ : ∃ Z, Z = cmC zeroCm := ⟨_, rfl⟩
  have hzv : ∀ w, (zeroValue 107).run Tryz.prog w = .ok (.agg ZC.toArray) w := fun w => by rw [hZC]; exact zero_com w
  have hZl : ZC.length = 34 := by rw [hZC]; rfl
  have hZA : ZC.toArray.size = AC.toArray.size := by simp [hZl, hAl]
  have hZB : ZC.toArray.size = BC.toArray.size := by simp [hZl, hBl]
  obtain ⟨n, hn⟩ : ∃ n, n = H.length := ⟨_, rfl⟩
  rw [← hn] at hc hi hj hl
  have h0 : w.grownBy w.drew none := gb_drew (gb_refl _ _)
  obtain ⟨IA, hIA⟩ : ∃ l, l = A.id.map bv := ⟨_, rfl⟩
  obtain ⟨IB, hIB⟩ : ∃ l, l = B.id.map bv := ⟨_, rfl⟩
  have hkA : keyV A.id = .agg IA.toArray := by rw [hIA]; rfl
  have hkB : keyV B.id = .agg IB.toArray := by rw [hIB]; rfl
  have hiIA : (Tryz.prog.info? 33).map (·.size) = some IA.length := by rw [hIA]; simpa [hid] using info_id
  have hiIB : (Tryz.prog.info? 33).map (·.size) = some IB.length := by rw [hIB]; simpa [hjd] using info_id
  have HFIN : Hid (∀ V p7 p8, w.grownBy V none → Blk V p7 107 AC → Blk V p8 107 BC → V.cell? ⟨p7, 32, none⟩ = some (.int .u64 (A.time : Int)) ∧ V.cell? ⟨p8, 32, none⟩ = some (.int .u64 (B.time : Int)) ∧ V.rangeAt p7 0 IA ∧ V.rangeAt p8 0 IB ∧ Calls Tryz.prog 30 #[.agg IA.toArray, .agg IB.toArray] V fun e w' => e = .returned (.bool (lessL A.id B.id)) ∧ V.grownBy w' none) := by
    intro V p7 p8 _ h7 h8
    rw [hAC] at h7
    rw [hBC] at h8
    refine ⟨by rw [h7.cell]; exact (cmC_at A hid).1, by rw [h8.cell]; exact (cmC_at B hjd).1, ?_, ?_, ?_⟩
    · rw [hIA]; exact cm_id (blk_all h7)
    · rw [hIB]; exact cm_id (blk_all h8)
    · rw [← hkA, ← hkB]; exact gless_any V _ _ hid hjd
  obtain ⟨tA, htA⟩ : ∃ t : Nat, t = A.time := ⟨_, rfl⟩
  obtain ⟨tB, htB⟩ : ∃ t : Nat, t = B.time := ⟨_, rfl⟩
  obtain ⟨lAB, hlAB⟩ : ∃ l : Bool, l = lessL A.id B.id := ⟨_, rfl⟩
  rw [← htA, ← htB, ← hlAB] at HFIN
  obtain ⟨y, hy⟩ : ∃ y, y = cmLt A B := ⟨_, rfl⟩
  rw [← hy]
  have HY : Hid (y = if tA = tB then lAB else decide (tB < tA)) := by rw [htA, htB, hlAB, hy]; rfl
  have HIA := hide hiA
  have HIB := hide hiB
  have HIA2 := hide hiA2
  have HIB2 := hide hiB2
  have HAO := hide hAo
  have HBO := hide hBo
  have HZA := hide hZA
  have HZB := hide hZB
  have HJA := hide hiIA
  have HJB := hide hiIB
  clear h hrow hid hjd hA hB hAC hBC hAl hBl hAo hBo hiA hiB hiA2 hiB2 hZC hZl hZA hZB hn hIA hIB hkA hkB hiIA hiIB htA htB hlAB hy hg hgl hcap
  go_enter Tryz.func198, Tryz.ntmps198
  go_upto_region 1 with fail
  refine wp_region_noPanic ?_
  refine wp_region_held_drew (S := fun V => w.grownBy V none) (by kernel_rfl) h0 (fun _ => ?_)
  obtain ⟨WD, hWD⟩ : ∃ V, V = w.drew := ⟨_, rfl⟩
  rw [← hWD]
  rw [← hWD] at h0
  clear hWD
  refine wpAnyH_take (i := 0) (oi := ⟨some 9, .move (.tmp 0), _, _, _, _⟩) (v := .pointer (some ⟨wb, 0, none⟩)) rfl (by kernel_rfl) (by kernel_rfl) (by kernel_rfl) (fun _ _ _ h => h) (Or.inl ⟨by rfl, fun V (hV : w.grownBy V none) => by go_simp⟩) h0 ?_
  (try simp only [Act.put, pq1, pq2, pq3])
  refine wpAnyH_take (i := 4) (oi := ⟨some 13, .move (.tmp 1), _, _, _, _⟩) (v := .int .i64 (i : Int)) rfl (by kernel_rfl) (by kernel_rfl) (by kernel_rfl) (fun _ _ _ h => h) (Or.inl ⟨by rfl, fun V (hV : w.grownBy V none) => by go_simp⟩) h0 ?_
  (try simp only [Act.put, pq1, pq2, pq3])
  refine wpAnyH_take (i := 7) (oi := ⟨some 16, .move (.tmp 0), _, _, _, _⟩) (v := .pointer (some ⟨wb, 0, none⟩)) rfl (by kernel_rfl) (by kernel_rfl) (by kernel_rfl) (fun _ _ _ h => h) (Or.inl ⟨by rfl, fun V (hV : w.grownBy V none) => by go_simp⟩) h0 ?_
  (try simp only [Act.put, pq1, pq2, pq3])
  refine wpAnyH_take (i := 11) (oi := ⟨some 20, .move (.tmp 2), _, _, _, _⟩) (v := .int .i64 (j : Int)) rfl (by kernel_rfl) (by kernel_rfl) (by kernel_rfl) (fun _ _ _ h => h) (Or.inl ⟨by rfl, fun V (hV : w.grownBy V none) => by go_simp⟩) h0 ?_
  (try simp only [Act.put, pq1, pq2, pq3])
  refine wpAnyH_take (i := 1) (oi := ⟨some 10, .nilCheck (.tmp 9), _, _, _, _⟩) (v := .pointer (some ⟨wb, 0, none⟩)) rfl (by kernel_rfl) (by kernel_rfl) (by kernel_rfl) (fun _ _ _ h => h) (Or.inl ⟨by rfl, fun V (hV : w.grownBy V none) => by go_simp⟩) h0 ?_
  (try simp only [Act.put, pq1, pq2, pq3])
  refine wpAnyH_take (i := 8) (oi := ⟨some 17, .nilCheck (.tmp 16), _, _, _, _⟩) (v := .pointer (some ⟨wb, 0, none⟩)) rfl (by kernel_rfl) (by kernel_rfl) (by kernel_rfl) (fun _ _ _ h => h) (Or.inl ⟨by rfl, fun V (hV : w.grownBy V none) => by go_simp⟩) h0 ?_
  (try simp only [Act.put, pq1, pq2, pq3])
  refine wpAnyH_take (i := 2) (oi := ⟨some 11, .fieldAddr 102 (.tmp 10) 1, _, _, _, _⟩) (v := .pointer (some ⟨wb, 1, none⟩)) rfl (by kernel_rfl) (by kernel_rfl) (by kernel_rfl) (fun _ _ _ h => h) (Or.inl ⟨by rfl, fun V (hV : w.grownBy V none) => by go_simp⟩) h0 ?_
  (try simp only [Act.put, pq1, pq2, pq3])
  refine wpAnyH_take (i := 9) (oi := ⟨some 18, .fieldAddr 102 (.tmp 17) 1, _, _, _, _⟩) (v := .pointer (some ⟨wb, 1, none⟩)) rfl (by kernel_rfl) (by kernel_rfl) (by kernel_rfl) (fun _ _ _ h => h) (Or.inl ⟨by rfl, fun V (hV : w.grownBy V none) => by go_simp⟩) h0 ?_
  (try simp only [Act.put, pq1, pq2, pq3])
  refine wpAnyH_take (i := 3) (oi := ⟨some 12, .load 100 (.tmp 11), _, _, _, _⟩) (v := .slice (some ⟨g, 0, none⟩) n cap) rfl (by kernel_rfl) (by kernel_rfl) (by kernel_rfl) (fun _ _ _ h => h) (Or.inl ⟨by rfl, fun V (hV : w.grownBy V none) => by (have hv1 := hV.cell hc (by simp); go_simp)⟩) h0 ?_
  (try simp only [Act.put, pq1, pq2, pq3])
  refine wpAnyH_take (i := 10) (oi := ⟨some 19, .load 100 (.tmp 18), _, _, _, _⟩) (v := .slice (some ⟨g, 0, none⟩) n cap) rfl (by kernel_rfl) (by kernel_rfl) (by kernel_rfl) (fun _ _ _ h => h) (Or.inl ⟨by rfl, fun V (hV : w.grownBy V none) => by (have hv1 := hV.cell hc (by simp); go_simp)⟩) h0 ?_
  (try simp only [Act.put, pq1, pq2, pq3])
  refine wpAnyH_take (i := 5) (oi := ⟨some 14, .indexAddr 100 (.tmp 12) (.tmp 13), _, _, _, _⟩) (v := .pointer (some ⟨g, i * 34, none⟩)) rfl (by kernel_rfl) (by kernel_rfl) (by kernel_rfl) (fun _ _ _ h => h) (Or.inl ⟨by rfl, fun V (hV : w.grownBy V none) => by go_simp⟩) h0 ?_
  (try simp only [Act.put, pq1, pq2, pq3])
  refine wpAnyH_take (i := 12) (oi := ⟨some 21, .indexAddr 100 (.tmp 19) (.tmp 20), _, _, _, _⟩) (v := .pointer (some ⟨g, j * 34, none⟩)) rfl (by kernel_rfl) (by kernel_rfl) (by kernel_rfl) (fun _ _ _ h => h) (Or.inl ⟨by rfl, fun V (hV : w.grownBy V none) => by go_simp⟩) h0 ?_
  (try simp only [Act.put, pq1, pq2, pq3])
  refine wpAnyH_take (i := 6) (oi := ⟨some 15, .load 107 (.tmp 14), _, _, _, _⟩) (v := .agg AC.toArray) rfl (by kernel_rfl) (by kernel_rfl) (by kernel_rfl) (fun _ _ _ h => h) (yieldsIf_load_mid (by rfl) _ _ rfl _ _ rfl AC _ (fun V hV => range_kept hrI hV (by simp)) Tryz.underlying107 rfl (unhide HIA)) h0 ?_
  (try simp only [Act.put, pq1, pq2, pq3])
  refine wpAnyH_take (i := 13) (oi := ⟨some 22, .load 107 (.tmp 21), _, _, _, _⟩) (v := .agg BC.toArray) rfl (by kernel_rfl) (by kernel_rfl) (by kernel_rfl) (fun _ _ _ h => h) (yieldsIf_load_mid (by rfl) _ _ rfl _ _ rfl BC _ (fun V hV => range_kept hrJ hV (by simp)) Tryz.underlying107 rfl (unhide HIB)) h0 ?_
  (try simp only [Act.put, pq1, pq2, pq3])
  refine wpAnyH_ready (rs := [14, 15]) (by kernel_rfl) (by simp) ?_
  refine AllReadyH.cons (o := ⟨some 7, .alloc 107, _, _, _, _⟩) rfl (fun K9 hK9 => ?_) (AllReadyH.cons (o := ⟨some 8, .alloc 107, _, _, _, _⟩) rfl (fun K9 hK9 => ?_) AllReadyH.nil)
  · go_simp
    obtain ⟨wa1, hwa, hB7, ga⟩ := box_new WD 107 ZC
    rw [← hwa]
    have hs1 := tn h0 ga
    refine hK9.out _ _ hs1 (fun _ => ?_)
    clear hK9 K9 hwa
    (try simp only [Act.put, pq1, pq2, pq3])
    have hl7 : WD.heap.size < wa1.heap.size := hB7.lt
    clear ga
    refine wpAnyH_ready (rs := [15]) (by kernel_rfl) (by simp) ?_
    refine AllReadyH.cons (o := ⟨some 8, .alloc 107, _, _, _, _⟩) rfl (fun K9 hK9 => ?_) AllReadyH.nil
    go_simp
    obtain ⟨wa2, hwa, hB8, ga⟩ := box_new wa1 107 ZC
    rw [← hwa]
    have hs2 := tn hs1 ga
    refine hK9.out _ _ hs2 (fun _ => ?_)
    clear hK9 K9 hwa
    (try simp only [Act.put, pq1, pq2, pq3])
    replace hB7 := hB7.kept ga (by simp)
    have hl8 : wa1.heap.size < wa2.heap.size := hB8.lt
    clear ga
    refine wpAnyH_ready (rs := [16]) (by kernel_rfl) (by simp) ?_
    refine AllReadyH.cons (o := ⟨none, .store 107 (.tmp 7) (.tmp 15), _, _, _, _⟩) rfl (fun K9 hK9 => ?_) AllReadyH.nil
    rw [if_pos (by rfl)]
    refine wp_store_row _ _ _ rfl (WD.heap.size) _ rfl rfl _ _ hB7 (unhide HIA2) (unhide HZA) (unhide HAO) ?_
    obtain ⟨ws3, hws⟩ : ∃ V, V = wa2.setRow (WD.heap.size) AC.toArray := ⟨_, rfl⟩
    rw [← hws]
    have hs3 : w.grownBy ws3 none := by rw [hws]; exact gb_row hs2 _ (Or.inl (by have := (h0).size; omega))
    replace hB7 := hB7.row AC
    rw [← hws] at hB7
    replace hB8 := hB8.row_other (WD.heap.size) AC.toArray (by omega)
    rw [← hws] at hB8
    refine hK9.out _ _ hs3 (fun _ => ?_)
    clear hK9 K9 hws
    (try simp only [Act.put])
    refine wpAnyH_ready (rs := [17]) (by kernel_rfl) (by simp) ?_
    refine AllReadyH.cons (o := ⟨none, .store 107 (.tmp 8) (.tmp 22), _, _, _, _⟩) rfl (fun K9 hK9 => ?_) AllReadyH.nil
    rw [if_pos (by rfl)]
    refine wp_store_row _ _ _ rfl (wa1.heap.size) _ rfl rfl _ _ hB8 (unhide HIB2) (unhide HZB) (unhide HBO) ?_
    obtain ⟨ws4, hws⟩ : ∃ V, V = ws3.setRow (wa1.heap.size) BC.toArray := ⟨_, rfl⟩
    rw [← hws]
    have hs4 : w.grownBy ws4 none := by rw [hws]; exact gb_row hs3 _ (Or.inl (by have := (h0).size; omega))
    replace hB8 := hB8.row BC
    rw [← hws] at hB8
    replace hB7 := hB7.row_other (wa1.heap.size) BC.toArray (by omega)
    rw [← hws] at hB7
    refine hK9.out _ _ hs4 (fun _ => ?_)
    clear hK9 K9 hws
    (try simp only [Act.put])
    refine wpAnyH_done (by kernel_rfl) ?_ _
    refine NoPanic.normal ?_
    obtain ⟨d7, d8, r7, r8, cl⟩ := unhide HFIN ws4 (WD.heap.size) (wa1.heap.size) hs4 hB7 hB8
    have hy9 := unhide HY
    clear hB7 hB8 hl7 hl8 hrI hrJ hc
    by_cases ht : tA = tB
    · rw [if_pos ht] at hy9
      subst ht
      subst hy9
      go_wp2_with (first | (refine wpList_load_mid rfl 33 _ rfl (WD.heap.size) 0 rfl IA _ r7 Tryz.underlying33 rfl (unhide HJA) ?_; clear r7) | (refine wpList_load_mid rfl 33 _ rfl (wa1.heap.size) 0 rfl IB _ r8 Tryz.underlying33 rfl (unhide HJB) ?_; clear r8) | (go_at_call 30; refine cl.mono ?_; rintro e w9 ⟨rfl, g9⟩; clear cl))
      go_ret
      exact ⟨rfl, tn hs4 g9⟩
    · rw [if_neg ht] at hy9
      have ht2 : ¬ ((tA : Int) = (tB : Int)) := by omega
      subst hy9
      clear r7 r8 cl
      go_wp2
      go_ret
      exact ⟨rfl, hs4⟩
  · go_simp
    obtain ⟨wa1, hwa, hB8, ga⟩ := box_new WD 107 ZC
    rw [← hwa]
    have hs1 := tn h0 ga
    refine hK9.out _ _ hs1 (fun _ => ?_)
    clear hK9 K9 hwa
    (try simp only [Act.put, pq1, pq2, pq3])
    have hl8 : WD.heap.size < wa1.heap.size := hB8.lt
    clear ga
    refine wpAnyH_ready (rs := [14]) (by kernel_rfl) (by simp) ?_
    refine AllReadyH.cons (o := ⟨some 7, .alloc 107, _, _, _, _⟩) rfl (fun K9 hK9 => ?_) AllReadyH.nil
    go_simp
    obtain ⟨wa2, hwa, hB7, ga⟩ := box_new wa1 107 ZC
    rw [← hwa]
    have hs2 := tn hs1 ga
    refine hK9.out _ _ hs2 (fun _ => ?_)
    clear hK9 K9 hwa
    (try simp only [Act.put, pq1, pq2, pq3])
    replace hB8 := hB8.kept ga (by simp)
    have hl7 : wa1.heap.size < wa2.heap.size := hB7.lt
    clear ga
    refine wpAnyH_ready (rs := [16]) (by kernel_rfl) (by simp) ?_
    refine AllReadyH.cons (o := ⟨none, .store 107 (.tmp 7) (.tmp 15), _, _, _, _⟩) rfl (fun K9 hK9 => ?_) AllReadyH.nil
    rw [if_pos (by rfl)]
    refine wp_store_row _ _ _ rfl (wa1.heap.size) _ rfl rfl _ _ hB7 (unhide HIA2) (unhide HZA) (unhide HAO) ?_
    obtain ⟨ws3, hws⟩ : ∃ V, V = wa2.setRow (wa1.heap.size) AC.toArray := ⟨_, rfl⟩
    rw [← hws]
    have hs3 : w.grownBy ws3 none := by rw [hws]; exact gb_row hs2 _ (Or.inl (by have := (h0).size; omega))
    replace hB7 := hB7.row AC
    rw [← hws] at hB7
    replace hB8 := hB8.row_other (wa1.heap.size) AC.toArray (by omega)
    rw [← hws] at hB8
    refine hK9.out _ _ hs3 (fun _ => ?_)
    clear hK9 K9 hws
    (try simp only [Act.put])
    refine wpAnyH_ready (rs := [17]) (by kernel_rfl) (by simp) ?_
    refine AllReadyH.cons (o := ⟨none, .store 107 (.tmp 8) (.tmp 22), _, _, _, _⟩) rfl (fun K9 hK9 => ?_) AllReadyH.nil
    rw [if_pos (by rfl)]
    refine wp_store_row _ _ _ rfl (WD.heap.size) _ rfl rfl _ _ hB8 (unhide HIB2) (unhide HZB) (unhide HBO) ?_
    obtain ⟨ws4, hws⟩ : ∃ V, V = ws3.setRow (WD.heap.size) BC.toArray := ⟨_, rfl⟩
    rw [← hws]
    have hs4 : w.grownBy ws4 none := by rw [hws]; exact gb_row hs3 _ (Or.inl (by have := (h0).size; omega))
    replace hB8 := hB8.row BC
    rw [← hws] at hB8
    replace hB7 := hB7.row_other (WD.heap.size) BC.toArray (by omega)
    rw [← hws] at hB7
    refine hK9.out _ _ hs4 (fun _ => ?_)
    clear hK9 K9 hws
    (try simp only [Act.put])
    refine wpAnyH_done (by kernel_rfl) ?_ _
    refine NoPanic.normal ?_
    obtain ⟨d7, d8, r7, r8, cl⟩ := unhide HFIN ws4 (wa1.heap.size) (WD.heap.size) hs4 hB7 hB8
    have hy9 := unhide HY
    clear hB7 hB8 hl7 hl8 hrI hrJ hc
    by_cases ht : tA = tB
    · rw [if_pos ht] at hy9
      subst ht
      subst hy9
      go_wp2_with (first | (refine wpList_load_mid rfl 33 _ rfl (wa1.heap.size) 0 rfl IA _ r7 Tryz.underlying33 rfl (unhide HJA) ?_; clear r7) | (refine wpList_load_mid rfl 33 _ rfl (WD.heap.size) 0 rfl IB _ r8 Tryz.underlying33 rfl (unhide HJB) ?_; clear r8) | (go_at_call 30; refine cl.mono ?_; rintro e w9 ⟨rfl, g9⟩; clear cl))
      go_ret
      exact ⟨rfl, tn hs4 g9⟩
    · rw [if_neg ht] at hy9
      have ht2 : ¬ ((tA : Int) = (tB : Int)) := by omega
      subst hy9
      clear r7 r8 cl
      go_wp2
      go_ret
      exact ⟨rfl, hs4⟩
end Go.Proofs.YtlifmipnoeioaaaGreatDoor
