/- A set of objects in memory, in words of our own; what outlasts what; what New, and what the set's made, answer; and bytes that are cloned. No condition but those that each lemma names. -/
import Derived.Test.YtlifmipnoeioaaaGreatDoorGMap
import Derived.Test.YtlifmipnoeioaaaGreatDoorOLayC
import Derived.Test.YtlifmipnoeioaaaGreatDoorMSame
import Derived.Test.YtlifmipnoeioaaaGreatDoorOTree
namespace Go.Proofs.YtlifmipnoeioaaaGreatDoor
open Go.RowKit

/-- An object of a set, and where its data lie. -/
structure ObR where
  e : ObE
  ao : Option Addr
  c : Nat
deriving Inhabited
def obL (r : ObR) : List Value := [.int .i64 r.e.k, .slice r.ao r.e.d.length r.c]
def obV (r : ObR) : Value := .agg (obL r).toArray
theorem obL_one (r : ObR) : ∀ u ∈ obL r, u.oneCell' = true := by
  intro u hu
  simp only [obL, List.mem_cons, List.not_mem_nil, or_false] at hu
  rcases hu with rfl | rfl <;> rfl

/-- Data in a block of bytes. -/
structure Dat (w : World) (ao : Option Addr) (c : Nat) (d : List UInt8) : Prop where
  bts : Bts w ao c d
  typ : ∀ ad, ao = some ad → Typ w ad.block
theorem Dat.kept {w a : World} {ao : Option Addr} {c : Nat} {d : List UInt8} {r : Option Nat} (h : Dat w ao c d) (g : w.grownBy a r) (hr : ∀ x, r = some x → ¬ Typ w x) : Dat a ao c d :=
  ⟨h.bts.kept g (fun x e ad e2 e3 => hr x e (by rw [← e3]; exact h.typ ad e2)), fun ad e => (h.typ ad e).kept g (fun e2 => hr ad.block e2.symm (h.typ ad e))⟩
theorem Dat.none {w a : World} {ao : Option Addr} {c : Nat} {d : List UInt8} (h : Dat w ao c d) (g : w.grownBy a Option.none) : Dat a ao c d := h.kept g (fun _ e => by cases e)
theorem Dat.nil (w : World) : Dat w Option.none 0 [] := ⟨Bts.nil w, fun _ e => by cases e⟩
theorem NewB.dat {w a : World} {v : Value} {d : List UInt8} (h : NewB w a v d) : ∃ ao c, v = .slice ao d.length c ∧ Dat a ao c d := by
  obtain ⟨ao, c, h1, h2, h3⟩ := h
  exact ⟨ao, c, h1, h2, fun ad e => (h3 ad e).2⟩

/-- The block sb is a set with the map mb: its objects are those of S; both new since u. -/
structure SetAt (u w : World) (sb mb : Nat) (S : List ObE) : Prop where
  ns : u.heap.size ≤ sb
  nm : u.heap.size ≤ mb
  blk : Blk w sb 78 [.map (some mb)]
  map : ∃ R : List ObR, MapAt w mb (R.map fun r => (r.e.id, obV r)) ∧ (∀ e, e ∈ R.map (·.e) ↔ e ∈ S) ∧ ∀ r ∈ R, Dat w r.ao r.c r.e.d
  ok : SetS S

theorem SetAt.lt {u w : World} {sb mb : Nat} {S : List ObE} (h : SetAt u w sb mb S) : mb < w.heap.size := by
  obtain ⟨R, h1, _⟩ := h.map
  exact h1.lt
theorem SetAt.ne {u w : World} {sb mb : Nat} {S : List ObE} (h : SetAt u w sb mb S) : mb ≠ sb := by
  obtain ⟨R, h1, _⟩ := h.map
  exact h1.blk h.blk
theorem SetAt.typ {u w : World} {sb mb : Nat} {S : List ObE} (h : SetAt u w sb mb S) : ¬ Typ w mb := by
  obtain ⟨R, h1, _⟩ := h.map
  exact h1.typ
theorem SetAt.kept {u w a : World} {sb mb : Nat} {S : List ObE} {r : Option Nat} (h : SetAt u w sb mb S) (g : w.grownBy a r) (h1 : some sb ≠ r) (h2 : some mb ≠ r) (h3 : ∀ x, r = some x → ¬ Typ w x) : SetAt u a sb mb S := by
  obtain ⟨R, m1, m2, m3⟩ := h.map
  exact ⟨h.ns, h.nm, h.blk.kept g h1, ⟨R, m1.kept g h2, m2, fun r hr => (m3 r hr).kept g h3⟩, h.ok⟩
theorem SetAt.none {u w a : World} {sb mb : Nat} {S : List ObE} (h : SetAt u w sb mb S) (g : w.grownBy a Option.none) : SetAt u a sb mb S := h.kept g (by simp) (by simp) (fun _ e => by cases e)
/-- Another set stays as it is. -/
theorem SetAt.other {u v w a : World} {sb mb tb nb : Nat} {S T : List ObE} (h : SetAt u w sb mb S) (k : SetAt v w tb nb T) (g : w.grownBy a (some nb)) (hne : mb ≠ nb) : SetAt u a sb mb S := by
  obtain ⟨R, m1, _⟩ := k.map
  exact h.kept g (fun e => m1.blk h.blk (by cases e; rfl)) (fun e => hne (by cases e; rfl)) (fun x e => by cases e; exact m1.typ)
theorem blk_nq {w : World} {b c : Nat} {t t' : TypeId} {x y : List Value} (h : Blk w b t x) (k : Blk w c t' y) (ht : t ≠ t') : b ≠ c := by
  rintro rfl
  unfold Blk at h k
  rw [h] at k
  injection k with k
  injection k with _ k
  exact ht k
/-- A row of the call's own lies apart from a block of another type. -/
theorem own_apart_t {w : World} {base k n b : Nat} {t t' : TypeId} {v : Value} {xs cs : List Value} (h : w.ownsRow base t k v n xs) (hb : Blk w b t' cs) (ht : t ≠ t') : some b ≠ v.ownBlock := by
  rcases h.2 with ⟨rfl, _⟩ | ⟨g, cap, cur, rfl, _, hh, _⟩
  · intro e; cases e
  · intro e
    have : b = g := by simpa [Value.ownBlock] using e
    subst this
    unfold Blk at hb
    rw [hh] at hb
    injection hb with hb
    injection hb with _ hb
    exact ht hb
/-- A row of the call's own that is written, of other than bytes. -/
theorem SetAt.own {u w a : World} {sb mb base k n : Nat} {S : List ObE} {t : TypeId} {v : Value} {xs : List Value} (h : SetAt u w sb mb S) (ho : w.ownsRow base t k v n xs) (g : w.grownBy a v.ownBlock) (ht : t ≠ 5) (ht2 : t ≠ 78) : SetAt u a sb mb S := by
  obtain ⟨R, m1, _⟩ := h.map
  exact h.kept g (own_apart_t ho h.blk ht2) (m1.own ho) (fun x e => own_typ ho e ht)
theorem SetAt.up {u v w : World} {sb mb : Nat} {S : List ObE} (h : SetAt u w sb mb S) (hv : v.heap.size ≤ u.heap.size) : SetAt v w sb mb S := ⟨Nat.le_trans hv h.ns, Nat.le_trans hv h.nm, h.blk, h.map, h.ok⟩
theorem SetAt.cell {u w : World} {sb mb : Nat} {S : List ObE} (h : SetAt u w sb mb S) : w.cell? ⟨sb, 0, Option.none⟩ = some (.map (some mb)) := by rw [h.blk.cell]; rfl

theorem map_some (m : Nat) (W : World) : (binOp .neq 76 (.map (some m)) (.map none)).run Tryz.prog W = .ok (.bool true) W := by kernel_rfl
theorem map_none (W : World) : (binOp .neq 76 (.map none) (.map none)).run Tryz.prog W = .ok (.bool false) W := by kernel_rfl
set_option maxRecDepth 100000 in
theorem made_any (w : World) (sb mb : Nat) (h1 : w.cell? ⟨sb, 0, none⟩ = some (.map (some mb))) :
    Calls Tryz.prog 36 #[.pointer (some ⟨sb, 0, none⟩)] w fun e w' => e = .returned (.bool true) ∧ w' = w := by
  have hm := map_some mb
  go_enter Tryz.func36, Tryz.ntmps36
  go_wp2
  go_ret
  exact ⟨rfl, rfl⟩
set_option maxRecDepth 100000 in
theorem made_nil (w : World) :
    Calls Tryz.prog 36 #[.pointer none] w fun e w' => e = .returned (.bool false) ∧ w' = w := by
  go_enter Tryz.func36, Tryz.ntmps36
  go_wp2
  go_ret
  exact ⟨rfl, rfl⟩
set_option maxRecDepth 100000 in
theorem made_plain (w : World) (sb : Nat) (h1 : w.cell? ⟨sb, 0, none⟩ = some (.map none)) :
    Calls Tryz.prog 36 #[.pointer (some ⟨sb, 0, none⟩)] w fun e w' => e = .returned (.bool false) ∧ w' = w := by
  have hm := map_none
  go_enter Tryz.func36, Tryz.ntmps36
  go_wp2
  go_ret
  exact ⟨rfl, rfl⟩

/-- Where no set was made: nil, or a plain one. -/
def NoSet (w : World) (po : Option Addr) : Prop := ∀ V, w.grownBy V none → Calls Tryz.prog 36 #[.pointer po] V fun e w' => e = .returned (.bool false) ∧ w' = V
theorem noSet_nil (w : World) : NoSet w none := fun V _ => made_nil V
theorem noSet_plain {w : World} {sb : Nat} (h : Blk w sb 78 [.map none]) : NoSet w (some ⟨sb, 0, none⟩) := fun V g => made_plain V sb (by rw [(h.kept g (by simp)).cell]; rfl)
theorem NoSet.none {w a : World} {po : Option Addr} (h : NoSet w po) (g : w.grownBy a Option.none) : NoSet a po := fun V gV => h V (tn g gV)

/-- A set that was made, or none, with no objects. -/
def Sat (w : World) (po : Option Addr) (S : List ObE) : Prop := (∃ u sb mb, po = some ⟨sb, 0, none⟩ ∧ SetAt u w sb mb S) ∨ (S = [] ∧ NoSet w po)
theorem Sat.none {w a : World} {po : Option Addr} {S : List ObE} (h : Sat w po S) (g : w.grownBy a Option.none) : Sat a po S := by
  rcases h with ⟨u, sb, mb, h1, h2⟩ | ⟨h1, h2⟩
  · exact Or.inl ⟨u, sb, mb, h1, h2.none g⟩
  · exact Or.inr ⟨h1, h2.none g⟩
theorem SetAt.sat {u w : World} {sb mb : Nat} {S : List ObE} (h : SetAt u w sb mb S) : Sat w (some ⟨sb, 0, Option.none⟩) S := Or.inl ⟨u, sb, mb, rfl, h⟩

theorem setS_nil : SetS [] := ⟨List.Pairwise.nil, (fun _ h => by simp at h), (fun _ h => by simp at h), (fun _ h => by simp at h), Nat.zero_le _⟩
theorem Sat.ok {w : World} {po : Option Addr} {S : List ObE} (h : Sat w po S) : SetS S := by
  rcases h with ⟨u, sb, mb, h1, h2⟩ | ⟨rfl, h2⟩
  · exact h2.ok
  · exact setS_nil

theorem built_set (m : Nat) : Tryz.prog.built 78 [(0, .map (some m))] = some #[.map (some m)] := by kernel_rfl

set_option maxRecDepth 100000 in
theorem gnew_any (w : World) : Calls Tryz.prog 31 #[] w fun e w' => ∃ sb mb, e = .returned (.pointer (some ⟨sb, 0, none⟩)) ∧ SetAt w w' sb mb [] ∧ w.grownBy w' none := by
  have hmk : ∀ W : World, (Instr.makeMap 76 none).run Tryz.prog W = .ok (.map (some W.heap.size)) (W.alloc (.map #[] 0)) := fun W => run_makeMap _ W
  obtain ⟨W1, hW1⟩ : ∃ W1, W1 = w.alloc (.map #[] 0) := ⟨_, rfl⟩
  have g1 : w.grownBy W1 none := by rw [hW1]; exact gb_alloc (gb_refl _ _) _
  have hs1 : W1.heap.size = w.heap.size + 1 := by rw [hW1, World.size_alloc]
  have hM1 : MapAt W1 w.heap.size [] := by rw [hW1]; exact MapAt.new _
  have hfin : SetAt w (W1.alloc (.cells #[.map (some w.heap.size)] 78)) (w.heap.size + 1) w.heap.size [] := by
    refine ⟨by omega, Nat.le_refl _, ?_, ⟨[], hM1.none (World.grownBy_alloc _ _ none), by simp, by simp⟩, setS_nil⟩
    have := Blk.new W1 78 [.map (some w.heap.size)]
    rw [hs1] at this
    exact this
  have hg2 := gb_alloc g1 (.cells #[.map (some w.heap.size)] 78)
  have hb := built_set w.heap.size
  have HB := hide hb
  have HF := hide hfin
  have HW1 := hide hW1
  clear hb hfin hW1 hs1 hM1
  go_enter Tryz.func31, Tryz.ntmps31
  go_wp2_with (refine wpList_built rfl 78 _ rfl #[.map (some w.heap.size)] ?hb ?_)
  case hb => exact unhide HB
  rw [← unhide HW1]
  go_ret
  exact ⟨_, _, rfl, unhide HF, hg2⟩

theorem nil_neo (ad : Addr) (n c : Nat) (W : World) : (binOp .eql 37 (.slice (some ad) n c) (.slice none 0 0)).run Tryz.prog W = .ok (.bool false) W := by kernel_rfl
theorem nil_eqo (W : World) : (binOp .eql 37 (.slice none 0 0) (.slice none 0 0)).run Tryz.prog W = .ok (.bool true) W := by kernel_rfl

set_option maxRecDepth 100000 in
theorem bcloned_any (w : World) (ao : Option Addr) (c : Nat) (l : List UInt8) (hb : Bts w ao c l) (hl : l.length ≤ 1000000) :
    Calls Tryz.prog 69 #[.slice ao l.length c] w fun e w' => ∃ v, e = .returned v ∧ w'.ownsRow w.heap.size 5 1 v l.length (l.map bv) ∧ w.grownBy w' none := by
  cases ao with
  | none =>
    obtain ⟨h1, h2⟩ := hb.zip rfl
    have : l = [] := List.eq_nil_of_length_eq_zero h1
    subst this
    subst h2
    have hne := nil_eqo
    clear hb h1 hl
    rw [List.length_nil]
    go_enter Tryz.func69, Tryz.ntmps69
    go_wp2
    go_ret
    exact ⟨_, rfl, World.ownsRow_nil _ _ _ _, gb_refl _ _⟩
  | some ad =>
    obtain ⟨W1, hW1, ho1, g1⟩ := own_new w w.heap.size (Nat.le_refl _)
    have hb1 := hb.kept g1 (fun _ e => by cases e)
    obtain ⟨n, hn⟩ : ∃ n, n = l.length := ⟨_, rfl⟩
    have hne := nil_neo ad n c
    have HN := hide hn
    have HW1 := hide hW1
    rw [← hn] at hl ⊢
    clear hn hW1 hb
    go_enter Tryz.func69, Tryz.ntmps69
    go_wp2_with (rw [← unhide HW1]; refine wpList_append_btm rfl _ _ rfl w.heap.size _ _ _ rfl ho1 _ _ l hb1 n (unhide HN) rfl (by omega) g1.size ?_; intro v5 w5 ho5 g5; have G5 := hide (own_grow g1 ho1 g5); have HO5 := hide ho5; clear g5 ho5 ho1 hb1)
    go_ret
    exact ⟨_, rfl, by simpa using unhide HO5, unhide G5⟩

end Go.Proofs.YtlifmipnoeioaaaGreatDoor

/- Names that were met: what graph's met.has and met.meet answer and leave. Of any way to put names to the work that keeps a state. -/
namespace Go.Proofs.YtlifmipnoeioaaaGreatDoor
open Go.RowKit

/-- The entries of a map of names alone. -/
def metK (K : List (List UInt8)) : List (List UInt8 × Value) := K.map fun x => (x, .agg #[])
theorem metK_keys (K : List (List UInt8)) : (metK K).map (·.1) = K := by
  unfold metK
  rw [List.map_map]
  exact List.map_id K
theorem metK_put (K : List (List UInt8)) (x : List UInt8) (h : x ∉ K) : putK (metK K) x (.agg #[]) = metK (K ++ [x]) := by
  unfold putK
  rw [metK_keys, if_neg h]
  simp [metK]
theorem metK_get (K : List (List UInt8)) (x : List UInt8) : (getK (metK K) x).getD (.agg #[]) = .agg #[] ∧ (getK (metK K) x).isSome = K.contains x := by
  constructor
  · cases h : getK (metK K) x with
    | none => rfl
    | some v =>
      obtain ⟨y, _, e⟩ := List.mem_map.1 (getK_mem h)
      injection e with _ e
      exact e.symm
  · have := getK_isSome (metK K) x
    rw [metK_keys] at this
    cases hc : K.contains x with
    | true => exact this.2 (by simpa using hc)
    | false =>
      cases hs : (getK (metK K) x).isSome with
      | false => rfl
      | true =>
        have h1 := this.1 hs
        have h2 : x ∉ K := by simpa using hc
        exact absurd h1 h2
theorem zero_unit (w : World) : (zeroValue 92).run Tryz.prog w = .ok (.agg #[]) w := by kernel_rfl

theorem MapAt.met {w : World} {m : Nat} {K : List (List UInt8)} (h : MapAt w m (metK K)) (x : List UInt8) (hx : x.length = 32) : (Instr.lookup 94 (.map (some m)) (keyV x) true).run Tryz.prog w = .ok (.tuple #[.agg #[], .bool (K.contains x)]) w := by
  rw [h.look 94 92 Tryz.underlying94 _ (zero_unit w) x hx true, (metK_get K x).1, (metK_get K x).2]
  rfl
theorem MapAt.meet {w : World} {m : Nat} {K : List (List UInt8)} (h : MapAt w m (metK K)) (x : List UInt8) (hx : x.length = 32) (hn : x ∉ K) :
    ∃ w', (Instr.mapUpdate 94 (.map (some m)) (keyV x) (.agg #[])).run Tryz.prog w = .ok () w' ∧ MapAt w' m (metK (K ++ [x])) ∧ w.grownBy w' (some m) := by
  obtain ⟨w', h1, h2, h3, _⟩ := h.store 94 92 Tryz.underlying94 x hx (.agg #[])
  rw [metK_put K x hn] at h2
  exact ⟨w', h1, h2, h3⟩

set_option maxRecDepth 100000 in
theorem has_any (w : World) (m : Nat) (K : List (List UInt8)) (h : MapAt w m (metK K)) (x : List UInt8) (hx : x.length = 32) :
    Calls Tryz.prog 49 #[.map (some m), keyV x] w fun e w' => e = .returned (.bool (K.contains x)) ∧ w.grownBy w' none := by
  obtain ⟨KB, hKB⟩ : ∃ KB, KB = x.map bv := ⟨_, rfl⟩
  have hKl : KB.length = 32 := by rw [hKB]; simp [hx]
  have hkv : keyV x = .agg KB.toArray := by rw [hKB]; rfl
  obtain ⟨W1, hW1, hB1, g1⟩ := box_new w 33 KB
  have hr1 := blk_all hB1
  have hiK : (Tryz.prog.info? 33).map (·.size) = some KB.length := by rw [hKl]; exact info_id
  have hlk := (h.none g1).met x hx
  obtain ⟨r9, hr9⟩ : ∃ r, r = K.contains x := ⟨_, rfl⟩
  rw [hkv, ← hr9] at hlk
  rw [hkv, ← hr9]
  have hzu := zero_unit
  have HW1 := hide hW1
  have HIK := hide hiK
  clear hW1 hB1 hKB hKl hiK hkv h hr9
  go_enter Tryz.func49, Tryz.ntmps49
  go_wp2_with (first
    | (rw [← unhide HW1]; refine wpList_load_mid rfl 33 _ rfl w.heap.size 0 rfl KB _ hr1 Tryz.underlying33 rfl (unhide HIK) ?_; clear hr1))
  go_ret
  exact ⟨rfl, gb_alloc g1 _⟩

/-- The names that are met anew, in their order. -/
def newOf (K : List (List UInt8)) : List (List UInt8) → List (List UInt8)
  | [] => []
  | x :: l => if x ∈ K then newOf K l else x :: newOf (K ++ [x]) l

theorem newOf_snoc (x : List UInt8) : ∀ (l K : List (List UInt8)), newOf K (l ++ [x]) = newOf K l ++ (if x ∈ K ++ newOf K l then [] else [x])
  | [], K => by simp [newOf]
  | y :: l, K => by
    simp only [List.cons_append, newOf]
    split
    · rw [newOf_snoc x l K]
    · rw [newOf_snoc x l (K ++ [y])]
      simp

/-- A way to put names to the work, that keeps a state: K was met, L was put. -/
structure Works (g : Nat) (bound : Value) (m : Nat) (ao : Option Addr) (c : Nat) (ps : List (List UInt8)) (St : World → List (List UInt8) → List (List UInt8) → Prop) : Prop where
  map : ∀ {V K L}, St V K L → MapAt V m (metK K)
  ids : ∀ {V K L}, St V K L → Ids V ao c ps
  none : ∀ {V a K L}, St V K L → V.grownBy a Option.none → St a K L
  put : ∀ {V a K L x}, St V K L → x ∈ ps → x ∉ K → V.grownBy a (some m) → MapAt a m (metK (K ++ [x])) → L.length ≤ K.length → Calls Tryz.prog g #[bound, keyV x] a fun e w' => e = .returned (.tuple #[]) ∧ St w' (K ++ [x]) (L ++ [x])
  enter : ∀ args w, (callFunc g args).run Tryz.prog w = .ok (.enter g args) w

set_option maxRecDepth 100000 in
set_option maxHeartbeats 2000000 in
theorem meet_any (w : World) (g : Nat) (bound : Value) (m : Nat) (ao : Option Addr) (c : Nat) (ps K0 L0 : List (List UInt8)) (St : World → List (List UInt8) → List (List UInt8) → Prop) (hw : Works g bound m ao c ps St) (h : St w K0 L0) (hLK : L0.length ≤ K0.length) (hm : ps.length ≤ 100000) :
    Calls Tryz.prog 53 #[.map (some m), .slice ao ps.length c, .func (.func g) #[bound] #[]] w fun e w' => e = .returned (.tuple #[]) ∧ St w' (K0 ++ newOf K0 ps) (L0 ++ newOf K0 ps) := by
  obtain ⟨Z, hZ, hzv⟩ := zero_id
  obtain ⟨n, hn⟩ : ∃ n, n = ps.length := ⟨_, rfl⟩
  have eg := hw.enter
  rw [← hn]
  have HN := hide hn
  have HZ := hide hZ
  have HH := hide h
  have HW := hide hw
  clear hZ h hw
  rw [← hn] at hm
  clear hn
  go_enter Tryz.func53, Tryz.ntmps53
  go_wp2
  go_loopw [10] (fun i wr => ∃ j : Nat, i = .int .i64 j ∧ j ≤ n ∧ Hid (St wr (K0 ++ newOf K0 (ps.take j)) (L0 ++ newOf K0 (ps.take j)))) (fun i _ => n - (intOf i).toNat)
  case atStart => exact ⟨0, rfl, Nat.zero_le _, by simpa [newOf] using HH⟩
  case round =>
    obtain ⟨j, rfl, hj, HS⟩ := hrel
    by_cases hlt : j < n
    · have hlt' : j < ps.length := by have := unhide HN; omega
      obtain ⟨b, o, hao, hrow⟩ := ((unhide HW).ids (unhide HS)).at j hlt'
      have hr := hrow j hlt'
      have hid := ((unhide HW).ids (unhide HS)).ids _ (List.getElem_mem hlt')
      have hin : ps[j] ∈ ps := List.getElem_mem hlt'
      have hnew := newOf_snoc ps[j] (ps.take j) K0
      rw [← List.take_succ_eq_append_getElem hlt'] at hnew
      obtain ⟨E, hEE⟩ : ∃ E, E = ps[j] := ⟨_, rfl⟩
      rw [← hEE] at hr hid hnew hin
      obtain ⟨EB, hEB⟩ : ∃ EB, EB = E.map bv := ⟨_, rfl⟩
      have hkv : keyV E = .agg EB.toArray := by rw [hEB]; rfl
      rw [← hEB] at hr
      have hEl : EB.length = 32 := by rw [hEB]; simp [hid]
      have hEo : EB.toArray.all (·.oneCell') = true := by rw [hEB]; exact all_oneCell_toArray (bv_one _)
      have hiE : (Tryz.prog.info? 33).map (·.size) = some EB.length := by rw [hEl]; exact info_id
      have hiE2 : (Tryz.prog.info? 33).map (·.size) = some EB.toArray.size := by simpa using hiE
      have hZE : Z.toList.toArray.size = EB.toArray.size := by have := unhide HZ; simp [this, hEl]
      obtain ⟨W5, hW5, hB5, g5⟩ := row_new wr 33 Z EB
      have hBZ : Blk (wr.alloc (.cells Z 33)) wr.heap.size 33 Z.toList := by simpa using Blk.new wr 33 Z.toList
      have hr5 := blk_all hB5
      have HS5 := hide ((unhide HW).none (unhide HS) g5)
      obtain ⟨KK, hKK⟩ : ∃ KK, KK = K0 ++ newOf K0 (ps.take j) := ⟨_, rfl⟩
      obtain ⟨LL, hLL⟩ : ∃ LL, LL = L0 ++ newOf K0 (ps.take j) := ⟨_, rfl⟩
      have hle : LL.length ≤ KK.length := by rw [hKK, hLL, List.length_append, List.length_append]; omega
      have HLE := hide hle
      clear hle
      rw [← hKK, ← hLL] at HS5
      rw [← hKK] at hnew
      have ch := has_any W5 m KK ((unhide HW).map (unhide HS5)) E hid
      rw [hkv] at ch
      have HIE := hide hiE
      have HIE2 := hide hiE2
      have HZE := hide hZE
      have HEO := hide hEo
      have HBZ := hide hBZ
      have HW5 := hide hW5
      have HB5 := hide hB5
      have HKV := hide hkv
      have HKK := hide hKK
      have HLL := hide hLL
      have hjw : IntKind.i64.wrap ((j : Int) + 1) = (j : Int) + 1 := by rw [IntKind.wrap_i64]; omega
      clear hrow hEE hEB hEl hEo hiE hiE2 hZE hBZ hW5 hB5 hkv hKK hLL HS g5 hlt'
      by_cases hmem : E ∈ KK
      · have hcon : KK.contains E = true := by simpa using hmem
        rw [hcon] at ch
        rw [if_pos hmem, List.append_nil] at hnew
        have HNW := hide hnew
        clear hnew hcon hmem
        subst hao
        go_wp2_with (first
          | (refine wpList_load_mid rfl 33 _ rfl b (o + j * 32) rfl EB _ hr Tryz.underlying33 rfl (unhide HIE) ?_; clear hr)
          | (have hB9 := unhide HBZ; refine wpList_store_row rfl 33 _ _ rfl wr.heap.size EB.toArray rfl rfl _ _ hB9 (unhide HIE2) (unhide HZE) (unhide HEO) ?_; clear hB9; rw [← unhide HW5])
          | (refine wpList_load_mid rfl 33 _ rfl wr.heap.size 0 rfl EB _ hr5 Tryz.underlying33 rfl (unhide HIE) ?_; clear hr5)
          | (go_at_call 49; refine ch.mono ?_; rintro e w6 ⟨rfl, g6⟩; have HS6 := hide ((unhide HW).none (unhide HS5) g6); clear ch g6))
        go_roundw
        case rel =>
          refine ⟨j + 1, by go_num, by omega, ?_⟩
          rw [unhide HNW]
          rw [unhide HKK, unhide HLL] at HS6
          exact HS6
        case measure => simp [intOf]; omega
      · have hcon : KK.contains E = false := by simpa using hmem
        rw [hcon] at ch
        rw [if_neg hmem] at hnew
        have HNW := hide hnew
        clear hnew hcon
        subst hao
        go_wp2_with (first
          | (refine wpList_load_mid rfl 33 _ rfl b (o + j * 32) rfl EB _ hr Tryz.underlying33 rfl (unhide HIE) ?_; clear hr)
          | (have hB9 := unhide HBZ; refine wpList_store_row rfl 33 _ _ rfl wr.heap.size EB.toArray rfl rfl _ _ hB9 (unhide HIE2) (unhide HZE) (unhide HEO) ?_; clear hB9; rw [← unhide HW5])
          | (refine wpList_load_mid rfl 33 _ rfl wr.heap.size 0 rfl EB _ hr5 Tryz.underlying33 rfl (unhide HIE) ?_; clear hr5))
        refine ch.mono ?_
        rintro e w6 ⟨rfl, g6⟩
        have HS6 := hide ((unhide HW).none (unhide HS5) g6)
        have hM6 := (unhide HW).map (unhide HS6)
        have hB6 := (unhide HB5).kept g6 (by simp)
        obtain ⟨w7, hrun, hM7, g7⟩ := hM6.meet E hid hmem
        rw [unhide HKV] at hrun
        have hne : some wr.heap.size ≠ some m := fun e => hM6.blk hB6 (by cases e; rfl)
        have hr6 := blk_all hB6
        have hr7 := blk_all (hB6.kept g7 hne)
        have cp := (unhide HW).put (x := E) (unhide HS6) hin hmem g7 hM7 (unhide HLE)
        rw [unhide HKV] at cp
        clear ch hM6 hB6 hM7 g6 g7 hne
        go_wp2_with (first
          | (refine wpList_load_mid rfl 33 _ rfl wr.heap.size 0 rfl EB _ hr6 Tryz.underlying33 rfl (unhide HIE) ?_; clear hr6)
          | (refine wpList_load_mid rfl 33 _ rfl wr.heap.size 0 rfl EB _ hr7 Tryz.underlying33 rfl (unhide HIE) ?_; clear hr7))
        refine cp.mono ?_
        rintro e w8 ⟨rfl, hS8⟩
        have HS8 := hide hS8
        clear cp hS8 hrun
        go_wp2
        go_roundw
        case rel =>
          refine ⟨j + 1, by go_num, by omega, ?_⟩
          rw [unhide HNW]
          rw [unhide HKK, unhide HLL, List.append_assoc, List.append_assoc] at HS8
          exact HS8
        case measure => simp [intOf]; omega
    · have hjn : j = ps.length := by have := unhide HN; omega
      rw [hjn, List.take_of_length_le (Nat.le_refl _)] at HS
      clear hjn
      go_wp2
      go_end0
      exact ⟨rfl, unhide HS⟩

end Go.Proofs.YtlifmipnoeioaaaGreatDoor

/- What graph's lacks, at, Has and copied answer. Of any set, of nil and of a plain one. -/
namespace Go.Proofs.YtlifmipnoeioaaaGreatDoor
open Go.RowKit

/-- What is told of an object by its name: kind and data; none's. -/
def AtS (S : List ObE) (x : List UInt8) (k : Int) (d : List UInt8) : Prop := (∃ e, lkS S x = some e ∧ e.k = k ∧ e.d = d) ∨ (lkS S x = none ∧ k = 0 ∧ d = [])

theorem check_small {k : Int} {d : List UInt8} (h : checkL k d = 0) : d.length ≤ 16384 := by
  unfold checkL at h
  by_cases h1 : k < 1 ∨ 4 < k
  · rw [if_pos h1] at h; omega
  · rw [if_neg h1] at h
    by_cases h2 : 16384 < d.length
    · rw [if_pos h2] at h; omega
    · omega
theorem AtS.small {S : List ObE} {x : List UInt8} {k : Int} {d : List UInt8} (h : AtS S x k d) (hS : SetS S) : d.length ≤ 16384 := by
  rcases h with ⟨e, h1, rfl, rfl⟩ | ⟨_, _, rfl⟩
  · exact check_small (hS.ok e (lkS_mem h1).1)
  · simp
theorem links_zero : linksL 0 [] = [] := by decide
theorem AtS.links {S : List ObE} {x : List UInt8} {k : Int} {d : List UInt8} (h : AtS S x k d) : linksL k d = nxS S x := by
  unfold nxS
  rcases h with ⟨e, h1, rfl, rfl⟩ | ⟨h1, rfl, rfl⟩
  · rw [h1]; rfl
  · rw [h1]; exact links_zero
theorem AtS.pars {S : List ObE} {x : List UInt8} {k : Int} {d : List UInt8} (h : AtS S x k d) : (telC k d).2.pars = prS S x := by
  unfold prS
  rcases h with ⟨e, h1, rfl, rfl⟩ | ⟨h1, rfl, rfl⟩
  · rw [h1]; rfl
  · rw [h1]; rfl

theorem zero_obj (w : World) : (zeroValue 42).run Tryz.prog w = .ok (.agg #[.int .i64 0, .slice none 0 0]) w := by kernel_rfl

/-- What the set's map tells by a name. -/
theorem SetAt.look {u w : World} {sb mb : Nat} {S : List ObE} (h : SetAt u w sb mb S) (x : List UInt8) (hx : x.length = 32) :
    ∃ k ao c d, AtS S x k d ∧ Dat w ao c d ∧ ∀ ok V, V.heap[mb]? = w.heap[mb]? → (Instr.lookup 76 (.map (some mb)) (keyV x) ok).run Tryz.prog V = .ok (if ok then .tuple #[.agg #[.int .i64 k, .slice ao d.length c], .bool (hasS S x)] else .agg #[.int .i64 k, .slice ao d.length c]) V := by
  obtain ⟨R, m1, m2, m3⟩ := h.map
  cases hg : getK (R.map fun r => (r.e.id, obV r)) x with
  | none =>
    have hn : lkS S x = Option.none := lkS_none fun hm => by
      obtain ⟨e, he, rfl⟩ := List.mem_map.1 hm
      obtain ⟨r, hr, rfl⟩ := List.mem_map.1 ((m2 e).2 he)
      have := (getK_isSome (R.map fun r => (r.e.id, obV r)) r.e.id).2 (by rw [List.map_map]; exact List.mem_map.2 ⟨r, hr, rfl⟩)
      rw [hg] at this
      cases this
    refine ⟨0, Option.none, 0, [], Or.inr ⟨hn, rfl, rfl⟩, Dat.nil w, fun ok V gV => ?_⟩
    rw [(m1.same gV).look 76 42 Tryz.underlying76 _ (zero_obj V) x hx ok, hg]
    unfold hasS
    rw [hn]
    rfl
  | some v =>
    obtain ⟨r, hr, he⟩ := List.mem_map.1 (getK_mem hg)
    simp only [Prod.mk.injEq] at he
    obtain ⟨rfl, rfl⟩ := he
    have hs : lkS S r.e.id = some r.e := lkS_some h.ok.ris.nodup ((m2 r.e).1 (List.mem_map.2 ⟨r, hr, rfl⟩))
    refine ⟨r.e.k, r.ao, r.c, r.e.d, Or.inl ⟨r.e, hs, rfl, rfl⟩, m3 r hr, fun ok V gV => ?_⟩
    rw [(m1.same gV).look 76 42 Tryz.underlying76 _ (zero_obj V) r.e.id hx ok, hg]
    unfold hasS
    rw [hs]
    rfl

set_option maxRecDepth 100000 in
set_option maxHeartbeats 1000000 in
theorem lacks_any (u w : World) (sb mb : Nat) (S : List ObE) (h : SetAt u w sb mb S) (x : List UInt8) (hx : x.length = 32) :
    Calls Tryz.prog 38 #[.pointer (some ⟨sb, 0, none⟩), keyV x] w fun e w' => e = .returned (.int .i64 (if hasS S x = true then 0 else 13)) ∧ w.grownBy w' none := by
  obtain ⟨k, ao, c, d, _, _, hlk0⟩ := h.look x hx
  obtain ⟨KB, hKB⟩ : ∃ KB, KB = x.map bv := ⟨_, rfl⟩
  have hKl : KB.length = 32 := by rw [hKB]; simp [hx]
  obtain ⟨W1, hW1, hB1, g1⟩ := box_new w 33 KB
  have hrK := blk_all hB1
  have hiK : (Tryz.prog.info? 33).map (·.size) = some KB.length := by rw [hKl]; exact info_id
  have h1 := h.none g1
  have hc := h1.cell
  have c1 := made_any W1 sb mb hc
  obtain ⟨OL, hOL⟩ : ∃ OL : List Value, OL = [.int .i64 k, .slice ao d.length c] := ⟨_, rfl⟩
  have hSO : OL.toArray.size = 2 := by rw [hOL]; rfl
  have hOO : OL.toArray.all (·.oneCell') = true := by rw [hOL]; exact obj_one rfl
  obtain ⟨r9, hr9⟩ : ∃ r9, r9 = hasS S x := ⟨_, rfl⟩
  have hzo := zero_obj
  have hlk : ∀ V, W1.grownBy V none → (Instr.lookup 76 (.map (some mb)) (.agg KB.toArray) true).run Tryz.prog V = .ok (.tuple #[.agg OL.toArray, .bool r9]) V := fun V hV => by
    have := hlk0 true V (by rw [hV.block mb h1.lt (by simp), g1.block mb h.lt (by simp)])
    rw [hOL, hKB, hr9]
    exact this
  rw [← hr9, show keyV x = .agg KB.toArray by rw [hKB]; rfl]
  have h0 : W1.grownBy W1.drew none := gb_drew (gb_refl _ _)
  have HW1 := hide hW1
  have HIK := hide hiK
  have HSO := hide hSO
  have HOO := hide hOO
  clear hW1 hB1 hKB hKl hiK h1 h hlk0 hOL hSO hOO hr9
  go_enter Tryz.func38, Tryz.ntmps38
  go_upto_region 3 with (first | (go_at_call 36; refine c1.mono ?_; rintro e w2 ⟨rfl, e2⟩; subst w2) | rw [← unhide HW1])
  refine wp_region_noPanic ?_
  refine wp_region_held_drew (S := fun V => W1.grownBy V none) (by kernel_rfl) h0 (fun _ => ?_)
  refine wpAnyH_take (i := 0) (oi := ⟨some 11, .move (.tmp 0), _, _, _, _⟩) (v := .pointer (some ⟨sb, 0, none⟩)) rfl (by kernel_rfl) (by kernel_rfl) (by kernel_rfl) (fun _ _ _ h => h) (Or.inl ⟨by rfl, fun V (hV : W1.grownBy V none) => by go_simp⟩) h0 ?_
  (try simp only [Act.put, pq1, pq2, pq3])
  refine wpAnyH_take (i := 1) (oi := ⟨some 12, .nilCheck (.tmp 11), _, _, _, _⟩) (v := .pointer (some ⟨sb, 0, none⟩)) rfl (by kernel_rfl) (by kernel_rfl) (by kernel_rfl) (fun _ _ _ h => h) (Or.inl ⟨by rfl, fun V (hV : W1.grownBy V none) => by go_simp⟩) h0 ?_
  (try simp only [Act.put, pq1, pq2, pq3])
  refine wpAnyH_take (i := 2) (oi := ⟨some 13, .fieldAddr 78 (.tmp 12) 0, _, _, _, _⟩) (v := .pointer (some ⟨sb, 0, none⟩)) rfl (by kernel_rfl) (by kernel_rfl) (by kernel_rfl) (fun _ _ _ h => h) (Or.inl ⟨by rfl, fun V (hV : W1.grownBy V none) => by go_simp⟩) h0 ?_
  (try simp only [Act.put, pq1, pq2, pq3])
  refine wpAnyH_take (i := 3) (oi := ⟨some 14, .load 76 (.tmp 13), _, _, _, _⟩) (v := .map (some mb)) rfl (by kernel_rfl) (by kernel_rfl) (by kernel_rfl) (fun _ _ _ h => h) (Or.inl ⟨by rfl, fun V (hV : W1.grownBy V none) => by (have hv1 := hV.cell hc (by simp); go_simp)⟩) h0 ?_
  (try simp only [Act.put, pq1, pq2, pq3])
  refine wpAnyH_take (i := 4) (oi := ⟨some 15, .load 33 (.tmp 3), _, _, _, _⟩) (v := .agg KB.toArray) rfl (by kernel_rfl) (by kernel_rfl) (by kernel_rfl) (fun _ _ _ h => h) (yieldsIf_load_mid (by rfl) _ _ rfl _ _ rfl KB _ (fun V hV => range_kept hrK hV (by simp)) Tryz.underlying33 rfl (unhide HIK)) h0 ?_
  (try simp only [Act.put, pq1, pq2, pq3])
  refine wpAnyH_take (i := 5) (oi := ⟨some 16, .lookup 76 (.tmp 14) (.tmp 15) true, _, _, _, _⟩) (v := .tuple #[.agg OL.toArray, .bool r9]) rfl (by kernel_rfl) (by kernel_rfl) (by kernel_rfl) (fun _ _ _ h => h) (Or.inl ⟨by rfl, fun V (hV : W1.grownBy V none) => by (have hv9 := hlk V hV; go_simp)⟩) h0 ?_
  (try simp only [Act.put, pq1, pq2, pq3])
  refine wpAnyH_take (i := 6) (oi := ⟨some 10, .move (.tmp 16), _, _, _, _⟩) (v := .tuple #[.agg OL.toArray, .bool r9]) rfl (by kernel_rfl) (by kernel_rfl) (by kernel_rfl) (fun _ _ _ h => h) (Or.inl ⟨by rfl, fun V (hV : W1.grownBy V none) => by go_simp⟩) h0 ?_
  (try simp only [Act.put, pq1, pq2, pq3])
  refine wpAnyH_take (i := 7) (oi := ⟨some 17, .extract (.tmp 10) 0, _, _, _, _⟩) (v := .agg OL.toArray) rfl (by kernel_rfl) (by kernel_rfl) (by kernel_rfl) (fun _ _ _ h => h) (Or.inl ⟨by rfl, fun V (hV : W1.grownBy V none) => by go_simp⟩) h0 ?_
  (try simp only [Act.put, pq1, pq2, pq3])
  refine wpAnyH_take (i := 8) (oi := ⟨some 18, .extract (.tmp 10) 1, _, _, _, _⟩) (v := .bool r9) rfl (by kernel_rfl) (by kernel_rfl) (by kernel_rfl) (fun _ _ _ h => h) (Or.inl ⟨by rfl, fun V (hV : W1.grownBy V none) => by go_simp⟩) h0 ?_
  (try simp only [Act.put, pq1, pq2, pq3])
  refine wpAnyH_ready (rs := [9]) (by kernel_rfl) (by simp) ?_
  refine AllReadyH.cons (o := ⟨some 5, .alloc 42, _, _, _, _⟩) rfl (fun K9 hK9 => ?_) AllReadyH.nil
  go_simp
  refine hK9.out _ _ (gb_alloc h0 _) (fun _ => ?_)
  clear hK9 K9
  (try simp only [Act.put, pq1, pq2, pq3])
  have hN2 : Blk (W1.drew.alloc (.cells #[.int .i64 0, .slice none 0 0] 42)) W1.heap.size 42 [.int .i64 0, .slice none 0 0] := Blk.new W1.drew _ _
  have gN2 := gb_alloc h0 (.cells #[.int .i64 0, .slice none 0 0] 42)
  obtain ⟨W2, hW2⟩ : ∃ W2, W2 = W1.drew.alloc (.cells #[.int .i64 0, .slice none 0 0] 42) := ⟨_, rfl⟩
  rw [show (W1.alloc (.cells #[.int .i64 0, .slice none 0 0] 42)).drew = W2 by rw [hW2]; rfl]
  rw [← hW2] at hN2 gN2
  clear hW2
  refine wpAnyH_ready (rs := [10]) (by kernel_rfl) (by simp) ?_
  refine AllReadyH.cons (o := ⟨none, .store 42 (.tmp 5) (.tmp 17), _, _, _, _⟩) rfl (fun K9 hK9 => ?_) AllReadyH.nil
  rw [if_pos (by rfl)]
  refine wp_store_row _ _ _ rfl W1.heap.size _ rfl rfl _ _ hN2 (by rw [unhide HSO]; exact info_obj) (by rw [unhide HSO]; rfl) (unhide HOO) ?_
  refine hK9.out _ _ (gb_row gN2 _ (Or.inl (Nat.le_refl _))) (fun _ => ?_)
  clear hK9 K9
  (try simp only [Act.put])
  refine wpAnyH_take (i := 11) (oi := ⟨some 6, .assign (.tmp 18), _, _, _, _⟩) (v := .bool r9) rfl (by kernel_rfl) (by kernel_rfl) (by kernel_rfl) (fun _ _ _ h => h) (Or.inl ⟨by rfl, fun V (hV : W1.grownBy V none) => by go_simp⟩) (gb_row gN2 _ (Or.inl (Nat.le_refl _))) ?_
  (try simp only [Act.put, pq1, pq2, pq3])
  refine wpAnyH_done (by kernel_rfl) ?_ _
  refine NoPanic.normal ?_
  clear hlk c1
  have gF := tn g1 (gb_row gN2 OL.toArray (Or.inl (Nat.le_refl _)))
  cases r9 with
  | true =>
    go_wp2
    go_ret
    exact ⟨rfl, gF⟩
  | false =>
    go_wp2
    go_ret
    exact ⟨rfl, gF⟩

set_option maxRecDepth 100000 in
theorem lacks_no (w : World) (po : Option Addr) (h : NoSet w po) (K : Array Value) :
    Calls Tryz.prog 38 #[.pointer po, .agg K] w fun e w' => e = .returned (.int .i64 1) ∧ w.grownBy w' none := by
  have c1 := h (w.alloc (.cells K 33)) (gb_alloc (gb_refl _ _) _)
  have hg : w.grownBy (w.alloc (.cells K 33)) none := gb_alloc (gb_refl _ _) _
  clear h
  go_enter Tryz.func38, Tryz.ntmps38
  go_wp2_with (go_at_call 36; refine c1.mono ?_; rintro e w2 ⟨rfl, rfl⟩)
  go_ret
  exact ⟨rfl, hg⟩

/-- Has, of any set. -/
theorem ghas_any (w : World) (po : Option Addr) (S : List ObE) (h : Sat w po S) (x : List UInt8) (hx : x.length = 32) :
    Calls Tryz.prog 13 #[.pointer po, keyV x] w fun e w' => e = .returned (.bool (hasS S x)) ∧ w.grownBy w' none := by
  obtain ⟨KB, hKB⟩ : ∃ KB, KB = x.map bv := ⟨_, rfl⟩
  have hKl : KB.length = 32 := by rw [hKB]; simp [hx]
  obtain ⟨W1, hW1, hB1, g1⟩ := box_new w 33 KB
  have hr1 := blk_all hB1
  have hiK : (Tryz.prog.info? 33).map (·.size) = some KB.length := by rw [hKl]; exact info_id
  have hk : keyV x = .agg KB.toArray := by rw [hKB]; rfl
  obtain ⟨y, hy, cl⟩ : ∃ y : Int, (y == 0) = hasS S x ∧ Calls Tryz.prog 38 #[.pointer po, .agg KB.toArray] W1 fun e w' => e = .returned (.int .i64 y) ∧ W1.grownBy w' none := by
    rcases h.none g1 with ⟨u, sb, mb, rfl, h2⟩ | ⟨rfl, h2⟩
    · refine ⟨if hasS S x = true then 0 else 13, by cases hasS S x <;> rfl, ?_⟩
      rw [← hk]
      exact lacks_any u W1 sb mb S h2 x hx
    · exact ⟨1, rfl, lacks_no W1 po h2 _⟩
  rw [← hy, hk]
  have HW1 := hide hW1
  have HIK := hide hiK
  clear hW1 hB1 hKB hKl hiK h hk hy
  go_enter Tryz.func13, Tryz.ntmps13
  go_wp2_with (first
    | (rw [← unhide HW1]; refine wpList_load_mid rfl 33 _ rfl w.heap.size 0 rfl KB _ hr1 Tryz.underlying33 rfl (unhide HIK) ?_; clear hr1)
    | (go_at_call 38; refine cl.mono ?_; rintro e w2 ⟨rfl, g2⟩))
  go_ret
  exact ⟨rfl, tn g1 g2⟩

set_option maxRecDepth 100000 in
set_option maxHeartbeats 1000000 in
theorem at_any (w : World) (po : Option Addr) (S : List ObE) (h : Sat w po S) (x : List UInt8) (hx : x.length = 32) :
    Calls Tryz.prog 40 #[.pointer po, keyV x] w fun e w' => ∃ k ao c d, e = .returned (.agg #[.int .i64 k, .slice ao d.length c]) ∧ AtS S x k d ∧ Dat w ao c d ∧ w.grownBy w' none := by
  obtain ⟨KB, hKB⟩ : ∃ KB, KB = x.map bv := ⟨_, rfl⟩
  have hKl : KB.length = 32 := by rw [hKB]; simp [hx]
  have hk : keyV x = .agg KB.toArray := by rw [hKB]; rfl
  obtain ⟨W0, hW0, hB0, g0⟩ := box_new w 33 KB
  obtain ⟨W1, hW1, hB1, g1⟩ : ∃ W, W = W0.alloc (.cells #[.int .i64 0, .slice none 0 0] 42) ∧ Blk W W0.heap.size 42 [.int .i64 0, .slice none 0 0] ∧ W0.grownBy W none := box_new W0 _ _
  have hs0 : W0.heap.size = w.heap.size + 1 := by rw [hW0]; simp
  rw [hs0] at hB1
  have G1 := tn g0 g1
  have hzo := zero_obj
  have hW : W1 = (w.alloc (.cells KB.toArray 33)).alloc (.cells #[.int .i64 0, .slice none 0 0] 42) := by rw [hW1, hW0]
  rw [hk]
  rcases h with ⟨u, sb, mb, rfl, hS⟩ | ⟨rfl, hN⟩
  · obtain ⟨k, ao, c, d, hat, hd, hlk0⟩ := hS.look x hx
    have h1 := hS.none G1
    have hc := h1.cell
    have c1 := made_any W1 sb mb hc
    obtain ⟨OL, hOL⟩ : ∃ OL : List Value, OL = [.int .i64 k, .slice ao d.length c] := ⟨_, rfl⟩
    have hSO : OL.toArray.size = 2 := by rw [hOL]; rfl
    have hOO : OL.toArray.all (·.oneCell') = true := by rw [hOL]; exact obj_one rfl
    have hrK := blk_all (hB0.kept g1 (by simp))
    have hiK : (Tryz.prog.info? 33).map (·.size) = some KB.length := by rw [hKl]; exact info_id
    have hlt := hS.lt
    have hlk : ∀ V, W1.grownBy V (some (w.heap.size + 1)) → (Instr.lookup 76 (.map (some mb)) (.agg KB.toArray) false).run Tryz.prog V = .ok (.agg OL.toArray) V := fun V hV => by
      have := hlk0 false V (by rw [hV.block mb h1.lt (by simp; omega), G1.block mb hlt (by simp)])
      rw [hOL, hKB]
      exact this
    have hns : some sb ≠ some (w.heap.size + 1) := fun e => by
      have := hS.blk.lt
      cases e
      omega
    have h0 : W1.grownBy W1.drew (some (w.heap.size + 1)) := gb_drew (gb_refl _ _)
    have HW := hide hW
    have HB4 := hide hB1.drew
    have HIK := hide hiK
    have HSO := hide hSO
    have HOO := hide hOO
    have HNS := hide hns
    have HOL := hide hOL
    have HG : Hid (w.grownBy (W1.drew.setRow (w.heap.size + 1) OL.toArray) none) := gb_row (gb_drew G1) _ (Or.inl (by omega))
    clear hW hW1 hW0 hB0 hB1 g0 g1 hs0 hKB hKl hiK h1 hlk0 hSO hOO hns hOL hlt G1 hk
    go_enter Tryz.func40, Tryz.ntmps40
    go_upto_region 3 with (first | (go_at_call 36; refine c1.mono ?_; rintro e w2 ⟨rfl, e2⟩; subst w2) | rw [← unhide HW])
    refine wp_region_noPanic ?_
    refine wp_region_held_drew (S := fun V => W1.grownBy V (some (w.heap.size + 1))) (by kernel_rfl) h0 (fun _ => ?_)
    refine wpAnyH_take (i := 0) (oi := ⟨some 9, .move (.tmp 0), _, _, _, _⟩) (v := .pointer (some ⟨sb, 0, none⟩)) rfl (by kernel_rfl) (by kernel_rfl) (by kernel_rfl) (fun _ _ _ h => h) (Or.inl ⟨by rfl, fun V (hV : W1.grownBy V (some (w.heap.size + 1))) => by go_simp⟩) h0 ?_
    (try simp only [Act.put, pq1, pq2, pq3])
    refine wpAnyH_take (i := 1) (oi := ⟨some 10, .nilCheck (.tmp 9), _, _, _, _⟩) (v := .pointer (some ⟨sb, 0, none⟩)) rfl (by kernel_rfl) (by kernel_rfl) (by kernel_rfl) (fun _ _ _ h => h) (Or.inl ⟨by rfl, fun V (hV : W1.grownBy V (some (w.heap.size + 1))) => by go_simp⟩) h0 ?_
    (try simp only [Act.put, pq1, pq2, pq3])
    refine wpAnyH_take (i := 2) (oi := ⟨some 11, .fieldAddr 78 (.tmp 10) 0, _, _, _, _⟩) (v := .pointer (some ⟨sb, 0, none⟩)) rfl (by kernel_rfl) (by kernel_rfl) (by kernel_rfl) (fun _ _ _ h => h) (Or.inl ⟨by rfl, fun V (hV : W1.grownBy V (some (w.heap.size + 1))) => by go_simp⟩) h0 ?_
    (try simp only [Act.put, pq1, pq2, pq3])
    refine wpAnyH_take (i := 3) (oi := ⟨some 12, .load 76 (.tmp 11), _, _, _, _⟩) (v := .map (some mb)) rfl (by kernel_rfl) (by kernel_rfl) (by kernel_rfl) (fun _ _ _ h => h) (Or.inl ⟨by rfl, fun V (hV : W1.grownBy V (some (w.heap.size + 1))) => by (have hv1 := hV.cell hc (unhide HNS); go_simp)⟩) h0 ?_
    (try simp only [Act.put, pq1, pq2, pq3])
    refine wpAnyH_take (i := 4) (oi := ⟨some 13, .load 33 (.tmp 3), _, _, _, _⟩) (v := .agg KB.toArray) rfl (by kernel_rfl) (by kernel_rfl) (by kernel_rfl) (fun _ _ _ h => h) (yieldsIf_load_mid (by rfl) _ _ rfl _ _ rfl KB _ (fun V hV => range_kept hrK hV (by simp)) Tryz.underlying33 rfl (unhide HIK)) h0 ?_
    (try simp only [Act.put, pq1, pq2, pq3])
    refine wpAnyH_take (i := 5) (oi := ⟨some 14, .lookup 76 (.tmp 12) (.tmp 13) false, _, _, _, _⟩) (v := .agg OL.toArray) rfl (by kernel_rfl) (by kernel_rfl) (by kernel_rfl) (fun _ _ _ h => h) (Or.inl ⟨by rfl, fun V (hV : W1.grownBy V (some (w.heap.size + 1))) => by (have hv9 := hlk V hV; go_simp)⟩) h0 ?_
    (try simp only [Act.put, pq1, pq2, pq3])
    refine wpAnyH_ready (rs := [6]) (by kernel_rfl) (by simp) ?_
    refine AllReadyH.cons (o := ⟨none, .store 42 (.tmp 4) (.tmp 14), _, _, _, _⟩) rfl (fun K9 hK9 => ?_) AllReadyH.nil
    rw [if_pos (by rfl)]
    refine wp_store_row _ _ _ rfl (w.heap.size + 1) _ rfl rfl _ _ (unhide HB4) (by rw [unhide HSO]; exact info_obj) (by rw [unhide HSO]; rfl) (unhide HOO) ?_
    refine hK9.out _ _ (gb_row h0 _ (Or.inr rfl)) (fun _ => ?_)
    clear hK9 K9
    (try simp only [Act.put])
    refine wpAnyH_done (by kernel_rfl) ?_ _
    refine NoPanic.normal ?_
    clear hlk c1 hc hrK
    go_wp2
    refine bodyPost_ret (results_cell_row rfl _ _ _ _ _ _ _ rfl ((unhide HB4).row OL) Tryz.underlying42 rfl (by rw [unhide HSO]; exact info_obj)) rfl ?_
    exact ⟨k, ao, c, d, by rw [unhide HOL], hat, hd, unhide HG⟩
  · have c1 := hN W1 G1
    have HW := hide hW
    have HB1 := hide hB1
    have hls : AtS [] x 0 [] := Or.inr ⟨rfl, rfl, rfl⟩
    have HG : Hid (w.grownBy (W1.setRow (w.heap.size + 1) #[.int .i64 0, .slice none 0 0]) none) := gb_row G1 _ (Or.inl (by omega))
    clear hW hW1 hW0 hB0 hB1 g0 g1 hs0 hKB hKl hN G1 hk
    go_enter Tryz.func40, Tryz.ntmps40
    go_wp2_with (first
      | (go_at_call 36; refine c1.mono ?_; rintro e w2 ⟨rfl, e2⟩; subst w2; clear c1)
      | (have hB9 := unhide HB1; refine wpList_store_row rfl 42 _ _ rfl (w.heap.size + 1) #[.int .i64 0, .slice none 0 0] rfl rfl _ _ hB9 info_obj rfl (obj_one rfl) ?_; clear hB9)
      | rw [← unhide HW])
    refine bodyPost_ret (results_cell_row rfl _ _ _ _ _ _ _ rfl ((unhide HB1).row [.int .i64 0, .slice none 0 0]) Tryz.underlying42 rfl info_obj) rfl ?_
    exact ⟨0, none, 0, [], rfl, hls, Dat.nil w, unhide HG⟩

end Go.Proofs.YtlifmipnoeioaaaGreatDoor
