/- What is made of entries, a commit, a note is read back; the bytes of an object are read back, and with a byte more they are none; of two kinds the bytes are others: pure. -/
import Derived.Test.YtcemdlcimhoeeaaDoorLIds
import Derived.Test.YtcemdlcimhoeeaaDoorOLink
import Derived.Test.YtcemdlcimhoeeaaDoorOPut
import Derived.Test.YtcemdlcimhoeeaaDoorOApp
import Derived.Test.YtcemdlcimhoeeaaDoorOEq
import Derived.Lib.SlBytesConst
namespace Go.Proofs.YtcemdlcimhoeeaaDoor

theorem fit_le {d : List UInt8} {x : List UInt8} (h : fitB x = (0, d)) : d.length ≤ 16384 := by
  unfold fitB at h
  split at h
  · exact absurd (congrArg Prod.fst h) (by simp)
  · have := congrArg Prod.snd h; simp only at this; subst this; omega
theorem ofTree_le {es : List EntL} {d : List UInt8} (h : ofTree es = (0, d)) : d.length ≤ 16384 := by
  unfold ofTree at h
  split at h
  · exact absurd (congrArg Prod.fst h) (by simp)
  · split at h
    · exact fit_le h
    · exact absurd (congrArg Prod.fst h) (by simp)
theorem ofChg_le {c : ChgL} {d : List UInt8} (h : ofChg c = (0, d)) : d.length ≤ 16384 := by
  unfold ofChg at h
  split at h
  · exact absurd (congrArg Prod.fst h) (by simp)
  · split at h
    · exact fit_le h
    · exact absurd (congrArg Prod.fst h) (by simp)
theorem ofMrk_le {m : MrkL} {d : List UInt8} (h : ofMrk m = (0, d)) : d.length ≤ 16384 := by
  unfold ofMrk at h
  split at h
  · exact fit_le h
  · exact absurd (congrArg Prod.fst h) (by simp)

theorem back_T {es : List EntL} {d : List UInt8} (hid : ∀ e ∈ es, e.id.length = 32) (h : ofTree es = (0, d)) : telT 2 d = (0, es) ∧ checkL 2 d = 0 := by
  obtain ⟨h1, h2, h3⟩ := ofTree_ok h
  have hr : readT d = es := by rw [h1]; exact readT_lay es h2 (fun e he => ⟨hid e he, by have := h3 e he; omega⟩)
  have ht : telT 2 d = (0, es) := by unfold telT; rw [if_pos rfl, hr, if_pos h]
  exact ⟨ht, by rw [(check2 d (ofTree_le h)).1, ht]⟩
theorem back_C {c : ChgL} {d : List UInt8} (ht : c.tree.length = 32) (hp : ∀ x ∈ c.pars, x.length = 32) (hm : c.time < 18446744073709551616) (h : ofChg c = (0, d)) : telC 3 d = (0, c) ∧ checkL 3 d = 0 ∧ (linksL 3 d).length = 1 + c.pars.length := by
  obtain ⟨h1, h2, h3, h4⟩ := ofChg_ok h
  have hr : readC d = c := by rw [h1]; exact readC_lay c h2 ⟨ht, hp, hm, by omega, by omega⟩
  have hc : telC 3 d = (0, c) := by unfold telC; rw [if_pos rfl, hr, if_pos h]
  obtain ⟨q1, q2, _⟩ := check3 d (ofChg_le h)
  refine ⟨hc, by rw [q1, hc], ?_⟩
  rw [q2 (by rw [hc]), hc]
  simp only [List.length_cons]
  omega
theorem back_M {m : MrkL} {d : List UInt8} (ht : m.target.length = 32) (h : ofMrk m = (0, d)) : telM 4 d = (0, m) ∧ checkL 4 d = 0 := by
  obtain ⟨h1, h2, h3⟩ := ofMrk_ok h
  have hr : readM d = m := by rw [h1]; exact readM_lay m ⟨ht, by omega, by omega⟩
  have hc : telM 4 d = (0, m) := by unfold telM; rw [if_pos rfl, hr, if_pos h]
  exact ⟨hc, by rw [(check4 d (ofMrk_le h)).1, hc]⟩

theorem put_eq (k : Nat) (hk : k < 256) (d m : List UInt8) : putL (k : Int) d ++ m = lb k 1 ++ (layS d ++ m) := by
  have h1 : lb k 1 = [UInt8.ofNat k] := by
    match k with
    | k => simp [lb]
  have h2 : UInt8.ofInt (k : Int) = UInt8.ofNat k := by
    simp only [UInt8.ofInt]
    congr 1
    omega
  unfold putL
  rw [h1, h2]
  simp
theorem rd_put (k : Nat) (hk : k < 256) (d : List UInt8) (hd : d.length ≤ 16384) (hc : checkL (k : Int) d = 0) : rdL (putL (k : Int) d) = (0, (k : Int), d) := by
  have e0 := put_eq k hk d []
  rw [List.append_nil] at e0
  unfold rdL
  rw [e0]
  have h1 := numS1_lay k hk (layS d ++ [])
  have h2 := sizedS_lay d [] (by omega)
  simp only [h1, h2]
  rw [if_pos ⟨by decide, hc⟩]
theorem rd_more (k : Nat) (hk : k < 256) (d : List UInt8) (hd : d.length ≤ 16384) : rdL (putL (k : Int) d ++ [0]) = (11, 0, []) := by
  unfold rdL
  rw [put_eq k hk d [0]]
  have h1 := numS1_lay k hk (layS d ++ [0])
  have h2 := sizedS_lay d [0] (by omega)
  simp only [h1, h2]
  rw [if_neg (fun h => absurd h.1 (by decide))]
theorem put_ne (k j : Nat) (hk : k < 256) (hj : j < 256) (h : k ≠ j) (d e : List UInt8) : putL (k : Int) d ≠ putL (j : Int) e := by
  intro he
  unfold putL at he
  have h1 := congrArg (fun l => l.headD 0) he
  simp only [List.singleton_append, List.headD_cons] at h1
  have h2 := congrArg UInt8.toNat h1
  simp [UInt8.ofInt] at h2
  omega

end Go.Proofs.YtcemdlcimhoeeaaDoor

/- A row of objects of the call's own: an object is appended, one is read. No condition but those that each lemma names. -/
namespace Go.Proofs.YtcemdlcimhoeeaaDoor
open Go.RowKit

/-- An object in memory: its kind, its data, and where they lie. -/
structure ObjR where
  kind : Nat
  data : List UInt8
  ao : Option Addr
  c : Nat
deriving Inhabited
def obC (r : ObjR) : List Value := [.int .i64 (r.kind : Int), .slice r.ao r.data.length r.c]

theorem info_objp : (Tryd.prog.info? 34).map (fun i => (i.zero, i.size, i.bytes)) = some (some (.agg #[.int .i64 0, .slice none 0 0]), 2, 32) := by kernel_rfl
theorem wpList_append_obj {w : World} {ops : Array Oper} {rest : List Oper} {o : Oper} {a : Act} {Q : Exit → Act → World → Prop} (hgd : o.guard = none) (s x : Operand)
    (ho : o.op = .call { callee := .builtin .append, args := #[s, x], argTypes := #[31, 31] })
    (base : Nat) (v : Value) (n : Nat) (xs : List Value) (hs : a.eval s = v) (hown : w.ownsRow base 34 2 v n xs) (p : Nat) (EC : List Value) (hB : Blk w p 34 EC) (hEl : EC.length = 2) (hE1 : ∀ u ∈ EC, u.oneCell' = true)
    (hx : a.eval x = .slice (some ⟨p, 0, none⟩) 1 1) (hn : n ≤ 100000) (hbase : base ≤ w.heap.size)
    (h : ∀ v' w', w'.ownsRow base 34 2 v' (n + 1) (xs ++ EC) → w.grownBy w' v.ownBlock → wpList Tryd.prog ops Q rest (a.put o.dst v') w') : wpList Tryd.prog ops Q (o :: rest) a w := by
  obtain ⟨i0, hi, hz0, hz1, hz2⟩ := info_parts info_objp
  exact wpList_append_own w hgd s x 31 ho base 34 i0 _ 2 32 Tryd.underlying31 hi hz0 hz1 hz2 rfl (by decide) v n xs hs hown ⟨p, 0, none⟩ 1 1 EC hx (by rw [hEl]) (fun j u hu => World.news_of_block hB j u (by simpa using hu)) hE1 (by unfold maxLen; omega) (by omega) hbase (fun v' w' q1 q2 _ => h v' w' q1 q2)
theorem own_obj {w a : World} {base n : Nat} {v : Value} {xs : List Value} (h : w.ownsRow base 34 2 v n xs) (g : w.grownBy a none) : a.ownsRow base 34 2 v n xs :=
  h.kept g (by
    by_cases e : v.ownBlock = none
    · exact Or.inl e
    · exact Or.inr e)
theorem bs_obj (k : Int) (ao : Option Addr) (n c : Nat) (V : World) : (Instr.buildSlice 31 1 #[(0, .agg #[.int .i64 k, .slice ao n c])]).run Tryd.prog V = .ok (.slice (some ⟨V.heap.size, 0, none⟩) 1 1) (V.alloc (.cells #[.int .i64 k, .slice ao n c] 34)) := by kernel_rfl

/-- A row of objects that the call itself has laid; the data lie in blocks of bytes. -/
structure Objs (w : World) (base : Nat) (v : Value) (R : List ObjR) : Prop where
  own : w.ownsRow base 34 2 v R.length (R.flatMap obC)
  bts : ∀ r ∈ R, Bts w r.ao r.c r.data
  typ : ∀ r ∈ R, ∀ ad, r.ao = some ad → Typ w ad.block

theorem Objs.nil (w : World) (base : Nat) : Objs w base (.slice none 0 0) [] := ⟨World.ownsRow_nil w base _ 2, (fun _ e => by cases e), (fun _ e => by cases e)⟩
theorem Objs.none {w a : World} {base : Nat} {v : Value} {R : List ObjR} (h : Objs w base v R) (g : w.grownBy a Option.none) : Objs a base v R :=
  ⟨own_obj h.own g, fun r hr => (h.bts r hr).kept g (fun _ e => by cases e), fun r hr ad e => (h.typ r hr ad e).kept g (by simp)⟩
theorem Objs.put {w a : World} {base : Nat} {v v2 : Value} {R : List ObjR} (h : Objs w base v R) (r : ObjR) (hb : Bts w r.ao r.c r.data) (ht : ∀ ad, r.ao = some ad → Typ w ad.block) (g : w.grownBy a v.ownBlock)
    (ho : a.ownsRow base 34 2 v2 (R.length + 1) (R.flatMap obC ++ obC r)) : Objs a base v2 (R ++ [r]) := by
  have ne : ∀ x, v.ownBlock = some x → ¬ Typ w x := fun x e => own_typ h.own e (by decide)
  have all : ∀ q ∈ R ++ [r], Bts w q.ao q.c q.data ∧ ∀ ad, q.ao = some ad → Typ w ad.block := by
    intro q hq
    rcases List.mem_append.1 hq with h1 | h1
    · exact ⟨h.bts q h1, h.typ q h1⟩
    · rw [List.mem_singleton.1 h1]; exact ⟨hb, ht⟩
  refine ⟨by simpa using ho, fun q hq => ?_, fun q hq ad e => ?_⟩
  · exact (all q hq).1.kept g (fun x e ad e2 e3 => ne x e (by rw [← e3]; exact (all q hq).2 ad e2))
  · exact ((all q hq).2 ad e).kept g (fun e2 => ne _ e2.symm ((all q hq).2 ad e))
theorem Objs.open {w : World} {base : Nat} {v : Value} {R : List ObjR} (h : Objs w base v R) : ∃ ao c, v = .slice ao R.length c ∧ ∀ i (hi : i < R.length), ∃ b o, ao = some ⟨b, o, Option.none⟩ ∧ w.cell? ⟨b, o + i * 2, Option.none⟩ = some (.int .i64 (R[i].kind : Int)) ∧ w.cell? ⟨b, o + i * 2 + 1, Option.none⟩ = some (.slice R[i].ao R[i].data.length R[i].c) := by
  obtain ⟨ao, c, h1, h2, h3, h4, h5, h6⟩ := own_rows obC 2 h.own (fun _ _ => rfl)
  refine ⟨ao, c, h1, fun i hi => ?_⟩
  cases ao with
  | none => have := (h2 rfl).1; omega
  | some ad =>
    obtain ⟨b, o, sp⟩ := ad
    have hs : sp = Option.none := (h5 _ rfl).1
    subst hs
    have hr := h6 _ rfl i hi
    exact ⟨b, o, rfl, hr 0 _ rfl, hr 1 _ rfl⟩

theorem neq_idx (w : World) (xs : List UInt8) (hx : xs.length = 32) : (binOp .neq 24 (.agg (xs.map bv).toArray) (.agg (xs.map bv).toArray)).run Tryd.prog w = .ok (.bool false) w := by
  have h : (Op.equalIn 10000 24 (.agg (xs.map bv).toArray) (.agg (xs.map bv).toArray)).run Tryd.prog w = .ok (xs == xs) w := run_equalIn_bytes w 9998 24 5 32 Tryd.underlying24 Tryd.underlying5 size_byte xs xs hx hx
  rw [run_neq_struct, h]
  simp
theorem guard_idx : Tryd.prog.eqGuardType Tryd.prog.depth 24 = false := by kernel_rfl
theorem wp_ne {P : Program} {op : Oper} {a : Act} {w : World} {K : Act → World → Prop} {Q : Exit → Act → World → Prop} (t t' : TypeId) (x y : Operand) (ho : op.op = .binOp .neq t x y t') (X Z : Array Value) (r : Bool)
    (hx : a.eval x = .agg X) (hy : a.eval y = .agg Z) (hm : P.eqGuardType P.depth t = false) (hq : ∀ w : World, (binOp .neq t (.agg X) (.agg Z)).run P w = .ok (.bool r) w) (h : K (a.put op.dst (.bool r)) w) : op.wp P a w K Q := by
  unfold Oper.wp execOp
  simp only [ho, hx, hy, Sem.run_bind, run_eqGuard_agg w .neq t x y X Z hm, hq, Result.andThen_ok]
  exact h

/-- Objects of kinds that rise, up to k; each is well made. -/
def Okl (k : Nat) (R : List ObjR) : Prop := R.Pairwise (fun x y => x.kind < y.kind) ∧ (∀ r ∈ R, 1 ≤ r.kind ∧ r.kind ≤ k ∧ checkL (r.kind : Int) r.data = 0 ∧ r.data.length ≤ 16384) ∧ R.length ≤ k
theorem Okl.nil (k : Nat) : Okl k [] := ⟨List.Pairwise.nil, (fun _ e => by cases e), Nat.zero_le _⟩
theorem Okl.up {k : Nat} {R : List ObjR} (h : Okl k R) : Okl (k + 1) R := ⟨h.1, fun r hr => by obtain ⟨a, b, c⟩ := h.2.1 r hr; exact ⟨a, by omega, c⟩, by have := h.2.2; omega⟩
theorem Okl.put {k : Nat} {R : List ObjR} (h : Okl k R) (r : ObjR) (hk : r.kind = k + 1) (hc : checkL (r.kind : Int) r.data = 0) (hd : r.data.length ≤ 16384) : Okl (k + 1) (R ++ [r]) := by
  refine ⟨List.pairwise_append.2 ⟨h.1, List.pairwise_singleton _ _, fun x hx y hy => ?_⟩, fun q hq => ?_, by have := h.2.2; simp; omega⟩
  · rw [List.mem_singleton.1 hy]; have := (h.2.1 x hx).2.1; omega
  · rcases List.mem_append.1 hq with h1 | h1
    · exact h.up.2.1 q h1
    · rw [List.mem_singleton.1 h1]; exact ⟨by omega, by omega, hc, hd⟩
theorem Okl.lt {k : Nat} {R : List ObjR} (h : Okl k R) {i j : Nat} (hi : i < j) (hj : j < R.length) : R[i].kind < R[j].kind := List.pairwise_iff_getElem.1 h.1 i j (by omega) hj hi

end Go.Proofs.YtcemdlcimhoeeaaDoor

/- The law package's one answers true: a blob that is known. No condition. -/
namespace Go.Proofs.YtcemdlcimhoeeaaDoor
open Go.RowKit

theorem put_ab : putL 1 [97, 98] = [1, 0, 0, 0, 2, 97, 98] := by decide
theorem rd_ab : rdL [1, 0, 0, 0, 2, 97, 98] = (0, 1, [97, 98]) := by decide

set_option maxRecDepth 100000 in
set_option maxHeartbeats 2000000 in
theorem oone_any (w : World) : Calls Tryd.prog 19 #[] w fun e w' => e = .returned (.bool true) ∧ w.grownBy w' none := by
  have hW1 : ∃ W1, W1 = w.alloc (.cells #[.int .u8 97, .int .u8 98] 5 (2, 3)) ∧ Bts W1 (some ⟨w.heap.size, 0, none⟩) 2 [97, 98] ∧ w.grownBy W1 none := by
    refine ⟨_, rfl, ⟨(fun e => by cases e), by decide, by decide, (fun ad e _ => by cases e; rfl), (fun ad e i hi => ?_)⟩, gb_alloc (gb_refl _ _) _⟩
    cases e
    have hh := heap_alloc_new w (.cells #[.int .u8 97, .int .u8 98] 5 (2, 3))
    match i, hi with
    | 0, _ => unfold World.cell?; rw [hh]; rfl
    | 1, _ => unfold World.cell?; rw [hh]; rfl
  have kc := fun (w : World) (C : Array Value) (n c : Nat) => Lib.run_convert_bytes_const (P := Tryd.prog) w 32 5 C n c Tryd.underlying32 Tryd.underlying5
  obtain ⟨W1, hW1, hb1, g1⟩ := hW1
  have cp := oput_any W1 1 _ 2 [97, 98] hb1 (by decide)
  rw [put_ab] at cp
  have HW1 := hide hW1
  have kc1 := kc w #[.int .u8 97, .int .u8 98] 2 2
  clear hW1 hb1 kc
  go_enter Tryd.func19, Tryd.ntmps19
  go_wp2_with (rw [← unhide HW1])
  refine cp.mono ?_
  rintro e w2 ⟨v2, rfl, ⟨a2, c2, rfl, hb2, _⟩, g2⟩
  have cr := oread_any w2 a2 c2 _ hb2 (by decide)
  rw [rd_ab] at cr
  have cv2 := conv_str hb2
  have G2 := tn g1 g2
  clear cp kc1
  go_wp2_with fail
  refine cr.mono ?_
  rintro e w3 ⟨v3, y, kk, rfl, hy, hkk, ⟨a3, c3, rfl, hb3, _⟩, g3⟩
  have hy0 : y = 0 := hy
  have hk1 : kk = 1 := hkk
  clear hy hkk
  subst hy0 hk1
  have hb2' := hb2.kept g3 (fun _ e => by cases e)
  obtain ⟨W4, hW4, hB4, g4⟩ : ∃ W1, W1 = w3.alloc (.cells #[.int .i64 1, .slice a3 2 c3] 34) ∧ Blk W1 w3.heap.size 34 [.int .i64 1, .slice a3 2 c3] ∧ w3.grownBy W1 none := box_new w3 _ _
  have cv4 := conv_str (hb2'.kept g4 (fun _ e => by cases e))
  have cv5 := conv_str (hb3.kept g4 (fun _ e => by cases e))
  rw [show str [1, 0, 0, 0, 2, 97, 98] = ⟨#[1, 0, 0, 0, 2, 97, 98]⟩ from rfl] at cv4
  rw [show str [97, 98] = ⟨#[97, 98]⟩ from rfl] at cv5
  simp only [List.length_cons, List.length_nil, Nat.zero_add, Nat.reduceAdd] at cv4 cv5
  have c0 := hB4.cell 0
  have c1 := hB4.cell 1
  simp only [List.getElem?_cons_zero, List.getElem?_cons_succ] at c0 c1
  have G4 := tn (tn G2 g3) g4
  have HW4 := hide hW4
  clear cr cv2 hb2 hb2' hb3 hB4 hW4 g4 g3 g2 g1 G2
  go_wp2_with (rw [← unhide HW4])
  go_ret
  exact ⟨rfl, G4⟩

end Go.Proofs.YtcemdlcimhoeeaaDoor

/- Two structs held against each other in a drawn region ('!='). No condition but those that the lemma names. -/
namespace Go.Proofs.YtcemdlcimhoeeaaDoor
open Go.RowKit

theorem yieldsIf_ne {P : Program} {ops : Array Oper} {S : World → Prop} {op : Oper} {a : Act} (hw : Region.wanted op (yielded ops a.tmps) = true) (t t' : TypeId) (x y : Operand) (ho : op.op = .binOp .neq t x y t') (X Z : Array Value) (r : Bool)
    (hx : a.eval x = .agg X) (hy : a.eval y = .agg Z) (hm : P.eqGuardType P.depth t = false) (hq : ∀ w : World, (binOp .neq t (.agg X) (.agg Z)).run P w = .ok (.bool r) w) : YieldsIf P ops S op (.bool r) a :=
  .inl ⟨hw, fun w _ => by
    unfold execOp
    simp only [ho, hx, hy, Sem.run_bind, run_eqGuard_agg w .neq t x y X Z hm, hq, Result.andThen_ok]
    rfl⟩

end Go.Proofs.YtcemdlcimhoeeaaDoor
