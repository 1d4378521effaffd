/- What slices.DeleteFunc answers and leaves: a row of names of the call's own, and met.has as the question. -/
import Derived.Test.YtlifmipnoeioaaaGreatDoorGCloN
import Derived.Test.YtlifmipnoeioaaaGreatDoorGPop
import Derived.Test.YtlifmipnoeioaaaGreatDoorGGet
namespace Go.Proofs.YtlifmipnoeioaaaGreatDoor
open Go.RowKit

theorem slice_from32 (W : World) (t : TypeId) (ht : Tryz.prog.underlying t = some (.slice 33)) (g n c k : Nat) (hk : k ≤ n) :
    ∃ o, (Instr.slice t (.slice (some ⟨g, 0, none⟩) n c) (some (.int .i64 (k : Int))) none none).run Tryz.prog W = .ok (.slice (some ⟨g, o, none⟩) (n - k) (c - k)) W ∧ (k < n → n ≤ c → o = k * 32) := by
  have ht' : Tryz.prog.underlying t = some (.slice (Tryz.prog.elem t)) := by simp [Program.elem, ht]
  have he : Tryz.prog.elem t = 33 := by simp [Program.elem, ht]
  rw [run_slice_l W t _ _ _ ht' .i64 _ (by omega) (by omega), he, size_id]
  by_cases hck : c = k
  · exact ⟨0, by simp [Result.andThen, sliced, hck], fun h1 h2 => by omega⟩
  · exact ⟨k * 32, by simp [Result.andThen, sliced, hck, Addr.add]; omega, fun _ _ => rfl⟩

theorem clear_ids (w : World) (t : TypeId) (ht : Tryz.prog.underlying t = some (.slice 33)) (b o n c : Nat) (hth : w.there b o (n * 32)) :
    ∃ CS : List Value, CS.length = n * 32 ∧ ∀ ty, (Builtin.clear_ #[t] ty #[.slice (some ⟨b, o, none⟩) n c]).run Tryz.prog w = .ok (.tuple #[]) (w.setCells b o CS) := by
  cases n with
  | zero =>
    refine ⟨[], by simp, fun ty => ?_⟩
    simp [Builtin.clear_, run_underlying ht, World.setCells]
  | succ n =>
    obtain ⟨ZB, hZB⟩ : ∃ ZB, ZB = (zero32.map bv).toArray := ⟨_, rfl⟩
    have hzs : ZB.size = 32 := by rw [hZB]; rfl
    have hzv : ∀ w, (zeroValue 33).run Tryz.prog w = .ok (.agg ZB) w := fun w => by rw [hZB]; exact zid_run w
    have hz1 : ∀ v ∈ ZB, v.oneCell' = true := by rw [hZB]; intro v hv; exact bv_one _ v (by simpa using hv)
    obtain ⟨CS, hCS⟩ : ∃ CS, CS = (Builtin.zeroCells ZB (n + 1)).toList := ⟨_, rfl⟩
    have hl : CS.length = (n + 1) * 32 := by rw [hCS]; simp [Builtin.zeroCells, hzs]
    have h1 : ∀ v ∈ CS, v.oneCell' = true := by
      intro v hv
      rw [hCS] at hv
      simp only [Builtin.zeroCells, Array.toList_map, List.mem_map] at hv
      obtain ⟨i, _, rfl⟩ := hv
      have hlt : i % ZB.size < ZB.size := Nat.mod_lt _ (by omega)
      rw [getElem!_pos ZB _ hlt]
      exact hz1 _ (Array.getElem_mem hlt)
    have hst := run_storeCells_cells (P := Tryz.prog) b o CS 0 w (fun j hj => (by simpa using (hth j (by omega)).1)) (fun j hj => (by simpa using (hth j (by omega)).2)) h1
    simp only [Nat.add_zero] at hst
    refine ⟨CS, hl, fun ty => ?_⟩
    simp [Builtin.clear_, run_underlying ht, hzv, Value.cells, ← hCS, hst]

/-- The row on its way: a names are kept ahead, b were gone over. -/
structure DelI (w : World) (base g cap : Nat) (q : List UInt8 → Bool) (ps R : List (List UInt8)) (a b : Nat) (wr : World) : Prop where
  len : R.length = ps.length
  ab : a ≤ b
  low : R.take a = (ps.take b).filter q
  high : R.drop b = ps.drop b
  ids : ∀ x ∈ R, x.length = 32
  own : wr.ownsRow base 33 32 (.slice (some ⟨g, 0, none⟩) R.length cap) R.length (R.flatMap (·.map bv))
  grew : w.grownBy wr (some g)

theorem DelI.at {w : World} {base g cap : Nat} {q : List UInt8 → Bool} {ps R : List (List UInt8)} {a b : Nat} {wr : World} (h : DelI w base g cap q ps R a b wr) (hb : b < ps.length) : ∃ E, ps[b]? = some E ∧ R[b]? = some E ∧ E.length = 32 ∧ wr.rangeAt g (b * 32) (E.map bv) ∧ ps.take (b + 1) = ps.take b ++ [E] := by
  have hbR : b < R.length := by rw [h.len]; exact hb
  have e1 : R[b] = ps[b] := by
    have := congrArg (fun l => l[0]?) h.high
    simpa [hb, hbR] using this
  obtain ⟨ao, c, hv, hI⟩ := Ids.own h.own h.ids
  cases hv
  have hr := hI.row _ rfl b hbR
  rw [e1] at hr
  have hm := h.ids _ (List.getElem_mem hbR)
  rw [e1] at hm
  refine ⟨ps[b], by simp, by simp [hbR, e1], hm, by simpa using hr, ?_⟩
  exact List.take_succ_eq_append_getElem hb

theorem DelI.skip {w : World} {base g cap : Nat} {q : List UInt8 → Bool} {ps R : List (List UInt8)} {a b : Nat} {wr V : World} {E : List UInt8} (h : DelI w base g cap q ps R a b wr) (hE : ps.take (b + 1) = ps.take b ++ [E]) (hq : q E = false) (gV : wr.grownBy V none) : DelI w base g cap q ps R a (b + 1) V :=
  ⟨h.len, Nat.le_succ_of_le h.ab, by rw [h.low, hE, List.filter_append]; simp [hq], by
    have := congrArg (List.drop 1) h.high
    simpa [Nat.add_comm] using this, h.ids, h.own.kept gV (by simp [Value.ownBlock]), gb_trans h.grew gV (fun _ e => by cases e)⟩

theorem DelI.keep {w : World} {base g cap : Nat} {q : List UInt8 → Bool} {ps R : List (List UInt8)} {a b : Nat} {wr V : World} {E : List UInt8} (h : DelI w base g cap q ps R a b wr) (hb : b < ps.length) (hE : ps.take (b + 1) = ps.take b ++ [E]) (hEl : E.length = 32) (hq : q E = true) (gV : wr.grownBy V none) :
    DelI w base g cap q ps (R.set a E) (a + 1) (b + 1) (V.setCells g (a * 32) (E.map bv)) ∧ V.there g (a * 32) 32 := by
  have haR : a < R.length := by have := h.ab; have := h.len; omega
  have ho := h.own.kept gV (by simp [Value.ownBlock])
  have hf : ∀ x ∈ R, (x.map bv).length = 32 := fun x hx => by rw [List.length_map]; exact h.ids x hx
  obtain ⟨o1, g1⟩ := own_setAt (fun x : List UInt8 => x.map bv) 32 ho hf a haR E (by simp [hEl])
  have hl1 : (R.set a E).length = R.length := List.length_set ..
  refine ⟨⟨by rw [hl1]; exact h.len, Nat.succ_le_succ h.ab, ?_, ?_, ?_, by rw [hl1]; exact o1, ?_⟩, own_thereAt (fun x : List UInt8 => x.map bv) 32 ho hf a haR⟩
  · rw [hE, List.filter_append, ← h.low, List.take_succ_eq_append_getElem (by rw [hl1]; exact haR), List.take_set_of_le (Nat.le_refl _)]
    simp [hq]
  · have := congrArg (List.drop 1) h.high
    rw [List.drop_set_of_lt (by have := h.ab; omega)]
    simpa [Nat.add_comm] using this
  · intro x hx
    rcases List.mem_or_eq_of_mem_set hx with hx | rfl
    · exact h.ids x hx
    · exact hEl
  · exact gb_trans (gb_trans h.grew gV (fun _ e => by cases e)) g1 (fun _ e => Or.inr e)

theorem DelI.done {w : World} {base g cap : Nat} {q : List UInt8 → Bool} {ps R : List (List UInt8)} {a : Nat} {wr : World} (h : DelI w base g cap q ps R a ps.length wr) (o : Nat) (ho : a < ps.length → o = a * 32) (CS : List Value) (hCS : CS.length = (ps.length - a) * 32) :
    (a ≤ cap) ∧ (a < ps.length → wr.there g o ((ps.length - a) * 32)) ∧ (wr.setCells g o CS).ownsRow base 33 32 (.slice (some ⟨g, 0, none⟩) a cap) a ((ps.filter q).flatMap (·.map bv)) ∧ w.grownBy (wr.setCells g o CS) (some g) ∧ (ps.filter q).length = a := by
  obtain ⟨sp, hB, hl, h1, h2, hg⟩ := own_blkof h.own
  have hlow : R.take a = ps.filter q := by rw [h.low, List.take_of_length_le (Nat.le_refl _)]
  have hab := h.ab
  have hlen := h.len
  have hfl : (ps.filter q).length = a := by rw [← hlow, List.length_take, hlen]; omega
  have hf : ∀ x ∈ R, (x.map bv).length = 32 := fun x hx => by rw [List.length_map]; exact h.ids x hx
  have hA : ((R.take a).flatMap (·.map bv)).length = a * 32 := by
    rw [flat_len2 _ 32 _ (fun x hx => hf x (List.mem_of_mem_take hx)), List.length_take]; congr 1; omega
  have hC : ((R.drop a).flatMap (·.map bv)).length = (ps.length - a) * 32 := by
    rw [flat_len2 _ 32 _ (fun x hx => hf x (List.mem_of_mem_drop hx)), List.length_drop, hlen]
  have hsplit : R.flatMap (·.map bv) = (R.take a).flatMap (·.map bv) ++ (R.drop a).flatMap (·.map bv) := by
    rw [← List.flatMap_append, List.take_append_drop]
  rw [hsplit] at hB hl
  refine ⟨by omega, fun hlt => ?_, ?_, gb_setCells (Or.inr rfl) _ _ h.grew, hfl⟩
  · rw [ho hlt]
    intro j hj
    exact hB.there (a * 32) ((ps.length - a) * 32) (by simp only [List.length_append, hA, hC]; omega) j hj
  · by_cases hlt : a < ps.length
    · have hS := Blk.setCells CS ((R.drop a).flatMap (·.map bv)) (A := (R.take a).flatMap (·.map bv)) (C := sp) (by simpa using hB) (by rw [hC, hCS])
      rw [hA, ← ho hlt] at hS
      rw [← hlow]
      exact blk_ownof hS hA (by rw [← hl]; simp only [List.length_append, hC, hCS]; omega) (by omega) h2 hg
    · have e9 : ps.length - a = 0 := by omega
      have e0 : CS = [] := List.length_eq_zero_iff.1 (by rw [hCS, e9])
      have e1 : R.drop a = [] := List.drop_eq_nil_of_le (by omega)
      rw [e0]
      rw [e1] at hB hl
      rw [← hlow]
      exact blk_ownof (sp := sp) (by simpa [World.setCells] using hB) hA (by simpa using hl) (by omega) h2 hg

set_option maxRecDepth 100000 in
set_option maxHeartbeats 4000000 in
theorem del_any (w : World) (base m : Nat) (K : List (List UInt8)) (h : MapAt w m (metK K)) (v : Value) (ps : List (List UInt8)) (ho : w.ownsRow base 33 32 v ps.length (ps.flatMap (·.map bv))) (hi : ∀ x ∈ ps, x.length = 32) (hl : ps.length ≤ 100000) :
    Calls Tryz.prog 48 #[v, .func (.func 49) #[.map (some m)] #[]] w fun e w' => ∃ v', e = .returned v' ∧ w'.ownsRow base 33 32 v' (ps.filter fun x => !K.contains x).length ((ps.filter fun x => !K.contains x).flatMap (·.map bv)) ∧ w.grownBy w' v.ownBlock := by
  have hmv := h.own ho
  obtain ⟨ao, c, rfl, hI⟩ := Ids.own ho hi
  have ci := idx_any w m K h ao c ps hI hl
  have eg := enter_has
  obtain ⟨Z, hZ, hzv⟩ := zero_id
  obtain ⟨q, hq⟩ : ∃ q : List UInt8 → Bool, q = fun x => !K.contains x := ⟨_, rfl⟩
  have hq' : ∀ x, q x = !K.contains x := fun x => by rw [hq]
  rw [← hq]
  obtain ⟨n, hn⟩ : ∃ n, n = ps.length := ⟨_, rfl⟩
  rw [← hn] at ci ho hmv hl
  rw [← hn]
  have HN := hide hn
  have HO := hide ho
  have HM := hide h
  have HI := hide hi
  have HMV := hide hmv
  have HZ := hide hZ
  have HQ := hide hq'
  clear hn ho h hi hmv hZ hI hq hq'
  go_enter Tryz.func48, Tryz.ntmps48
  go_wp2_with fail
  refine ci.mono ?_
  rintro e w1 ⟨r, rfl, g1, ⟨rfl, hall⟩ | ⟨A, E0, B, hps, rfl, hE0, hA0⟩⟩
  · have hfil : ps.filter q = ps := List.filter_eq_self.2 fun x hx => by rw [unhide HQ, hall x hx]; rfl
    have HF := hide hfil
    have HG := hide g1
    clear hall hfil g1 ci
    go_wp2
    go_ret
    refine ⟨_, rfl, ?_, gb_none _ (unhide HG)⟩
    rw [unhide HF, ← unhide HN]
    exact (unhide HO).kept (unhide HG) (Classical.em _)
  · have hlt0 : A.length < n := by rw [unhide HN, hps]; simp
    obtain ⟨g, cap, hao⟩ : ∃ g cap, Value.slice ao n c = .slice (some ⟨g, 0, none⟩) n cap := by
      rcases (unhide HO).2 with ⟨h1, h2⟩ | ⟨g', cap', cur, hv, _⟩
      · injection h1 with h3 h4 h5
        omega
      · exact ⟨g', cap', hv⟩
    injection hao with e1 e2 e3
    subst e1
    subst e3
    have hst : DelI w base g c q ps ps A.length (A.length + 1) w1 := by
      refine ⟨rfl, Nat.le_succ _, ?_, rfl, unhide HI, ?_, gb_none _ g1⟩
      · rw [hps]
        have e3 : List.take (A.length + 1) (A ++ E0 :: B) = A ++ [E0] := by rw [show A ++ E0 :: B = (A ++ [E0]) ++ B by simp]; exact List.take_left' (by simp)
        rw [e3, List.take_left', List.filter_append, List.filter_eq_self.2 (fun x hx => by rw [unhide HQ, hA0 x hx]; rfl)]
        · have hqE : q E0 = false := by rw [unhide HQ, hE0]; rfl
          simp [hqE]
        · rfl
      · rw [← unhide HN]
        exact (unhide HO).kept g1 (Classical.em _)
    have HST := hide hst
    have hmg : m ≠ g := fun e => unhide HMV (by rw [e]; rfl)
    have HMG := hide hmg
    have ha1 : IntKind.i64.wrap ((A.length : Int) + 1) = (A.length : Int) + 1 := by rw [IntKind.wrap_i64]; omega
    have hne : decide ((A.length : Int) = -1) = false := decide_eq_false (by omega)
    obtain ⟨a0, ha0⟩ : ∃ a, a = A.length := ⟨_, rfl⟩
    rw [← ha0] at ha1 hne HST hlt0
    rw [← ha0]
    clear ha0 hst hmg hps hE0 hA0 ci g1 HO HI HMV
    go_wp2_with fail
    go_loopw [5, 6] (fun i k wr => ∃ (a b : Nat) (R : List (List UInt8)), i = .int .i64 a ∧ k = .int .i64 b ∧ b ≤ n ∧ Hid (DelI w base g c q ps R a b wr)) (fun _ k _ => n - (intOf k).toNat)
    case atStart => exact ⟨a0, a0 + 1, ps, rfl, by go_num, hlt0, HST⟩
    case round =>
      obtain ⟨a, b, R, rfl, rfl, hb, HD⟩ := hrel
      by_cases hlt : b < n
      · have hlt' : b < ps.length := by have := unhide HN; omega
        obtain ⟨E, he1, he2, hid, hr, htk⟩ := (unhide HD).at hlt'
        have hab : a < n := by have := (unhide HD).ab; omega
        obtain ⟨EB, hEB⟩ : ∃ EB, EB = E.map bv := ⟨_, rfl⟩
        have hkv : keyV E = .agg EB.toArray := by rw [hEB]; rfl
        rw [← hEB] at hr
        have hEl : EB.length = 32 := by rw [hEB]; simp [hid]
        have hEo : EB.toArray.all (·.oneCell') = true := by rw [hEB]; exact all_oneCell_toArray (bv_one _)
        have hiE : (Tryz.prog.info? 33).map (·.size) = some EB.length := by rw [hEl]; exact info_id
        have hiE2 : (Tryz.prog.info? 33).map (·.size) = some EB.toArray.size := by simpa using hiE
        have hZE : Z.toList.toArray.size = EB.toArray.size := by have := unhide HZ; simp [this, hEl]
        obtain ⟨W5, hW5, hB5, g5⟩ := row_new wr 33 Z EB
        have hBZ : Blk (wr.alloc (.cells Z 33)) wr.heap.size 33 Z.toList := by simpa using Blk.new wr 33 Z.toList
        have hr5 := blk_all hB5
        have hr5' := hr5
        have ch := has_any W5 m K (((unhide HM).kept (unhide HD).grew (by have := unhide HMG; simpa using this)).none g5) E hid
        rw [hkv] at ch
        have hjw : IntKind.i64.wrap ((b : Int) + 1) = (b : Int) + 1 := by rw [IntKind.wrap_i64]; omega
        have haw : IntKind.i64.wrap ((a : Int) + 1) = (a : Int) + 1 := by rw [IntKind.wrap_i64]; omega
        have hs5 : W5.heap.size = wr.heap.size + 1 := by rw [hW5]; simp
        obtain ⟨y, hy⟩ : ∃ y, y = K.contains E := ⟨_, rfl⟩
        rw [← hy] at ch
        have hqE : q E = !y := by rw [unhide HQ, hy]
        have HQE := hide hqE
        have HTK := hide htk
        have HID := hide hid
        have HIE := hide hiE
        have HIE2 := hide hiE2
        have HZE := hide hZE
        have HEO := hide hEo
        have HEB := hide hEB
        have HEL := hide hEl
        have HBZ := hide hBZ
        have HW5 := hide hW5
        have HG5 := hide g5
        have HR5 := hide hr5'
        clear hEB hEl hEo hiE hiE2 hZE hBZ hW5 hB5 hkv he1 he2 hid htk hqE hy g5 hr5' hs5
        cases y
        · go_wp2_with (first
          | (refine wpList_load_mid rfl 33 _ rfl g (b * 32) rfl EB _ hr Tryz.underlying33 rfl (unhide HIE) ?_; clear hr)
          | (have hB9 := unhide HBZ; refine wpList_store_row rfl 33 _ _ rfl wr.heap.size EB.toArray rfl rfl _ _ hB9 (unhide HIE2) (unhide HZE) (unhide HEO) ?_; clear hB9; rw [← unhide HW5])
          | (refine wpList_load_mid rfl 33 _ rfl wr.heap.size 0 rfl EB _ hr5 Tryz.underlying33 rfl (unhide HIE) ?_; clear hr5)
          | (go_at_call 49; refine ch.mono ?_; rintro e w6 ⟨rfl, g6⟩; have hr6 := range_kept (unhide HR5) g6 (by simp); obtain ⟨kp, kt⟩ := (unhide HD).keep hlt' (unhide HTK) (unhide HID) (unhide HQE) (tn (unhide HG5) g6); rw [← unhide HEB] at kp; have HKP := hide kp; have HKT : Hid (w6.there g (a * 32) EB.toArray.size) := (by rw [show EB.toArray.size = 32 by simpa using unhide HEL]; exact kt); clear ch g6 kp kt)
          | (refine wpList_load_mid rfl 33 _ rfl wr.heap.size 0 rfl EB _ hr6 Tryz.underlying33 rfl (unhide HIE) ?_; clear hr6)
          | (refine wpList_store_mid rfl 33 _ _ rfl g (a * 32) EB.toArray rfl rfl (unhide HKT) (unhide HIE2) (unhide HEO) ?_))
          go_roundw
          case rel =>
            refine ⟨_, _, _, _, _, _, _, _, _, _, _, _, _, _, _, _, _, _, _, _, _, _, _, ?_, rfl⟩
            exact ⟨a + 1, b + 1, R.set a E, by go_num, by go_num, by omega, by simpa using HKP⟩
          case measure => simp [intOf]; omega
        · go_wp2_with (first
          | (refine wpList_load_mid rfl 33 _ rfl g (b * 32) rfl EB _ hr Tryz.underlying33 rfl (unhide HIE) ?_; clear hr)
          | (have hB9 := unhide HBZ; refine wpList_store_row rfl 33 _ _ rfl wr.heap.size EB.toArray rfl rfl _ _ hB9 (unhide HIE2) (unhide HZE) (unhide HEO) ?_; clear hB9; rw [← unhide HW5])
          | (refine wpList_load_mid rfl 33 _ rfl wr.heap.size 0 rfl EB _ hr5 Tryz.underlying33 rfl (unhide HIE) ?_; clear hr5)
          | (go_at_call 49; refine ch.mono ?_; rintro e w6 ⟨rfl, g6⟩; have HKP := hide ((unhide HD).skip (unhide HTK) (unhide HQE) (tn (unhide HG5) g6)); clear ch g6))
          go_roundw
          case rel =>
            refine ⟨_, _, _, _, _, _, _, _, _, _, _, _, _, _, _, _, _, _, _, _, _, _, _, ?_, rfl⟩
            exact ⟨a, b + 1, R, rfl, by go_num, by omega, HKP⟩
          case measure => simp [intOf]; omega
      · have hbn : b = ps.length := by have := unhide HN; omega
        subst hbn
        have hab := (unhide HD).ab
        have hcap : n ≤ c := by
          obtain ⟨_, _, _, h1, _⟩ := own_blkof (unhide HD).own
          rw [(unhide HD).len] at h1
          have := unhide HN
          omega
        obtain ⟨o, hs, hso⟩ := slice_from32 wr 29 Tryz.underlying29 g n c a (by have := unhide HN; omega)
        have hso' : a < ps.length → o = a * 32 := fun hx => hso (by have := unhide HN; omega) hcap
        have hth : wr.there g o ((n - a) * 32) := by
          by_cases hx : a < ps.length
          · rw [unhide HN]
            exact ((unhide HD).done o hso' (List.replicate ((ps.length - a) * 32) undef) (by simp)).2.1 hx
          · have e9 : n - a = 0 := by have := unhide HN; omega
            rw [e9]
            intro j hj
            omega
        obtain ⟨CS, hCl, hcl⟩ := clear_ids wr 29 Tryz.underlying29 g o (n - a) (c - a) hth
        have hd := (unhide HD).done o hso' CS (by rw [← unhide HN]; exact hCl)
        have hs2 : ∀ W, (Instr.slice 29 (.slice (some ⟨g, 0, none⟩) n c) none (some (.int .i64 (a : Int))) none).run Tryz.prog W = .ok (.slice (some ⟨g, 0, none⟩) a c) W := fun W => slice_to32 W _ Tryz.underlying29 _ _ _ _ hd.1
        have HF := hide hd.2.2
        have hbn : ps.length = n := (unhide HN).symm
        clear hd hth hCl hso hso' HD
        rw [hbn] at hb hlt ⊢
        clear hbn
        go_wp2
        go_ret
        refine ⟨_, rfl, ?_, (unhide HF).2.1⟩
        rw [(unhide HF).2.2]
        exact (unhide HF).1

end Go.Proofs.YtlifmipnoeioaaaGreatDoor
