/- What Seal and Open of box answer, in both modes: THE CONTRACTS OF LAYER 8. Of texts of at most 1000 bytes, with at most 1000 beside them; sealed ones of at most 1500. -/
import Derived.Test.YtjckdgapefaokaaDoorBReal
import Derived.Test.YtjckdgapefaokaaDoorBOne
import Derived.Test.YtjckdgapefaokaaDoorBActs
namespace Go.Proofs.YtjckdgapefaokaaDoor
open Go.RowKit

theorem built_own (k : List UInt8) (sb : ByteArray) (h : k.length = 32) : Tryd.prog.built 81 [(0, .agg (k.map bv).toArray), (1, .string sb)] = some (k.map bv ++ [Value.string sb]).toArray := by
  obtain ⟨a0, a1, a2, a3, a4, a5, a6, a7, a8, a9, a10, a11, a12, a13, a14, a15, a16, a17, a18, a19, a20, a21, a22, a23, a24, a25, a26, a27, a28, a29, a30, a31, rfl⟩ := list32 k h
  kernel_rfl
theorem built_cont (k : List UInt8) (sb st : ByteArray) (h : k.length = 32) : Tryd.prog.built 83 [(0, .agg (k.map bv ++ [Value.string sb]).toArray), (1, .string st)] = some (k.map bv ++ [Value.string sb, Value.string st]).toArray := by
  obtain ⟨a0, a1, a2, a3, a4, a5, a6, a7, a8, a9, a10, a11, a12, a13, a14, a15, a16, a17, a18, a19, a20, a21, a22, a23, a24, a25, a26, a27, a28, a29, a30, a31, rfl⟩ := list32 k h
  kernel_rfl

/-- Bytes that a box's doing leaves. -/
def Stays (w : World) (bb bs bm : Nat) (ao : Option Addr) (c : Nat) (l : List UInt8) : Prop := ∀ V, By3 w V bb bs bm → Bts V ao c l
theorem Stays.old {u w : World} {bb bs bm : Nat} {B : BoxS} {ao : Option Addr} {c : Nat} {l : List UInt8} (h : Bts u ao c l) (hB : BoxAt u w bb bs bm B) (gu : u.grownBy w none) : Stays w bb bs bm ao c l := fun _ gV => h.old (by3_gb gu gV hB.nb hB.ns hB.nm)
theorem Stays.typ {u w : World} {bb bs bm : Nat} {B : BoxS} {ao : Option Addr} {c : Nat} {l : List UInt8} (h : BtT w ao c l) (hB : BoxAt u w bb bs bm B) : Stays w bb bs bm ao c l := fun _ gV => (h.box hB gV).bts
theorem Stays.nil (w : World) (bb bs bm : Nat) : Stays w bb bs bm none 0 [] := fun _ _ => Bts.nil _

set_option maxRecDepth 100000 in
set_option maxHeartbeats 2000000 in
theorem seal_any (u w : World) (bb bs bm : Nat) (B : BoxS) (k be tx : List UInt8) (bo xo : Option Addr) (cb cx : Nat) (h : BoxAt u w bb bs bm B) (gu : u.grownBy w none) (hT : Tabs u) (hC : CTab u) (hk : k.length = 32) (hb : Stays w bb bs bm bo cb be) (hx : Stays w bb bs bm xo cx tx)
    (hbe : be.length ≤ 1000) (ht : tx.length ≤ 1000) (hok : B.Ok) (hus : B.u ≤ 17592186044416) (hL : B.L.length ≤ 17592186044416) :
    Calls Tryd.prog 12 #[.pointer (some ⟨bb, 0, none⟩), .agg (k.map bv).toArray, .slice bo be.length cb, .slice xo tx.length cx] w (Sealed u w bb bs bm (B.seal k be tx)) := by
  have hi32 : (Tryd.prog.info? 37).map (·.size) = some (k.map bv).toArray.size := by rw [List.size_toArray, List.length_map, hk]; exact info_key
  obtain ⟨W1, hW1⟩ : ∃ W1, W1 = w.alloc (.cells (k.map bv).toArray 37) := ⟨_, rfl⟩
  have g1 : w.grownBy W1 none := by rw [hW1]; exact gb_alloc (gb_refl _ _) _
  have hK1 : Blk W1 w.heap.size 37 (k.map bv) := by rw [hW1]; exact Blk.new w _ _
  have h1 := h.none g1
  have gu1 := tn gu g1
  have b1 : By3 w W1 bb bs bm := (By3.refl w bb bs bm).none g1
  obtain ⟨hc0, hc1, _, _⟩ := h1.cell
  have c1 := made_at W1 bb ⟨bs, 0, none⟩ hc1
  have hbe' : ¬ (be.length : Int) > 65536 := by omega
  have htx' : ¬ (tx.length : Int) > 65536 := by omega
  have hbe2 : ¬ (65536 : Int) < (be.length : Int) := by omega
  have htx2 : ¬ (65536 : Int) < (tx.length : Int) := by omega
  have hb1 : ∀ V, By3 W1 V bb bs bm → Bts V bo cb be := fun V g => hb V (b1.trans g)
  have hx1 : ∀ V, By3 W1 V bb bs bm → Bts V xo cx tx := fun V g => hx V (b1.trans g)
  rcases hok.mode with hm | hm
  · have csr := sealReal_any u W1 bb bs bm B k be tx bo xo cb cx h1 gu1 hT hC hk hb1 hx1 hbe ht hok hm hus hL _ rfl
    obtain ⟨t, htt⟩ : ∃ t, t = told B.T B.u 12 ++ sealL k (told B.T B.u 12) be tx := ⟨_, rfl⟩
    rw [← htt] at csr
    have hR : B.seal k be tx = ({ B with u := B.u + 12, L := B.L ++ [⟨t, [], [], []⟩] }, some t) := by
      unfold BoxS.seal
      rw [if_pos hm, htt]
    rw [hR]
    rw [hm] at hc0
    obtain ⟨nb, hnb⟩ : ∃ n, n = be.length := ⟨_, rfl⟩
    obtain ⟨nx, hnx⟩ : ∃ n, n = tx.length := ⟨_, rfl⟩
    obtain ⟨KA, hKA⟩ : ∃ A : Array Value, A = (k.map bv).toArray := ⟨_, rfl⟩
    have hK2 : W1.heap[w.heap.size]? = some (.cells KA 37 (0, 0)) := by rw [hKA]; exact hK1
    rw [← hnb, ← hnx, ← hKA] at csr ⊢
    rw [← hnb] at hbe' hbe2
    rw [← hnx] at htx' htx2
    rw [← hKA] at hW1 hi32
    have hcz : W1.cell? ⟨bb, 0, none⟩ = some (.int .i64 0) := hc0
    have HW1 := hide hW1
    have HK := hide hK2
    have HI := hide hi32
    have B1 := hide b1
    clear hW1 g1 hK1 hK2 h1 gu1 b1 hb1 hx1 htt hR hc0 hc1 hm hnb hnx hKA hi32 h gu hT hC hk hb hx hbe ht hok hus hL
    go_enter Tryd.func12, Tryd.ntmps12
    go_upto_region 1 with fail
    rw [← unhide HW1]
    go_wp2_with (first
      | (go_at_call 27; refine c1.mono ?_; rintro e w2 ⟨rfl, e2⟩; subst w2; clear c1)
      | (refine wpList_load_row rfl 37 _ rfl w.heap.size rfl _ _ _ _ (unhide HK) Tryd.underlying37 rfl (unhide HI) ?_)
      | (go_at_call 28; refine csr.mono ?_; rintro e w3 ⟨ao, c, rfl, hs3, hB3, b3⟩; clear csr))
    go_ret2
    exact ⟨ao, c, rfl, hs3, hB3, (unhide B1).trans b3⟩
  · have csi := sealIdeal_any u W1 bb bs bm B k be tx h1 gu1 hT hk (hok.keys hm) (by omega) hus hL
    have hR : B.seal k be tx = B.tries k be tx 8 := by
      unfold BoxS.seal
      rw [if_neg (by omega)]
    rw [hR]
    rw [hm] at hc0
    have hcb := conv_str (hb1 W1 (By3.refl _ _ _ _))
    have hct := conv_str (hx1 W1 (By3.refl _ _ _ _))
    have hbo := built_own k (str be) hk
    have hbc := built_cont k (str be) (str tx) hk
    rw [show contV ⟨[], k, be, tx⟩ = .agg (k.map bv ++ [Value.string (str be), Value.string (str tx)]).toArray by unfold contV contC; rw [padK_full hk]] at csi
    obtain ⟨sb, hsb⟩ : ∃ s, s = str be := ⟨_, rfl⟩
    obtain ⟨st, hst⟩ : ∃ s, s = str tx := ⟨_, rfl⟩
    rw [← hsb] at hcb hbo
    rw [← hst] at hct
    rw [← hsb, ← hst] at hbc csi
    obtain ⟨OA, hOA⟩ : ∃ A : Array Value, A = (k.map bv ++ [Value.string sb]).toArray := ⟨_, rfl⟩
    obtain ⟨CA, hCA⟩ : ∃ A : Array Value, A = (k.map bv ++ [Value.string sb, Value.string st]).toArray := ⟨_, rfl⟩
    obtain ⟨KA, hKA⟩ : ∃ A : Array Value, A = (k.map bv).toArray := ⟨_, rfl⟩
    rw [← hOA] at hbo hbc
    rw [← hCA] at hbc csi
    obtain ⟨nb, hnb⟩ : ∃ n, n = be.length := ⟨_, rfl⟩
    obtain ⟨nx, hnx⟩ : ∃ n, n = tx.length := ⟨_, rfl⟩
    have hK2 : W1.heap[w.heap.size]? = some (.cells KA 37 (0, 0)) := by rw [hKA]; exact hK1
    rw [← hnb, ← hnx, ← hKA]
    rw [← hnb] at hbe' hcb hbe2
    rw [← hnx] at htx' hct htx2
    rw [← hKA] at hW1 hi32 hbo
    have hcz : W1.cell? ⟨bb, 0, none⟩ = some (.int .i64 1) := hc0
    obtain ⟨R, hRR⟩ : ∃ R, R = B.tries k be tx 8 := ⟨_, rfl⟩
    rw [← hRR] at csi ⊢
    have HW1 := hide hW1
    have HK := hide hK2
    have HI := hide hi32
    have B1 := hide b1
    have HBO := hide hbo
    have HBC := hide hbc
    clear hW1 g1 hK1 hK2 h1 gu1 b1 hb1 hx1 hR hRR hc0 hc1 hm hnb hnx hKA hi32 hbo hbc hOA hCA hsb hst h gu hT hC hk hb hx hbe ht hok hus hL
    go_enter Tryd.func12, Tryd.ntmps12
    go_upto_region 1 with fail
    rw [← unhide HW1]
    go_wp2_with (first
      | (go_at_call 27; refine c1.mono ?_; rintro e w2 ⟨rfl, e2⟩; subst w2; clear c1)
      | (refine wpList_load_row rfl 37 _ rfl w.heap.size rfl _ _ _ _ (unhide HK) Tryd.underlying37 rfl (unhide HI) ?_)
      | (refine wpList_built rfl 81 _ rfl OA ?hbo ?_)
      | (refine wpList_built rfl 83 _ rfl CA ?hbc ?_)
      | (go_at_call 29; refine csi.mono ?_; rintro e w3 ⟨ao, c, rfl, hs3, hB3, b3⟩; clear csi))
    case hbo => exact unhide HBO
    case hbc => exact unhide HBC
    go_ret2
    exact ⟨ao, c, rfl, hs3, hB3, (unhide B1).trans b3⟩

/-- What an Open answers. -/
def Opened (w : World) (o : Option (List UInt8)) (e : Ending) (w' : World) : Prop :=
  ∃ xo xc, e = .returned (.tuple #[.slice xo (txtO o).length xc, .bool o.isSome]) ∧ BtT w' xo xc (txtO o) ∧ w.grownBy w' none

set_option maxRecDepth 100000 in
set_option maxHeartbeats 2000000 in
theorem open_any (u w : World) (bb bs bm : Nat) (B : BoxS) (k be s : List UInt8) (bo so : Option Addr) (cb cs : Nat) (h : BoxAt u w bb bs bm B) (gu : u.grownBy w none) (hC : CTab u) (hk : k.length = 32) (hb : Bts w bo cb be) (hs : Bts w so cs s)
    (hbe : be.length ≤ 1000) (hsl : s.length ≤ 1500) (hok : B.Ok) (htx : ∀ x ∈ B.L, x.tx.length ≤ 2000) :
    Calls Tryd.prog 14 #[.pointer (some ⟨bb, 0, none⟩), .agg (k.map bv).toArray, .slice bo be.length cb, .slice so s.length cs] w (Opened w (B.opn k be s)) := by
  have hi32 : (Tryd.prog.info? 37).map (·.size) = some (k.map bv).toArray.size := by rw [List.size_toArray, List.length_map, hk]; exact info_key
  obtain ⟨W1, hW1⟩ : ∃ W1, W1 = w.alloc (.cells (k.map bv).toArray 37) := ⟨_, rfl⟩
  have g1 : w.grownBy W1 none := by rw [hW1]; exact gb_alloc (gb_refl _ _) _
  have hK1 : Blk W1 w.heap.size 37 (k.map bv) := by rw [hW1]; exact Blk.new w _ _
  have h1 := h.none g1
  have gu1 := tn gu g1
  obtain ⟨hc0, hc1, _, _⟩ := h1.cell
  have c1 := made_at W1 bb ⟨bs, 0, none⟩ hc1
  have hb1 : Bts W1 bo cb be := hb.kept g1 (fun _ e => by cases e)
  have hs1 : Bts W1 so cs s := hs.kept g1 (fun _ e => by cases e)
  rcases hok.mode with hm | hm
  · have cor := openReal_any W1 k be s bo so cb cs (hC.kept0 gu1) hk hb1 hs1 hbe hsl
    have hR : B.opn k be s = opnR k be s := by
      unfold BoxS.opn opnR
      rw [if_pos hm]
    rw [hR]
    rw [hm] at hc0
    obtain ⟨o, ho⟩ : ∃ o, o = opnR k be s := ⟨_, rfl⟩
    rw [← ho] at cor ⊢
    obtain ⟨nb, hnb⟩ : ∃ n, n = be.length := ⟨_, rfl⟩
    obtain ⟨nx, hnx⟩ : ∃ n, n = s.length := ⟨_, rfl⟩
    obtain ⟨KA, hKA⟩ : ∃ A : Array Value, A = (k.map bv).toArray := ⟨_, rfl⟩
    have hK2 : W1.heap[w.heap.size]? = some (.cells KA 37 (0, 0)) := by rw [hKA]; exact hK1
    rw [← hnb, ← hnx, ← hKA] at cor ⊢
    rw [← hKA] at hW1 hi32
    have hcz : W1.cell? ⟨bb, 0, none⟩ = some (.int .i64 0) := hc0
    have HW1 := hide hW1
    have HK := hide hK2
    have HI := hide hi32
    have G1 := hide g1
    clear hW1 g1 hK1 hK2 h1 gu1 hb1 hs1 hR ho hc0 hc1 hm hnb hnx hKA hi32 h gu hC hk hb hs hbe hsl hok htx
    go_enter Tryd.func14, Tryd.ntmps14
    go_upto_region 1 with fail
    rw [← unhide HW1]
    go_wp2_with (first
      | (go_at_call 27; refine c1.mono ?_; rintro e w2 ⟨rfl, e2⟩; subst w2; clear c1)
      | (refine wpList_load_row rfl 37 _ rfl w.heap.size rfl _ _ _ _ (unhide HK) Tryd.underlying37 rfl (unhide HI) ?_)
      | (go_at_call 32; refine cor.mono ?_; rintro e w3 ⟨ao, c, rfl, hs3, b3⟩; clear cor))
    go_ret2
    exact ⟨ao, c, rfl, hs3, tn (unhide G1) b3⟩
  · have coi := openIdeal_any u W1 bb bs bm B k be s so cs h1 hs1 hk hm hok htx
    rw [hm] at hc0
    have hcb := conv_str hb1
    have hbo := built_own k (str be) hk
    rw [show ownC k be = k.map bv ++ [Value.string (str be)] from rfl] at coi
    obtain ⟨sb, hsb⟩ : ∃ s, s = str be := ⟨_, rfl⟩
    rw [← hsb] at hcb hbo coi
    obtain ⟨OA, hOA⟩ : ∃ A : Array Value, A = (k.map bv ++ [Value.string sb]).toArray := ⟨_, rfl⟩
    obtain ⟨KA, hKA⟩ : ∃ A : Array Value, A = (k.map bv).toArray := ⟨_, rfl⟩
    rw [← hOA] at hbo coi
    obtain ⟨o, ho⟩ : ∃ o, o = B.opn k be s := ⟨_, rfl⟩
    rw [← ho] at coi ⊢
    obtain ⟨nb, hnb⟩ : ∃ n, n = be.length := ⟨_, rfl⟩
    obtain ⟨nx, hnx⟩ : ∃ n, n = s.length := ⟨_, rfl⟩
    have hK2 : W1.heap[w.heap.size]? = some (.cells KA 37 (0, 0)) := by rw [hKA]; exact hK1
    rw [← hnb, ← hnx, ← hKA]
    rw [← hnx] at coi
    rw [← hnb] at hcb
    rw [← hKA] at hW1 hi32 hbo
    have hcz : W1.cell? ⟨bb, 0, none⟩ = some (.int .i64 1) := hc0
    have HW1 := hide hW1
    have HK := hide hK2
    have HI := hide hi32
    have G1 := hide g1
    have HBO := hide hbo
    clear hW1 g1 hK1 hK2 h1 gu1 hb1 hs1 ho hc0 hc1 hm hnb hnx hKA hi32 hbo hOA hsb h gu hC hk hb hs hbe hsl hok htx
    go_enter Tryd.func14, Tryd.ntmps14
    go_upto_region 1 with fail
    rw [← unhide HW1]
    go_wp2_with (first
      | (go_at_call 27; refine c1.mono ?_; rintro e w2 ⟨rfl, e2⟩; subst w2; clear c1)
      | (refine wpList_load_row rfl 37 _ rfl w.heap.size rfl _ _ _ _ (unhide HK) Tryd.underlying37 rfl (unhide HI) ?_)
      | (refine wpList_built rfl 81 _ rfl OA ?hbo ?_)
      | (go_at_call 33; refine coi.mono ?_; rintro e w3 ⟨ao, c, rfl, hs3, b3⟩; clear coi))
    case hbo => exact unhide HBO
    go_ret2
    exact ⟨ao, c, rfl, hs3, tn (unhide G1) b3⟩

end Go.Proofs.YtjckdgapefaokaaDoor

/- The law package's short and one (layer 8): one answers true, and nothing that was in memory has changed. Where the three tables hold what they are laid with. -/
namespace Go.Proofs.YtjckdgapefaokaaDoor
open Go.RowKit

theorem short8_any (w : World) (ao : Option Addr) (c : Nat) (x : List UInt8) (hf : x.length ≤ c) :
    Calls Tryd.prog 11 #[.slice ao x.length c] w fun e w' => e = .returned (.slice ao (x.take 200).length c) ∧ w' = w := by
  by_cases h : 200 < x.length
  · have h2 : (200 : Int) < (x.length : Int) := by omega
    have hto : ∀ W, (Instr.slice 22 (.slice ao x.length c) none (some (.int .i64 200)) none).run Tryd.prog W = .ok (.slice ao 200 c) W := fun W => slice_to (P := Tryd.prog) W 22 5 Tryd.underlying22 size_byte ao x.length c 200 (by omega)
    have hl : (x.take 200).length = 200 := by rw [List.length_take]; omega
    rw [hl]
    clear hl hf h
    go_enter Tryd.func11, Tryd.ntmps11
    go_wp2
    go_ret
    exact ⟨rfl, rfl⟩
  · have h2 : ¬ (200 : Int) < (x.length : Int) := by omega
    rw [List.take_of_length_le (by omega)]
    go_enter Tryd.func11, Tryd.ntmps11
    go_wp2
    go_ret
    exact ⟨rfl, rfl⟩

theorem built_key1 (x : UInt8) : Tryd.prog.built 37 [(0, bv x)] = some ((key1 x).map bv).toArray := by kernel_rfl

/-- The letters ab, in memory of their own. -/
theorem text_ab (w : World) : ∃ W1, W1 = w.alloc (.cells #[.int .u8 97, .int .u8 98] 5 (2, 3)) ∧ BtT W1 (some ⟨w.heap.size, 0, none⟩) 2 [97, 98] ∧ w.grownBy W1 none :=
  ⟨_, rfl, ⟨bts_new w [97, 98] (2, 3) (by decide), fun ad e => by cases e; exact ⟨_, _, heap_alloc_new w _⟩⟩, gb_alloc (gb_refl _ _) _⟩

/-- What one's play comes to. -/
theorem one_play (m : Nat) (hm : m = 0 ∨ m = 1) : ∃ B t, (BoxS.mk m [] 0 []).seal (key1 1) [] [97, 98] = (B, some t) ∧ t.length = 30 ∧ B.opn (key1 1) [] t = some [97, 98] ∧ B.opn (key1 2) [] t = none ∧ ∀ x ∈ B.L, x.tx.length ≤ 2000 := by
  rcases hm with rfl | rfl
  · refine ⟨_, _, rfl, ?_, ?_, ?_, ?_⟩
    · rw [none_told, List.length_append, sealL_length]; rfl
    · exact opn_real (b := ⟨0, [], 0, []⟩) rfl (key1 1) [] [97, 98]
    · show BoxS.opn ⟨0, [], 12, _⟩ _ _ (told [] 0 12 ++ sealL (key1 1) (told [] 0 12) [] [97, 98]) = none
      unfold BoxS.opn
      rw [if_pos rfl, none_told, if_neg (by rw [List.length_append, sealL_length]; decide), List.take_left' (by rfl), List.drop_left' (by rfl), other_key]
      rfl
    · intro x hx
      have : x = ⟨told [] 0 12 ++ sealL (key1 1) (told [] 0 12) [] [97, 98], [], [], []⟩ := by simpa [BoxS.seal] using hx
      rw [this]; decide
  · have hs : (BoxS.mk 1 [] 0 []).seal (key1 1) [] [97, 98] = (⟨1, [], 30, [⟨told [] 0 30, key1 1, [], [97, 98]⟩]⟩, some (told [] 0 30)) := rfl
    have hn : (BoxS.mk 1 [] 30 [⟨told [] 0 30, key1 1, [], [97, 98]⟩]).ss.Nodup := by simp [BoxS.ss]
    refine ⟨_, _, hs, told_length _ _ _, ?_, ?_, ?_⟩
    · have := opn_of (b := ⟨1, [], 30, [⟨told [] 0 30, key1 1, [], [97, 98]⟩]⟩) rfl hn (e := ⟨told [] 0 30, key1 1, [], [97, 98]⟩) (by simp) (key1 1) []
      rw [if_pos ⟨rfl, rfl⟩] at this
      exact this
    · have := opn_of (b := ⟨1, [], 30, [⟨told [] 0 30, key1 1, [], [97, 98]⟩]⟩) rfl hn (e := ⟨told [] 0 30, key1 1, [], [97, 98]⟩) (by simp) (key1 2) []
      rw [if_neg (by intro e; exact absurd e.1 (by decide))] at this
      exact this
    · intro x hx
      have : x = ⟨told [] 0 30, key1 1, [], [97, 98]⟩ := by simpa using hx
      rw [this]; decide

theorem ok_new (m : Nat) (hm : m = 0 ∨ m = 1) (T : List UInt8) (n : Nat) : (BoxS.mk m T n []).Ok := ⟨hm, fun _ x h => by simp at h, fun _ => by simp [BoxS.ss], fun _ x h => by simp at h⟩

set_option maxRecDepth 100000 in
set_option maxHeartbeats 2000000 in
theorem bone_any (w : World) (hT : Tabs w) (hC : CTab w) :
    Calls Tryd.prog 10 #[] w fun e w' => e = .returned (.bool true) ∧ w.grownBy w' none := by
  have cdn : ∀ V, w.grownBy V none → Calls Tryd.prog 9 #[.slice none 0 0] V fun e w' => ∃ bs, e = .returned (.pointer (some ⟨bs, 0, none⟩)) ∧ w.heap.size ≤ bs ∧ SrcAt w' bs [] 0 ∧ w.grownBy w' none := fun V gV =>
    (dnew_any V none 0 [] ⟨(fun _ => ⟨rfl, rfl⟩), Nat.le_refl _, Nat.zero_le _, (fun _ e => by cases e), (fun _ e => by cases e)⟩ (hT.kept0 gV) (by simp)).mono fun e w' ⟨b, he, hb, hS, g⟩ => ⟨b, he, Nat.le_trans gV.size hb, hS, tn gV g⟩
  have kc := fun (w : World) (C : Array Value) (n c : Nat) => Lib.run_convert_bytes_const (P := Tryd.prog) w 22 5 C n c Tryd.underlying22 Tryd.underlying5
  have hb1 : Tryd.prog.built 37 [(0, .int .u8 1)] = some ((key1 1).map bv).toArray := built_key1 1
  have hb2 : Tryd.prog.built 37 [(0, .int .u8 2)] = some ((key1 2).map bv).toArray := built_key1 2
  obtain ⟨KA, hKA⟩ : ∃ A : Array Value, A = ((key1 1).map bv).toArray := ⟨_, rfl⟩
  obtain ⟨KB, hKB⟩ : ∃ A : Array Value, A = ((key1 2).map bv).toArray := ⟨_, rfl⟩
  rw [← hKA] at hb1
  rw [← hKB] at hb2
  have play : ∀ (m : Nat) (hm : m = 0 ∨ m = 1) (V : World) (bs : Nat), w.grownBy V none → w.heap.size ≤ bs → SrcAt V bs [] 0 →
      Calls Tryd.prog 8 #[.int .i64 (m : Int), .pointer (some ⟨bs, 0, none⟩)] V fun e w1 => ∃ bb, e = .returned (.tuple #[.pointer (some ⟨bb, 0, none⟩), .int .i64 0]) ∧ w.grownBy w1 none ∧
        ∀ W ao, w1.grownBy W none → BtT W ao 2 [97, 98] → Calls Tryd.prog 12 #[.pointer (some ⟨bb, 0, none⟩), .agg KA, .slice none 0 0, .slice ao 2 2] W fun e w2 => ∃ so sc, e = .returned (.tuple #[.slice so 30 sc, .int .i64 0]) ∧ w.grownBy w2 none ∧
          (Calls Tryd.prog 14 #[.pointer (some ⟨bb, 0, none⟩), .agg KA, .slice none 0 0, .slice so 30 sc] w2 fun e w3 => ∃ xo xc, e = .returned (.tuple #[.slice xo 2 xc, .bool true]) ∧ w.grownBy w3 none ∧
            (Calls Tryd.prog 14 #[.pointer (some ⟨bb, 0, none⟩), .agg KB, .slice none 0 0, .slice so 30 sc] w3 fun e w4 => ∃ yo yc, e = .returned (.tuple #[.slice yo 0 yc, .bool false]) ∧ w.grownBy w4 none ∧
              (convert 22 9 (.slice xo 2 xc)).run Tryd.prog w4 = .ok (.string { data := #[97, 98] }) w4)) := fun m hm V bs gV hbs hS => by
    obtain ⟨B, t, hseal, htl, ho1, ho2, htx⟩ := one_play m hm
    have hok := (ok_new m hm [] 0).seal (key1 1) [] [97, 98] (key1_length 1)
    rw [hseal] at hok
    refine (new_any w V m bs [] 0 hm gV hbs hS).mono fun e w1 ⟨bb, bm, he, _, _, hB, g1⟩ => ⟨bb, he, tn gV g1, fun W ao gW hab => ?_⟩
    have G := tn (tn gV g1) gW
    have hBW := hB.none gW
    have := seal_any w W bb bs bm ⟨m, [], 0, []⟩ (key1 1) [] [97, 98] none ao 0 2 hBW G hT hC (key1_length 1) (Stays.nil _ _ _ _) (Stays.typ hab hBW) (by decide) (by decide) (ok_new m hm [] 0) (Nat.zero_le _) (Nat.zero_le _)
    rw [← hKA, hseal] at this
    refine this.mono fun e w2 ⟨so, sc, he, hs2, hB2, b2⟩ => ?_
    have he' : e = .returned (.tuple #[.slice so t.length sc, .int .i64 0]) := he
    have hs2' : BtT w2 so sc t := hs2
    have hB2' : BoxAt w w2 bb bs bm B := hB2
    have G2 := by3_gb G b2 hBW.nb hBW.ns hBW.nm
    rw [htl] at he'
    refine ⟨so, sc, he', G2, ?_⟩
    have c3 := open_any w w2 bb bs bm B (key1 1) [] t none so 0 sc hB2' G2 hC (key1_length 1) (Bts.nil _) hs2'.bts (by decide) (by omega) hok htx
    rw [← hKA, ho1, htl] at c3
    refine c3.mono fun e w3 ⟨xo, xc, he, hx3, g3⟩ => ?_
    have hx3' : BtT w3 xo xc [97, 98] := hx3
    refine ⟨xo, xc, he, tn G2 g3, ?_⟩
    have c4 := open_any w w3 bb bs bm B (key1 2) [] t none so 0 sc (hB2'.none g3) (tn G2 g3) hC (key1_length 2) (Bts.nil _) (hs2'.none g3).bts (by decide) (by omega) hok htx
    rw [← hKB, ho2, htl] at c4
    refine c4.mono fun e w4 ⟨yo, yc, he, _, g4⟩ => ?_
    exact ⟨yo, yc, he, tn (tn G2 g3) g4, conv_str (hx3'.none g4).bts⟩
  have HPL := hide play
  have HB1 := hide hb1
  have HB2 := hide hb2
  clear play hb1 hb2 hKA hKB hT hC
  go_enter Tryd.func10, Tryd.ntmps10
  go_wp2
  go_loopw [1] (fun i wr => ∃ m : Nat, m ≤ 2 ∧ i = .int .i64 m ∧ w.grownBy wr none) (fun i _ => 2 - (intOf i).toNat)
  case atStart => exact ⟨0, by omega, rfl, gb_refl _ _⟩
  case round =>
    obtain ⟨m, hm, rfl, hg⟩ := hrel
    by_cases hlt : m < 2
    · have hm2 : m = 0 ∨ m = 1 := by omega
      have hmi : (m : Int) < 2 := by omega
      have hwm : IntKind.i64.wrap ((m : Int) + 1) = (m : Int) + 1 := by rw [IntKind.wrap_i64]; omega
      have cd := cdn wr hg
      have HM := hide hm2
      clear cdn hm hm2 hg
      go_upto_region 4 with fail
      refine region_named fun O hO => ?_
      refine wpList_val (by rw [hO]; kernel_rfl) (.int .i64 (m : Int)) (fun K9 hK9 => by go_simp; exact hK9) ?_
      (try simp only [Act.put, List.setIfInBounds_toArray, List.set_cons_zero, List.set_cons_succ])
      refine wpList_want (by rw [hO]; kernel_rfl) fun K9 hK9 => ?_
      go_simp
      go_at_call 9
      refine (cd).mono ?_
      rintro e w1 ⟨bs, rfl, hbs, hS1, g1⟩
      clear cd
      refine hK9 _ _ ?_
      clear hK9 K9
      (try simp only [Act.put, List.setIfInBounds_toArray, List.set_cons_zero, List.set_cons_succ])
      refine wpList_want (by rw [hO]; kernel_rfl) fun K9 hK9 => ?_
      go_simp
      go_at_call 8
      refine (unhide HPL m (unhide HM) w1 bs g1 hbs hS1).mono ?_
      rintro e w2 ⟨bb, rfl, g2, pl2⟩
      clear hS1 g1
      refine hK9 _ _ ?_
      clear hK9 K9
      (try simp only [Act.put, List.setIfInBounds_toArray, List.set_cons_zero, List.set_cons_succ])
      refine wpList_val (by rw [hO]; kernel_rfl) (.tuple #[.pointer (some ⟨bb, 0, none⟩), .int .i64 0]) (fun K9 hK9 => by go_simp; exact hK9) ?_
      (try simp only [Act.put, List.setIfInBounds_toArray, List.set_cons_zero, List.set_cons_succ])
      refine wpList_val (by rw [hO]; kernel_rfl) (.pointer (some ⟨bb, 0, none⟩)) (fun K9 hK9 => by go_simp; exact hK9) ?_
      (try simp only [Act.put, List.setIfInBounds_toArray, List.set_cons_zero, List.set_cons_succ])
      refine wpList_val (by rw [hO]; kernel_rfl) (.int .i64 0) (fun K9 hK9 => by go_simp; exact hK9) ?_
      (try simp only [Act.put, List.setIfInBounds_toArray, List.set_cons_zero, List.set_cons_succ])
      refine wpList_val (by rw [hO]; kernel_rfl) (.pointer (some ⟨bb, 0, none⟩)) (fun K9 hK9 => by go_simp; exact hK9) ?_
      (try simp only [Act.put, List.setIfInBounds_toArray, List.set_cons_zero, List.set_cons_succ])
      refine wpList_val (by rw [hO]; kernel_rfl) (.int .i64 0) (fun K9 hK9 => by go_simp; exact hK9) ?_
      (try simp only [Act.put, List.setIfInBounds_toArray, List.set_cons_zero, List.set_cons_succ])
      go_upto_region 5 with fail
      refine region_named fun O hO => ?_
      refine wpList_val (by rw [hO]; kernel_rfl) (.pointer (some ⟨bb, 0, none⟩)) (fun K9 hK9 => by go_simp; exact hK9) ?_
      (try simp only [Act.put, List.setIfInBounds_toArray, List.set_cons_zero, List.set_cons_succ])
      refine wpList_built rfl 37 _ rfl KA (by simpa [Act.eval] using unhide HB1) ?_
      (try simp only [Act.put, List.setIfInBounds_toArray, List.set_cons_zero, List.set_cons_succ])
      refine wpList_want (by rw [hO]; kernel_rfl) fun K9 hK9 => ?_
      go_simp
      refine hK9 _ _ ?_
      clear hK9 K9
      (try simp only [Act.put, List.setIfInBounds_toArray, List.set_cons_zero, List.set_cons_succ])
      skip
      refine wpList_want (by rw [hO]; kernel_rfl) fun K9 hK9 => ?_
      go_simp
      refine hK9 _ _ ?_
      clear hK9 K9
      (try simp only [Act.put, List.setIfInBounds_toArray, List.set_cons_zero, List.set_cons_succ])
      obtain ⟨W3, hW3, hab, g3⟩ := text_ab w2
      rw [← hW3]
      have cs3 := pl2 W3 _ g3 hab
      clear hW3 pl2 hab
      refine wpList_want (by rw [hO]; kernel_rfl) fun K9 hK9 => ?_
      go_simp
      go_at_call 12
      refine (cs3).mono ?_
      rintro e w4 ⟨so, sc, rfl, g4, co4⟩
      clear cs3
      refine hK9 _ _ ?_
      clear hK9 K9
      (try simp only [Act.put, List.setIfInBounds_toArray, List.set_cons_zero, List.set_cons_succ])
      refine wpList_val (by rw [hO]; kernel_rfl) (.tuple #[.slice so 30 sc, .int .i64 0]) (fun K9 hK9 => by go_simp; exact hK9) ?_
      (try simp only [Act.put, List.setIfInBounds_toArray, List.set_cons_zero, List.set_cons_succ])
      refine wpList_val (by rw [hO]; kernel_rfl) (.slice so 30 sc) (fun K9 hK9 => by go_simp; exact hK9) ?_
      (try simp only [Act.put, List.setIfInBounds_toArray, List.set_cons_zero, List.set_cons_succ])
      refine wpList_val (by rw [hO]; kernel_rfl) (.int .i64 0) (fun K9 hK9 => by go_simp; exact hK9) ?_
      (try simp only [Act.put, List.setIfInBounds_toArray, List.set_cons_zero, List.set_cons_succ])
      refine wpList_val (by rw [hO]; kernel_rfl) (.slice so 30 sc) (fun K9 hK9 => by go_simp; exact hK9) ?_
      (try simp only [Act.put, List.setIfInBounds_toArray, List.set_cons_zero, List.set_cons_succ])
      refine wpList_val (by rw [hO]; kernel_rfl) (.int .i64 0) (fun K9 hK9 => by go_simp; exact hK9) ?_
      (try simp only [Act.put, List.setIfInBounds_toArray, List.set_cons_zero, List.set_cons_succ])
      go_upto_region 6 with fail
      refine region_named fun O hO => ?_
      refine wpList_val (by rw [hO]; kernel_rfl) (.pointer (some ⟨bb, 0, none⟩)) (fun K9 hK9 => by go_simp; exact hK9) ?_
      (try simp only [Act.put, List.setIfInBounds_toArray, List.set_cons_zero, List.set_cons_succ])
      refine wpList_built rfl 37 _ rfl KA (by simpa [Act.eval] using unhide HB1) ?_
      (try simp only [Act.put, List.setIfInBounds_toArray, List.set_cons_zero, List.set_cons_succ])
      refine wpList_val (by rw [hO]; kernel_rfl) (.slice so 30 sc) (fun K9 hK9 => by go_simp; exact hK9) ?_
      (try simp only [Act.put, List.setIfInBounds_toArray, List.set_cons_zero, List.set_cons_succ])
      refine wpList_want (by rw [hO]; kernel_rfl) fun K9 hK9 => ?_
      go_simp
      go_at_call 14
      refine (co4).mono ?_
      rintro e w5 ⟨xo, xc, rfl, g5, co5⟩
      clear co4
      refine hK9 _ _ ?_
      clear hK9 K9
      (try simp only [Act.put, List.setIfInBounds_toArray, List.set_cons_zero, List.set_cons_succ])
      refine wpList_val (by rw [hO]; kernel_rfl) (.tuple #[.slice xo 2 xc, .bool true]) (fun K9 hK9 => by go_simp; exact hK9) ?_
      (try simp only [Act.put, List.setIfInBounds_toArray, List.set_cons_zero, List.set_cons_succ])
      refine wpList_val (by rw [hO]; kernel_rfl) (.slice xo 2 xc) (fun K9 hK9 => by go_simp; exact hK9) ?_
      (try simp only [Act.put, List.setIfInBounds_toArray, List.set_cons_zero, List.set_cons_succ])
      refine wpList_val (by rw [hO]; kernel_rfl) (.bool true) (fun K9 hK9 => by go_simp; exact hK9) ?_
      (try simp only [Act.put, List.setIfInBounds_toArray, List.set_cons_zero, List.set_cons_succ])
      refine wpList_val (by rw [hO]; kernel_rfl) (.slice xo 2 xc) (fun K9 hK9 => by go_simp; exact hK9) ?_
      (try simp only [Act.put, List.setIfInBounds_toArray, List.set_cons_zero, List.set_cons_succ])
      refine wpList_val (by rw [hO]; kernel_rfl) (.bool true) (fun K9 hK9 => by go_simp; exact hK9) ?_
      (try simp only [Act.put, List.setIfInBounds_toArray, List.set_cons_zero, List.set_cons_succ])
      go_upto_region 7 with fail
      refine region_named fun O hO => ?_
      refine wpList_val (by rw [hO]; kernel_rfl) (.pointer (some ⟨bb, 0, none⟩)) (fun K9 hK9 => by go_simp; exact hK9) ?_
      (try simp only [Act.put, List.setIfInBounds_toArray, List.set_cons_zero, List.set_cons_succ])
      refine wpList_built rfl 37 _ rfl KB (by simpa [Act.eval] using unhide HB2) ?_
      (try simp only [Act.put, List.setIfInBounds_toArray, List.set_cons_zero, List.set_cons_succ])
      refine wpList_val (by rw [hO]; kernel_rfl) (.slice so 30 sc) (fun K9 hK9 => by go_simp; exact hK9) ?_
      (try simp only [Act.put, List.setIfInBounds_toArray, List.set_cons_zero, List.set_cons_succ])
      refine wpList_want (by rw [hO]; kernel_rfl) fun K9 hK9 => ?_
      go_simp
      go_at_call 14
      refine (co5).mono ?_
      rintro e w8 ⟨yo, yc, rfl, g8, hcv⟩
      clear co5
      refine hK9 _ _ ?_
      clear hK9 K9
      (try simp only [Act.put, List.setIfInBounds_toArray, List.set_cons_zero, List.set_cons_succ])
      refine wpList_val (by rw [hO]; kernel_rfl) (.tuple #[.slice yo 0 yc, .bool false]) (fun K9 hK9 => by go_simp; exact hK9) ?_
      (try simp only [Act.put, List.setIfInBounds_toArray, List.set_cons_zero, List.set_cons_succ])
      refine wpList_val (by rw [hO]; kernel_rfl) (.slice yo 0 yc) (fun K9 hK9 => by go_simp; exact hK9) ?_
      (try simp only [Act.put, List.setIfInBounds_toArray, List.set_cons_zero, List.set_cons_succ])
      refine wpList_val (by rw [hO]; kernel_rfl) (.bool false) (fun K9 hK9 => by go_simp; exact hK9) ?_
      (try simp only [Act.put, List.setIfInBounds_toArray, List.set_cons_zero, List.set_cons_succ])
      refine wpList_val (by rw [hO]; kernel_rfl) (.slice yo 0 yc) (fun K9 hK9 => by go_simp; exact hK9) ?_
      (try simp only [Act.put, List.setIfInBounds_toArray, List.set_cons_zero, List.set_cons_succ])
      refine wpList_val (by rw [hO]; kernel_rfl) (.bool false) (fun K9 hK9 => by go_simp; exact hK9) ?_
      (try simp only [Act.put, List.setIfInBounds_toArray, List.set_cons_zero, List.set_cons_succ])
      go_upto_region 8 with fail
      refine region_named fun O hO => ?_
      refine wpList_val (by rw [hO]; kernel_rfl) (.int .i64 0) (fun K9 hK9 => by go_simp; exact hK9) ?_
      (try simp only [Act.put, List.setIfInBounds_toArray, List.set_cons_zero, List.set_cons_succ])
      refine wpList_val (by rw [hO]; kernel_rfl) (.bool false) (fun K9 hK9 => by go_simp; exact hK9) ?_
      (try simp only [Act.put, List.setIfInBounds_toArray, List.set_cons_zero, List.set_cons_succ])
      refine wpList_val (by rw [hO]; kernel_rfl) (.bool false) (fun K9 hK9 => by go_simp; exact hK9) ?_
      (try simp only [Act.put, List.setIfInBounds_toArray, List.set_cons_zero, List.set_cons_succ])
      refine wpList_val (by rw [hO]; kernel_rfl) (.int .i64 0) (fun K9 hK9 => by go_simp; exact hK9) ?_
      (try simp only [Act.put, List.setIfInBounds_toArray, List.set_cons_zero, List.set_cons_succ])
      refine wpList_val (by rw [hO]; kernel_rfl) (.bool false) (fun K9 hK9 => by go_simp; exact hK9) ?_
      (try simp only [Act.put, List.setIfInBounds_toArray, List.set_cons_zero, List.set_cons_succ])
      refine wpList_val (by rw [hO]; kernel_rfl) (.bool false) (fun K9 hK9 => by go_simp; exact hK9) ?_
      (try simp only [Act.put, List.setIfInBounds_toArray, List.set_cons_zero, List.set_cons_succ])
      refine wpList_val (by rw [hO]; kernel_rfl) (.bool false) (fun K9 hK9 => by go_simp; exact hK9) ?_
      (try simp only [Act.put, List.setIfInBounds_toArray, List.set_cons_zero, List.set_cons_succ])
      refine wpList_val (by rw [hO]; kernel_rfl) (.slice so 30 sc) (fun K9 hK9 => by go_simp; exact hK9) ?_
      (try simp only [Act.put, List.setIfInBounds_toArray, List.set_cons_zero, List.set_cons_succ])
      refine wpList_val (by rw [hO]; kernel_rfl) (.int .i64 30) (fun K9 hK9 => by go_simp; exact hK9) ?_
      (try simp only [Act.put, List.setIfInBounds_toArray, List.set_cons_zero, List.set_cons_succ])
      refine wpList_val (by rw [hO]; kernel_rfl) (.bool false) (fun K9 hK9 => by go_simp; exact hK9) ?_
      (try simp only [Act.put, List.setIfInBounds_toArray, List.set_cons_zero, List.set_cons_succ])
      refine wpList_val (by rw [hO]; kernel_rfl) (.bool false) (fun K9 hK9 => by go_simp; exact hK9) ?_
      (try simp only [Act.put, List.setIfInBounds_toArray, List.set_cons_zero, List.set_cons_succ])
      refine wpList_val (by rw [hO]; kernel_rfl) (.bool false) (fun K9 hK9 => by go_simp; exact hK9) ?_
      (try simp only [Act.put, List.setIfInBounds_toArray, List.set_cons_zero, List.set_cons_succ])
      refine wpList_val (by rw [hO]; kernel_rfl) (.bool true) (fun K9 hK9 => by go_simp; exact hK9) ?_
      (try simp only [Act.put, List.setIfInBounds_toArray, List.set_cons_zero, List.set_cons_succ])
      refine wpList_val (by rw [hO]; kernel_rfl) (.bool false) (fun K9 hK9 => by go_simp; exact hK9) ?_
      (try simp only [Act.put, List.setIfInBounds_toArray, List.set_cons_zero, List.set_cons_succ])
      refine wpList_val (by rw [hO]; kernel_rfl) (.bool false) (fun K9 hK9 => by go_simp; exact hK9) ?_
      (try simp only [Act.put, List.setIfInBounds_toArray, List.set_cons_zero, List.set_cons_succ])
      refine wpList_val (by rw [hO]; kernel_rfl) (.bool false) (fun K9 hK9 => by go_simp; exact hK9) ?_
      (try simp only [Act.put, List.setIfInBounds_toArray, List.set_cons_zero, List.set_cons_succ])
      refine wpList_val (by rw [hO]; kernel_rfl) (.slice xo 2 xc) (fun K9 hK9 => by go_simp; exact hK9) ?_
      (try simp only [Act.put, List.setIfInBounds_toArray, List.set_cons_zero, List.set_cons_succ])
      refine wpList_val (by rw [hO]; kernel_rfl) (.string { data := #[97, 98] }) (fun K9 hK9 => by go_simp; exact hK9) ?_
      (try simp only [Act.put, List.setIfInBounds_toArray, List.set_cons_zero, List.set_cons_succ])
      refine wpList_val (by rw [hO]; kernel_rfl) (.bool false) (fun K9 hK9 => by go_simp; exact hK9) ?_
      (try simp only [Act.put, List.setIfInBounds_toArray, List.set_cons_zero, List.set_cons_succ])
      refine wpList_val (by rw [hO]; kernel_rfl) (.bool false) (fun K9 hK9 => by go_simp; exact hK9) ?_
      (try simp only [Act.put, List.setIfInBounds_toArray, List.set_cons_zero, List.set_cons_succ])
      refine wpList_val (by rw [hO]; kernel_rfl) (.bool false) (fun K9 hK9 => by go_simp; exact hK9) ?_
      (try simp only [Act.put, List.setIfInBounds_toArray, List.set_cons_zero, List.set_cons_succ])
      refine wpList_val (by rw [hO]; kernel_rfl) (.bool false) (fun K9 hK9 => by go_simp; exact hK9) ?_
      (try simp only [Act.put, List.setIfInBounds_toArray, List.set_cons_zero, List.set_cons_succ])
      refine wpList_val (by rw [hO]; kernel_rfl) (.bool false) (fun K9 hK9 => by go_simp; exact hK9) ?_
      (try simp only [Act.put, List.setIfInBounds_toArray, List.set_cons_zero, List.set_cons_succ])
      clear kc HPL
      go_wp2
      go_roundw
      case rel => exact ⟨m + 1, by omega, by go_num, g8⟩
      case measure => simp [intOf]; omega
    · obtain rfl : m = 2 := by omega
      clear kc HPL cdn
      go_wp2
      go_ret
      exact ⟨rfl, hg⟩

end Go.Proofs.YtjckdgapefaokaaDoor

/- Two boxes side by side, and what the law of the mode Ideal lets them do: bounds, and a text that is turned in its place. No condition but those that each lemma names. -/
namespace Go.Proofs.YtjckdgapefaokaaDoor
open Go.RowKit

/-- At most 200. -/
def sh200 (n : Nat) : Nat := min n 200
theorem sh200_le (n : Nat) : sh200 n ≤ 200 := Nat.min_le_right _ _
theorem take200_length (l : List UInt8) : (l.take 200).length = sh200 l.length := by rw [List.length_take, Nat.min_comm]; rfl

theorem short8_min (w : World) (ao : Option Addr) (n c : Nat) (h : n ≤ c) : Calls Tryd.prog 11 #[.slice ao n c] w fun e w' => e = .returned (.slice ao (sh200 n) c) ∧ w' = w := by
  have := short8_any w ao c (List.replicate n 0) (by simpa using h)
  rw [take200_length, List.length_replicate] at this
  exact this

/-- New of one text. -/
theorem dnew_one (u V : World) (ao : Option Addr) (c : Nat) (F : List UInt8) (gV : u.grownBy V none) (hF : Bts u ao c F) (hT : Tabs u) (hl : F.length ≤ 1000) : ∃ W, W = V.alloc (.cells #[.slice ao F.length c] 22) ∧ u.grownBy W none ∧ V.grownBy W none ∧
    Calls Tryd.prog 9 #[.slice (some ⟨V.heap.size, 0, none⟩) 1 1] W fun e w' => ∃ b, e = .returned (.pointer (some ⟨b, 0, none⟩)) ∧ V.heap.size ≤ b ∧ SrcAt w' b F 0 ∧ V.grownBy w' none := by
  obtain ⟨W, hW, hB, g⟩ := alloc_one V (.slice ao F.length c)
  refine ⟨W, hW, tn gV g, g, ?_⟩
  have hL := lst_single hB ((hF.old gV).kept g (fun _ e => by cases e))
  have := dnew_any W _ 1 [F] hL (hT.kept0 (tn gV g)) (by simp; omega)
  rw [show ([F] : List (List UInt8)).flatten = F by simp, show ([F] : List (List UInt8)).length = 1 from rfl] at this
  exact this.mono fun e w' ⟨b, he, hb, hS, gg⟩ => ⟨b, he, Nat.le_trans g.size hb, hS, tn g gg⟩

theorem dnew_nil (u V : World) (gV : u.grownBy V none) (hT : Tabs u) : Calls Tryd.prog 9 #[.slice none 0 0] V fun e w' => ∃ b, e = .returned (.pointer (some ⟨b, 0, none⟩)) ∧ V.heap.size ≤ b ∧ SrcAt w' b [] 0 ∧ V.grownBy w' none :=
  dnew_any V none 0 [] ⟨(fun _ => ⟨rfl, rfl⟩), Nat.le_refl _, Nat.zero_le _, (fun _ e => by cases e), (fun _ e => by cases e)⟩ (hT.kept0 gV) (by simp)

theorem tries_bound (k be tx : List UInt8) : ∀ (n : Nat) (b : BoxS), (b.tries k be tx n).1.u ≤ b.u + n * (tx.length + 28) ∧ (b.tries k be tx n).1.L.length ≤ b.L.length + 1
  | 0, b => ⟨by simp [BoxS.tries], by simp [BoxS.tries]⟩
  | n + 1, b => by
    unfold BoxS.tries
    have e : (n + 1) * (tx.length + 28) = n * (tx.length + 28) + (tx.length + 28) := Nat.succ_mul _ _
    split
    · have := tries_bound k be tx n { b with u := b.u + (tx.length + 28) }
      simp only at this
      exact ⟨by omega, this.2⟩
    · simp only [List.length_append, List.length_cons, List.length_nil]
      exact ⟨by omega, by omega⟩

theorem seal_bound (b : BoxS) (k be tx : List UInt8) (ht : tx.length ≤ 200) : (b.seal k be tx).1.u ≤ b.u + 2000 ∧ (b.seal k be tx).1.L.length ≤ b.L.length + 1 ∧ (b.seal k be tx).1.mode = b.mode ∧ (b.seal k be tx).1.T = b.T := by
  unfold BoxS.seal
  split
  · simp only [List.length_append, List.length_cons, List.length_nil]
    exact ⟨by omega, by omega, trivial, trivial⟩
  · have h1 := tries_bound k be tx 8 b
    have h2 := BoxS.tries_kept k be tx 8 b
    exact ⟨by omega, h1.2, h2.1, h2.2⟩

theorem tries_tx (k be tx : List UInt8) (P : Ent → Prop) (hP : ∀ s, P ⟨s, k, be, tx⟩) : ∀ (n : Nat) (b : BoxS), (∀ x ∈ b.L, P x) → ∀ x ∈ (b.tries k be tx n).1.L, P x
  | 0, _, h => h
  | n + 1, b, h => by
    unfold BoxS.tries
    split
    · exact tries_tx k be tx P hP n _ h
    · intro x hx
      rcases List.mem_append.1 hx with hx | hx
      · exact h x hx
      · rw [List.mem_singleton.1 hx]; exact hP _

theorem seal_tx (b : BoxS) (k be tx : List UInt8) (ht : tx.length ≤ 2000) (h : ∀ x ∈ b.L, x.tx.length ≤ 2000) : ∀ x ∈ (b.seal k be tx).1.L, x.tx.length ≤ 2000 := by
  unfold BoxS.seal
  split
  · intro x hx
    rcases List.mem_append.1 hx with hx | hx
    · exact h x hx
    · rw [List.mem_singleton.1 hx]; exact Nat.zero_le _
  · exact tries_tx k be tx _ (fun _ => ht) 8 b h

/-- The first k bytes are turned. -/
def mixL (t : UInt8) (l : List UInt8) (k : Nat) : List UInt8 := (l.take k).map (· + t) ++ l.drop k
theorem mixL_zero (t : UInt8) (l : List UInt8) : mixL t l 0 = l := by simp [mixL]
theorem mixL_length (t : UInt8) (l : List UInt8) (k : Nat) : (mixL t l k).length = l.length := by simp [mixL]; omega
theorem mixL_at (t : UInt8) (l : List UInt8) (k : Nat) (h : k < l.length) : (mixL t l k)[k]? = some l[k] := by
  unfold mixL
  rw [List.getElem?_append_right (by simp; omega)]
  simp [h, Nat.min_eq_left (Nat.le_of_lt h)]
theorem mixL_succ (t : UInt8) (l : List UInt8) (k : Nat) (h : k < l.length) : (mixL t l k).set k (l[k] + t) = mixL t l (k + 1) := by
  unfold mixL
  have hl : ((l.take k).map (· + t)).length = k := by simp; omega
  rw [List.set_append_right _ _ (by omega), hl, Nat.sub_self, List.drop_eq_getElem_cons h, List.set_cons_zero, List.take_succ_eq_append_getElem h]
  simp only [List.map_append, List.map_cons, List.map_nil, List.append_assoc, List.cons_append, List.nil_append]

/-- A byte of a row of one's own, written. -/
theorem own_set {w : World} {base n cap g : Nat} {xs : List Value} (h : w.ownsRow base 5 1 (.slice (some ⟨g, 0, none⟩) n cap) n xs) (k : Nat) (v : Value) :
    (w.setCell ⟨g, k, none⟩ v).ownsRow base 5 1 (.slice (some ⟨g, 0, none⟩) n cap) n (xs.set k v) := by
  obtain ⟨h1, h2⟩ := h
  refine ⟨by rw [List.length_set]; exact h1, ?_⟩
  rcases h2 with ⟨h2, _⟩ | ⟨g', cap', cur, hv, hg, hh, h3, h4, h5, h6⟩
  · cases h2
  · cases hv
    refine Or.inr ⟨g, cap, cur.setIfInBounds k v, rfl, hg, ?_, h3, h4, by simpa using h5, ?_⟩
    · simp [World.setCell, Array.getElem?_modify, hh]
    · rw [← h6, Array.toList_setIfInBounds, List.take_set]

theorem own_there {w : World} {base n cap g : Nat} {xs : List Value} (h : w.ownsRow base 5 1 (.slice (some ⟨g, 0, none⟩) n cap) n xs) (k : Nat) (v : Value) (hk : xs[k]? = some v) : w.cell? ⟨g, k, none⟩ = some v ∧ w.frozen? ⟨g, k, none⟩ = false := by
  obtain ⟨h1, h2⟩ := h
  rcases h2 with ⟨h2, _⟩ | ⟨g', cap', cur, hv, hg, hh, h3, h4, h5, h6⟩
  · cases h2
  · cases hv
    refine ⟨?_, by simp [World.frozen?, hh]⟩
    rw [cell_of_row w g k _ _ _ hh]
    rw [← h6] at hk
    rw [List.getElem?_take] at hk
    split at hk
    · simpa using hk
    · cases hk

theorem u8_add (x y : UInt8) : IntKind.u8.wrap (((x.toNat : Nat) : Int) + ((y.toNat : Nat) : Int)) = (((x + y).toNat : Nat) : Int) := by
  show ((((x.toNat : Nat) : Int) + ((y.toNat : Nat) : Int)) % 256) = _
  rw [UInt8.toNat_add]
  omega

end Go.Proofs.YtjckdgapefaokaaDoor

/- BoxPlays' walk where there is no such mode: New tells the error, and no box. For any other number, first bytes and steps. -/
namespace Go.Proofs.YtjckdgapefaokaaDoor
open Go.RowKit

set_option maxRecDepth 100000 in
set_option maxHeartbeats 4000000 in
theorem boxPlays_no (w : World) (mz : Int) (hm0 : mz ≠ 0) (hm1 : mz ≠ 1) (a0 : Option Addr) (n0 c0 : Nat) (F : List UInt8) (hF : Bts w a0 c0 F) (LV : Value) (hT : Tabs w) (hC : CTab w)
    (hn : (n0 = F.length ∧ n0 ≤ 300) ∨ (300 < n0 ∧ F.length = 300 ∧ n0 ≤ c0)) :
    Calls Tryd.prog 3 #[.int .i64 mz, .slice a0 n0 c0, LV] w fun e w' => e = .returned (.bool true) ∧ w.grownBy w' none := by
  have cnew1 : ∀ V, w.grownBy V none → ∃ W, W = V.alloc (.cells #[.slice a0 F.length c0] 22) ∧ w.grownBy W none ∧ V.grownBy W none ∧ Calls Tryd.prog 9 #[.slice (some ⟨V.heap.size, 0, none⟩) 1 1] W fun e w' => ∃ b, e = .returned (.pointer (some ⟨b, 0, none⟩)) ∧ V.heap.size ≤ b ∧ SrcAt w' b F 0 ∧ V.grownBy w' none := fun V gV => dnew_one w V a0 c0 F gV hF hT (by omega)
  have cone : ∀ V, w.grownBy V none → Calls Tryd.prog 10 #[] V fun e w' => e = .returned (.bool true) ∧ V.grownBy w' none := fun V gV => bone_any V (hT.kept0 gV) (hC.kept0 gV)
  have e0 : (mz != 0) = true := by simpa using hm0
  have e1 : (mz != 1) = true := by simpa using hm1
  obtain ⟨nF, hnF⟩ : ∃ n, n = F.length := ⟨_, rfl⟩
  simp only [← hnF] at cnew1 hn
  have HN1 := hide cnew1
  have HON := hide cone
  clear cnew1 cone hnF hF hT hC
  go_enter Tryd.func3, Tryd.ntmps3
  go_upto_if 27 with fail
  go_cut [1] (fun x1 wx => x1 = .slice a0 nF c0 ∧ wx = w)
  case first =>
    rcases hn with ⟨rfl, h300⟩ | ⟨h300, rfl, hc300⟩
    · have h301 : ¬ (300 : Int) < (n0 : Int) := by omega
      go_wp2
      go_meet
      case rel => exact ⟨rfl, rfl⟩
    · have h301 : (300 : Int) < (n0 : Int) := by omega
      have hto : ∀ W, (Instr.slice 22 (.slice a0 n0 c0) none (some (.int .i64 300)) none).run Tryd.prog W = .ok (.slice a0 300 c0) W := fun W => slice_to (P := Tryd.prog) W 22 5 Tryd.underlying22 size_byte a0 n0 c0 300 (by omega)
      go_wp2
      go_meet
      case rel => exact ⟨rfl, rfl⟩
  case rest =>
    obtain ⟨rfl, e9⟩ := hcut
    subst wc
    clear hn
    have G0 : w.grownBy w none := gb_refl _ _
    go_upto_region 3 with fail
    refine region_named fun O hO => ?_
    refine wpList_val (by rw [hO]; kernel_rfl) (.int .i64 mz) (fun K9 hK9 => by go_simp; exact hK9) ?_
    (try simp only [Act.put, List.setIfInBounds_toArray, List.set_cons_zero, List.set_cons_succ])
    refine wpList_val (by rw [hO]; kernel_rfl) (.slice a0 nF c0) (fun K9 hK9 => by go_simp; exact hK9) ?_
    (try simp only [Act.put, List.setIfInBounds_toArray, List.set_cons_zero, List.set_cons_succ])
    refine wpList_want (by rw [hO]; kernel_rfl) fun K9 hK9 => ?_
    go_simp
    refine hK9 _ _ ?_
    clear hK9 K9
    (try simp only [Act.put, List.setIfInBounds_toArray, List.set_cons_zero, List.set_cons_succ])
    obtain ⟨Wn, hWn, Gn, gn, cn9⟩ := unhide HN1 w G0
    rw [← hWn]
    clear hWn
    refine wpList_want (by rw [hO]; kernel_rfl) fun K9 hK9 => ?_
    go_simp
    go_at_call 9
    refine (cn9).mono ?_
    rintro e w4 ⟨bs, rfl, hbs, hS4, g4⟩
    clear cn9 Gn gn Wn
    have G4 := tn G0 g4
    refine hK9 _ _ ?_
    clear hK9 K9
    (try simp only [Act.put, List.setIfInBounds_toArray, List.set_cons_zero, List.set_cons_succ])
    refine wpList_want (by rw [hO]; kernel_rfl) fun K9 hK9 => ?_
    go_simp
    go_at_call 8
    refine (new_arg w4 mz (some ⟨bs, 0, none⟩) hm0 hm1).mono ?_
    rintro e w5 ⟨rfl, e5⟩
    subst w5
    refine hK9 _ _ ?_
    clear hK9 K9
    (try simp only [Act.put, List.setIfInBounds_toArray, List.set_cons_zero, List.set_cons_succ])
    refine wpList_val (by rw [hO]; kernel_rfl) (.tuple #[.pointer none, .int .i64 2]) (fun K9 hK9 => by go_simp; exact hK9) ?_
    (try simp only [Act.put, List.setIfInBounds_toArray, List.set_cons_zero, List.set_cons_succ])
    refine wpList_val (by rw [hO]; kernel_rfl) (.pointer none) (fun K9 hK9 => by go_simp; exact hK9) ?_
    (try simp only [Act.put, List.setIfInBounds_toArray, List.set_cons_zero, List.set_cons_succ])
    refine wpList_val (by rw [hO]; kernel_rfl) (.int .i64 2) (fun K9 hK9 => by go_simp; exact hK9) ?_
    (try simp only [Act.put, List.setIfInBounds_toArray, List.set_cons_zero, List.set_cons_succ])
    refine wpList_val (by rw [hO]; kernel_rfl) (.pointer none) (fun K9 hK9 => by go_simp; exact hK9) ?_
    (try simp only [Act.put, List.setIfInBounds_toArray, List.set_cons_zero, List.set_cons_succ])
    refine wpList_val (by rw [hO]; kernel_rfl) (.int .i64 2) (fun K9 hK9 => by go_simp; exact hK9) ?_
    (try simp only [Act.put, List.setIfInBounds_toArray, List.set_cons_zero, List.set_cons_succ])
    go_upto_region 4 with fail
    refine region_named fun O hO => ?_
    refine wpList_val (by rw [hO]; kernel_rfl) (.int .i64 mz) (fun K9 hK9 => by go_simp; exact hK9) ?_
    (try simp only [Act.put, List.setIfInBounds_toArray, List.set_cons_zero, List.set_cons_succ])
    refine wpList_val (by rw [hO]; kernel_rfl) (.bool true) (fun K9 hK9 => by go_simp; exact hK9) ?_
    (try simp only [Act.put, List.setIfInBounds_toArray, List.set_cons_zero, List.set_cons_succ])
    refine wpList_val (by rw [hO]; kernel_rfl) (.bool true) (fun K9 hK9 => by go_simp; exact hK9) ?_
    (try simp only [Act.put, List.setIfInBounds_toArray, List.set_cons_zero, List.set_cons_succ])
    refine wpList_val (by rw [hO]; kernel_rfl) (.int .i64 mz) (fun K9 hK9 => by go_simp; exact hK9) ?_
    (try simp only [Act.put, List.setIfInBounds_toArray, List.set_cons_zero, List.set_cons_succ])
    refine wpList_val (by rw [hO]; kernel_rfl) (.bool true) (fun K9 hK9 => by go_simp; exact hK9) ?_
    (try simp only [Act.put, List.setIfInBounds_toArray, List.set_cons_zero, List.set_cons_succ])
    refine wpList_val (by rw [hO]; kernel_rfl) (.bool true) (fun K9 hK9 => by go_simp; exact hK9) ?_
    (try simp only [Act.put, List.setIfInBounds_toArray, List.set_cons_zero, List.set_cons_succ])
    go_upto_region 5 with fail
    refine region_named fun O hO => ?_
    refine wpList_val (by rw [hO]; kernel_rfl) (.pointer none) (fun K9 hK9 => by go_simp; exact hK9) ?_
    (try simp only [Act.put, List.setIfInBounds_toArray, List.set_cons_zero, List.set_cons_succ])
    refine wpList_val (by rw [hO]; kernel_rfl) (.bool true) (fun K9 hK9 => by go_simp; exact hK9) ?_
    (try simp only [Act.put, List.setIfInBounds_toArray, List.set_cons_zero, List.set_cons_succ])
    refine wpList_val (by rw [hO]; kernel_rfl) (.bool true) (fun K9 hK9 => by go_simp; exact hK9) ?_
    (try simp only [Act.put, List.setIfInBounds_toArray, List.set_cons_zero, List.set_cons_succ])
    refine wpList_val (by rw [hO]; kernel_rfl) (.int .i64 2) (fun K9 hK9 => by go_simp; exact hK9) ?_
    (try simp only [Act.put, List.setIfInBounds_toArray, List.set_cons_zero, List.set_cons_succ])
    refine wpList_val (by rw [hO]; kernel_rfl) (.bool true) (fun K9 hK9 => by go_simp; exact hK9) ?_
    (try simp only [Act.put, List.setIfInBounds_toArray, List.set_cons_zero, List.set_cons_succ])
    refine wpList_val (by rw [hO]; kernel_rfl) (.bool true) (fun K9 hK9 => by go_simp; exact hK9) ?_
    (try simp only [Act.put, List.setIfInBounds_toArray, List.set_cons_zero, List.set_cons_succ])
    refine wpList_val (by rw [hO]; kernel_rfl) (.bool true) (fun K9 hK9 => by go_simp; exact hK9) ?_
    (try simp only [Act.put, List.setIfInBounds_toArray, List.set_cons_zero, List.set_cons_succ])
    refine wpList_want (by rw [hO]; kernel_rfl) fun K9 hK9 => ?_
    go_simp
    go_at_call 10
    refine (unhide HON w4 G4).mono ?_
    rintro e w9 ⟨rfl, g9⟩
    refine hK9 _ _ ?_
    clear hK9 K9
    (try simp only [Act.put, List.setIfInBounds_toArray, List.set_cons_zero, List.set_cons_succ])
    refine wpList_val (by rw [hO]; kernel_rfl) (.bool true) (fun K9 hK9 => by go_simp; exact hK9) ?_
    (try simp only [Act.put, List.setIfInBounds_toArray, List.set_cons_zero, List.set_cons_succ])
    refine wpList_val (by rw [hO]; kernel_rfl) (.bool true) (fun K9 hK9 => by go_simp; exact hK9) ?_
    (try simp only [Act.put, List.setIfInBounds_toArray, List.set_cons_zero, List.set_cons_succ])
    go_wp2
    go_ret
    exact ⟨rfl, tn G4 g9⟩

end Go.Proofs.YtjckdgapefaokaaDoor
