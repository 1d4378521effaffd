/- What Seal and Open of box answer, in both modes: THE CONTRACTS OF LAYER 8. Of texts of at most 1000 bytes, with at most 1000 beside them; sealed ones of at most 1500. -/
import Derived.Test.YtjckdgapefaokaaDoorBReal
namespace Go.Proofs.YtjckdgapefaokaaDoor
open Go.RowKit

theorem built_own (k : List UInt8) (sb : ByteArray) (h : k.length = 32) : Tryd.prog.built 81 [(0, .agg (k.map bv).toArray), (1, .string sb)] = some (k.map bv ++ [Value.string sb]).toArray := by
  obtain ⟨a0, a1, a2, a3, a4, a5, a6, a7, a8, a9, a10, a11, a12, a13, a14, a15, a16, a17, a18, a19, a20, a21, a22, a23, a24, a25, a26, a27, a28, a29, a30, a31, rfl⟩ := list32 k h
  kernel_rfl
theorem built_cont (k : List UInt8) (sb st : ByteArray) (h : k.length = 32) : Tryd.prog.built 83 [(0, .agg (k.map bv ++ [Value.string sb]).toArray), (1, .string st)] = some (k.map bv ++ [Value.string sb, Value.string st]).toArray := by
  obtain ⟨a0, a1, a2, a3, a4, a5, a6, a7, a8, a9, a10, a11, a12, a13, a14, a15, a16, a17, a18, a19, a20, a21, a22, a23, a24, a25, a26, a27, a28, a29, a30, a31, rfl⟩ := list32 k h
  kernel_rfl

/-- Bytes that a box's doing leaves. -/
def Stays (w : World) (bb bs bm : Nat) (ao : Option Addr) (c : Nat) (l : List UInt8) : Prop := ∀ V, By3 w V bb bs bm → Bts V ao c l
theorem Stays.old {u w : World} {bb bs bm : Nat} {B : BoxS} {ao : Option Addr} {c : Nat} {l : List UInt8} (h : Bts u ao c l) (hB : BoxAt u w bb bs bm B) (gu : u.grownBy w none) : Stays w bb bs bm ao c l := fun _ gV => h.old (by3_gb gu gV hB.nb hB.ns hB.nm)
theorem Stays.typ {u w : World} {bb bs bm : Nat} {B : BoxS} {ao : Option Addr} {c : Nat} {l : List UInt8} (h : BtT w ao c l) (hB : BoxAt u w bb bs bm B) : Stays w bb bs bm ao c l := fun _ gV => (h.box hB gV).bts
theorem Stays.nil (w : World) (bb bs bm : Nat) : Stays w bb bs bm none 0 [] := fun _ _ => Bts.nil _

set_option maxRecDepth 100000 in
set_option maxHeartbeats 2000000 in
theorem seal_any (u w : World) (bb bs bm : Nat) (B : BoxS) (k be tx : List UInt8) (bo xo : Option Addr) (cb cx : Nat) (h : BoxAt u w bb bs bm B) (gu : u.grownBy w none) (hT : Tabs u) (hC : CTab u) (hk : k.length = 32) (hb : Stays w bb bs bm bo cb be) (hx : Stays w bb bs bm xo cx tx)
    (hbe : be.length ≤ 1000) (ht : tx.length ≤ 1000) (hok : B.Ok) (hus : B.u ≤ 17592186044416) (hL : B.L.length ≤ 17592186044416) :
    Calls Tryd.prog 12 #[.pointer (some ⟨bb, 0, none⟩), .agg (k.map bv).toArray, .slice bo be.length cb, .slice xo tx.length cx] w (Sealed u w bb bs bm (B.seal k be tx)) := by
  have hi32 : (Tryd.prog.info? 37).map (·.size) = some (k.map bv).toArray.size := by rw [List.size_toArray, List.length_map, hk]; exact info_key
  obtain ⟨W1, hW1⟩ : ∃ W1, W1 = w.alloc (.cells (k.map bv).toArray 37) := ⟨_, rfl⟩
  have g1 : w.grownBy W1 none := by rw [hW1]; exact gb_alloc (gb_refl _ _) _
  have hK1 : Blk W1 w.heap.size 37 (k.map bv) := by rw [hW1]; exact Blk.new w _ _
  have h1 := h.none g1
  have gu1 := tn gu g1
  have b1 : By3 w W1 bb bs bm := (By3.refl w bb bs bm).none g1
  obtain ⟨hc0, hc1, _, _⟩ := h1.cell
  have c1 := made_at W1 bb ⟨bs, 0, none⟩ hc1
  have hbe' : ¬ (be.length : Int) > 65536 := by omega
  have htx' : ¬ (tx.length : Int) > 65536 := by omega
  have hbe2 : ¬ (65536 : Int) < (be.length : Int) := by omega
  have htx2 : ¬ (65536 : Int) < (tx.length : Int) := by omega
  have hb1 : ∀ V, By3 W1 V bb bs bm → Bts V bo cb be := fun V g => hb V (b1.trans g)
  have hx1 : ∀ V, By3 W1 V bb bs bm → Bts V xo cx tx := fun V g => hx V (b1.trans g)
  rcases hok.mode with hm | hm
  · have csr := sealReal_any u W1 bb bs bm B k be tx bo xo cb cx h1 gu1 hT hC hk hb1 hx1 hbe ht hok hm hus hL _ rfl
    obtain ⟨t, htt⟩ : ∃ t, t = told B.T B.u 12 ++ sealL k (told B.T B.u 12) be tx := ⟨_, rfl⟩
    rw [← htt] at csr
    have hR : B.seal k be tx = ({ B with u := B.u + 12, L := B.L ++ [⟨t, [], [], []⟩] }, some t) := by
      unfold BoxS.seal
      rw [if_pos hm, htt]
    rw [hR]
    rw [hm] at hc0
    obtain ⟨nb, hnb⟩ : ∃ n, n = be.length := ⟨_, rfl⟩
    obtain ⟨nx, hnx⟩ : ∃ n, n = tx.length := ⟨_, rfl⟩
    obtain ⟨KA, hKA⟩ : ∃ A : Array Value, A = (k.map bv).toArray := ⟨_, rfl⟩
    have hK2 : W1.heap[w.heap.size]? = some (.cells KA 37 (0, 0)) := by rw [hKA]; exact hK1
    rw [← hnb, ← hnx, ← hKA] at csr ⊢
    rw [← hnb] at hbe' hbe2
    rw [← hnx] at htx' htx2
    rw [← hKA] at hW1 hi32
    have hcz : W1.cell? ⟨bb, 0, none⟩ = some (.int .i64 0) := hc0
    have HW1 := hide hW1
    have HK := hide hK2
    have HI := hide hi32
    have B1 := hide b1
    clear hW1 g1 hK1 hK2 h1 gu1 b1 hb1 hx1 htt hR hc0 hc1 hm hnb hnx hKA hi32 h gu hT hC hk hb hx hbe ht hok hus hL
    go_enter Tryd.func12, Tryd.ntmps12
    go_upto_region 1 with fail
    rw [← unhide HW1]
    go_wp2_with (first
      | (go_at_call 27; refine c1.mono ?_; rintro e w2 ⟨rfl, e2⟩; subst w2; clear c1)
      | (refine wpList_load_row rfl 37 _ rfl w.heap.size rfl _ _ _ _ (unhide HK) Tryd.underlying37 rfl (unhide HI) ?_)
      | (go_at_call 28; refine csr.mono ?_; rintro e w3 ⟨ao, c, rfl, hs3, hB3, b3⟩; clear csr))
    go_ret2
    exact ⟨ao, c, rfl, hs3, hB3, (unhide B1).trans b3⟩
  · have csi := sealIdeal_any u W1 bb bs bm B k be tx h1 gu1 hT hk (hok.keys hm) (by omega) hus hL
    have hR : B.seal k be tx = B.tries k be tx 8 := by
      unfold BoxS.seal
      rw [if_neg (by omega)]
    rw [hR]
    rw [hm] at hc0
    have hcb := conv_str (hb1 W1 (By3.refl _ _ _ _))
    have hct := conv_str (hx1 W1 (By3.refl _ _ _ _))
    have hbo := built_own k (str be) hk
    have hbc := built_cont k (str be) (str tx) hk
    rw [show contV ⟨[], k, be, tx⟩ = .agg (k.map bv ++ [Value.string (str be), Value.string (str tx)]).toArray by unfold contV contC; rw [padK_full hk]] at csi
    obtain ⟨sb, hsb⟩ : ∃ s, s = str be := ⟨_, rfl⟩
    obtain ⟨st, hst⟩ : ∃ s, s = str tx := ⟨_, rfl⟩
    rw [← hsb] at hcb hbo
    rw [← hst] at hct
    rw [← hsb, ← hst] at hbc csi
    obtain ⟨OA, hOA⟩ : ∃ A : Array Value, A = (k.map bv ++ [Value.string sb]).toArray := ⟨_, rfl⟩
    obtain ⟨CA, hCA⟩ : ∃ A : Array Value, A = (k.map bv ++ [Value.string sb, Value.string st]).toArray := ⟨_, rfl⟩
    obtain ⟨KA, hKA⟩ : ∃ A : Array Value, A = (k.map bv).toArray := ⟨_, rfl⟩
    rw [← hOA] at hbo hbc
    rw [← hCA] at hbc csi
    obtain ⟨nb, hnb⟩ : ∃ n, n = be.length := ⟨_, rfl⟩
    obtain ⟨nx, hnx⟩ : ∃ n, n = tx.length := ⟨_, rfl⟩
    have hK2 : W1.heap[w.heap.size]? = some (.cells KA 37 (0, 0)) := by rw [hKA]; exact hK1
    rw [← hnb, ← hnx, ← hKA]
    rw [← hnb] at hbe' hcb hbe2
    rw [← hnx] at htx' hct htx2
    rw [← hKA] at hW1 hi32 hbo
    have hcz : W1.cell? ⟨bb, 0, none⟩ = some (.int .i64 1) := hc0
    obtain ⟨R, hRR⟩ : ∃ R, R = B.tries k be tx 8 := ⟨_, rfl⟩
    rw [← hRR] at csi ⊢
    have HW1 := hide hW1
    have HK := hide hK2
    have HI := hide hi32
    have B1 := hide b1
    have HBO := hide hbo
    have HBC := hide hbc
    clear hW1 g1 hK1 hK2 h1 gu1 b1 hb1 hx1 hR hRR hc0 hc1 hm hnb hnx hKA hi32 hbo hbc hOA hCA hsb hst h gu hT hC hk hb hx hbe ht hok hus hL
    go_enter Tryd.func12, Tryd.ntmps12
    go_upto_region 1 with fail
    rw [← unhide HW1]
    go_wp2_with (first
      | (go_at_call 27; refine c1.mono ?_; rintro e w2 ⟨rfl, e2⟩; subst w2; clear c1)
      | (refine wpList_load_row rfl 37 _ rfl w.heap.size rfl _ _ _ _ (unhide HK) Tryd.underlying37 rfl (unhide HI) ?_)
      | (refine wpList_built rfl 81 _ rfl OA ?hbo ?_)
      | (refine wpList_built rfl 83 _ rfl CA ?hbc ?_)
      | (go_at_call 29; refine csi.mono ?_; rintro e w3 ⟨ao, c, rfl, hs3, hB3, b3⟩; clear csi))
    case hbo => exact unhide HBO
    case hbc => exact unhide HBC
    go_ret2
    exact ⟨ao, c, rfl, hs3, hB3, (unhide B1).trans b3⟩

/-- What an Open answers. -/
def Opened (w : World) (o : Option (List UInt8)) (e : Ending) (w' : World) : Prop :=
  ∃ xo xc, e = .returned (.tuple #[.slice xo (txtO o).length xc, .bool o.isSome]) ∧ BtT w' xo xc (txtO o) ∧ w.grownBy w' none

set_option maxRecDepth 100000 in
set_option maxHeartbeats 2000000 in
theorem open_any (u w : World) (bb bs bm : Nat) (B : BoxS) (k be s : List UInt8) (bo so : Option Addr) (cb cs : Nat) (h : BoxAt u w bb bs bm B) (gu : u.grownBy w none) (hC : CTab u) (hk : k.length = 32) (hb : Bts w bo cb be) (hs : Bts w so cs s)
    (hbe : be.length ≤ 1000) (hsl : s.length ≤ 1500) (hok : B.Ok) (htx : ∀ x ∈ B.L, x.tx.length ≤ 2000) :
    Calls Tryd.prog 14 #[.pointer (some ⟨bb, 0, none⟩), .agg (k.map bv).toArray, .slice bo be.length cb, .slice so s.length cs] w (Opened w (B.opn k be s)) := by
  have hi32 : (Tryd.prog.info? 37).map (·.size) = some (k.map bv).toArray.size := by rw [List.size_toArray, List.length_map, hk]; exact info_key
  obtain ⟨W1, hW1⟩ : ∃ W1, W1 = w.alloc (.cells (k.map bv).toArray 37) := ⟨_, rfl⟩
  have g1 : w.grownBy W1 none := by rw [hW1]; exact gb_alloc (gb_refl _ _) _
  have hK1 : Blk W1 w.heap.size 37 (k.map bv) := by rw [hW1]; exact Blk.new w _ _
  have h1 := h.none g1
  have gu1 := tn gu g1
  obtain ⟨hc0, hc1, _, _⟩ := h1.cell
  have c1 := made_at W1 bb ⟨bs, 0, none⟩ hc1
  have hb1 : Bts W1 bo cb be := hb.kept g1 (fun _ e => by cases e)
  have hs1 : Bts W1 so cs s := hs.kept g1 (fun _ e => by cases e)
  rcases hok.mode with hm | hm
  · have cor := openReal_any W1 k be s bo so cb cs (hC.kept0 gu1) hk hb1 hs1 hbe hsl
    have hR : B.opn k be s = opnR k be s := by
      unfold BoxS.opn opnR
      rw [if_pos hm]
    rw [hR]
    rw [hm] at hc0
    obtain ⟨o, ho⟩ : ∃ o, o = opnR k be s := ⟨_, rfl⟩
    rw [← ho] at cor ⊢
    obtain ⟨nb, hnb⟩ : ∃ n, n = be.length := ⟨_, rfl⟩
    obtain ⟨nx, hnx⟩ : ∃ n, n = s.length := ⟨_, rfl⟩
    obtain ⟨KA, hKA⟩ : ∃ A : Array Value, A = (k.map bv).toArray := ⟨_, rfl⟩
    have hK2 : W1.heap[w.heap.size]? = some (.cells KA 37 (0, 0)) := by rw [hKA]; exact hK1
    rw [← hnb, ← hnx, ← hKA] at cor ⊢
    rw [← hKA] at hW1 hi32
    have hcz : W1.cell? ⟨bb, 0, none⟩ = some (.int .i64 0) := hc0
    have HW1 := hide hW1
    have HK := hide hK2
    have HI := hide hi32
    have G1 := hide g1
    clear hW1 g1 hK1 hK2 h1 gu1 hb1 hs1 hR ho hc0 hc1 hm hnb hnx hKA hi32 h gu hC hk hb hs hbe hsl hok htx
    go_enter Tryd.func14, Tryd.ntmps14
    go_upto_region 1 with fail
    rw [← unhide HW1]
    go_wp2_with (first
      | (go_at_call 27; refine c1.mono ?_; rintro e w2 ⟨rfl, e2⟩; subst w2; clear c1)
      | (refine wpList_load_row rfl 37 _ rfl w.heap.size rfl _ _ _ _ (unhide HK) Tryd.underlying37 rfl (unhide HI) ?_)
      | (go_at_call 32; refine cor.mono ?_; rintro e w3 ⟨ao, c, rfl, hs3, b3⟩; clear cor))
    go_ret2
    exact ⟨ao, c, rfl, hs3, tn (unhide G1) b3⟩
  · have coi := openIdeal_any u W1 bb bs bm B k be s so cs h1 hs1 hk hm hok htx
    rw [hm] at hc0
    have hcb := conv_str hb1
    have hbo := built_own k (str be) hk
    rw [show ownC k be = k.map bv ++ [Value.string (str be)] from rfl] at coi
    obtain ⟨sb, hsb⟩ : ∃ s, s = str be := ⟨_, rfl⟩
    rw [← hsb] at hcb hbo coi
    obtain ⟨OA, hOA⟩ : ∃ A : Array Value, A = (k.map bv ++ [Value.string sb]).toArray := ⟨_, rfl⟩
    obtain ⟨KA, hKA⟩ : ∃ A : Array Value, A = (k.map bv).toArray := ⟨_, rfl⟩
    rw [← hOA] at hbo coi
    obtain ⟨o, ho⟩ : ∃ o, o = B.opn k be s := ⟨_, rfl⟩
    rw [← ho] at coi ⊢
    obtain ⟨nb, hnb⟩ : ∃ n, n = be.length := ⟨_, rfl⟩
    obtain ⟨nx, hnx⟩ : ∃ n, n = s.length := ⟨_, rfl⟩
    have hK2 : W1.heap[w.heap.size]? = some (.cells KA 37 (0, 0)) := by rw [hKA]; exact hK1
    rw [← hnb, ← hnx, ← hKA]
    rw [← hnx] at coi
    rw [← hnb] at hcb
    rw [← hKA] at hW1 hi32 hbo
    have hcz : W1.cell? ⟨bb, 0, none⟩ = some (.int .i64 1) := hc0
    have HW1 := hide hW1
    have HK := hide hK2
    have HI := hide hi32
    have G1 := hide g1
    have HBO := hide hbo
    clear hW1 g1 hK1 hK2 h1 gu1 hb1 hs1 ho hc0 hc1 hm hnb hnx hKA hi32 hbo hOA hsb h gu hC hk hb hs hbe hsl hok htx
    go_enter Tryd.func14, Tryd.ntmps14
    go_upto_region 1 with fail
    rw [← unhide HW1]
    go_wp2_with (first
      | (go_at_call 27; refine c1.mono ?_; rintro e w2 ⟨rfl, e2⟩; subst w2; clear c1)
      | (refine wpList_load_row rfl 37 _ rfl w.heap.size rfl _ _ _ _ (unhide HK) Tryd.underlying37 rfl (unhide HI) ?_)
      | (refine wpList_built rfl 81 _ rfl OA ?hbo ?_)
      | (go_at_call 33; refine coi.mono ?_; rintro e w3 ⟨ao, c, rfl, hs3, b3⟩; clear coi))
    case hbo => exact unhide HBO
    go_ret2
    exact ⟨ao, c, rfl, hs3, tn (unhide G1) b3⟩

end Go.Proofs.YtjckdgapefaokaaDoor
