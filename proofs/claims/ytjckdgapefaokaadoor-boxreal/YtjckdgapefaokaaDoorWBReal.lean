/- BoxReal's walk: in the mode Real what is sealed is the nonce that was drawn, and the cipher's text by it; another box of that mode opens it. For any first bytes, key and two texts. -/
import Derived.Test.YtjckdgapefaokaaDoorBLaw
import Derived.BigQuiet
namespace Go.Proofs.YtjckdgapefaokaaDoor
open Go.RowKit

/-- At most 200. -/
def sh200 (n : Nat) : Nat := min n 200
theorem sh200_le (n : Nat) : sh200 n ≤ 200 := Nat.min_le_right _ _
theorem take200_length (l : List UInt8) : (l.take 200).length = sh200 l.length := by rw [List.length_take, Nat.min_comm]; rfl

theorem short8_min (w : World) (ao : Option Addr) (n c : Nat) (h : n ≤ c) : Calls Tryd.prog 11 #[.slice ao n c] w fun e w' => e = .returned (.slice ao (sh200 n) c) ∧ w' = w := by
  have := short8_any w ao c (List.replicate n 0) (by simpa using h)
  rw [take200_length, List.length_replicate] at this
  exact this

/-- New of one text. -/
theorem dnew_one (u V : World) (ao : Option Addr) (c : Nat) (F : List UInt8) (gV : u.grownBy V none) (hF : Bts u ao c F) (hT : Tabs u) (hl : F.length ≤ 1000) : ∃ W, W = V.alloc (.cells #[.slice ao F.length c] 22) ∧ u.grownBy W none ∧ V.grownBy W none ∧
    Calls Tryd.prog 9 #[.slice (some ⟨V.heap.size, 0, none⟩) 1 1] W fun e w' => ∃ b, e = .returned (.pointer (some ⟨b, 0, none⟩)) ∧ V.heap.size ≤ b ∧ SrcAt w' b F 0 ∧ V.grownBy w' none := by
  obtain ⟨W, hW, hB, g⟩ := alloc_one V (.slice ao F.length c)
  refine ⟨W, hW, tn gV g, g, ?_⟩
  have hL := lst_single hB ((hF.old gV).kept g (fun _ e => by cases e))
  have := dnew_any W _ 1 [F] hL (hT.kept0 (tn gV g)) (by simp; omega)
  rw [show ([F] : List (List UInt8)).flatten = F by simp, show ([F] : List (List UInt8)).length = 1 from rfl] at this
  exact this.mono fun e w' ⟨b, he, hb, hS, gg⟩ => ⟨b, he, Nat.le_trans g.size hb, hS, tn g gg⟩

theorem dnew_nil (u V : World) (gV : u.grownBy V none) (hT : Tabs u) : Calls Tryd.prog 9 #[.slice none 0 0] V fun e w' => ∃ b, e = .returned (.pointer (some ⟨b, 0, none⟩)) ∧ V.heap.size ≤ b ∧ SrcAt w' b [] 0 ∧ V.grownBy w' none :=
  dnew_any V none 0 [] ⟨(fun _ => ⟨rfl, rfl⟩), Nat.le_refl _, Nat.zero_le _, (fun _ e => by cases e), (fun _ e => by cases e)⟩ (hT.kept0 gV) (by simp)

set_option maxRecDepth 100000 in
set_option maxHeartbeats 4000000 in
theorem boxReal_cut (w : World) (a0 : Option Addr) (n0 c0 : Nat) (F : List UInt8) (hF : Bts w a0 c0 F) (k : List UInt8) (hk : k.length = 32) (a1 a2 : Option Addr) (c1 c2 : Nat) (l1 l2 : List UInt8) (hb1 : Bts w a1 c1 l1) (hb2 : Bts w a2 c2 l2) (hT : Tabs w) (hC : CTab w)
    (hn : (n0 = F.length ∧ n0 ≤ 300) ∨ (300 < n0 ∧ F.length = 300 ∧ n0 ≤ c0)) :
    Calls Tryd.prog 7 #[.slice a0 n0 c0, .agg (k.map bv).toArray, .agg #[.slice a1 l1.length c1, .slice a2 l2.length c2]] w fun e w' => e = .returned (.bool true) ∧ w.grownBy w' none := by
  have hi32 : (Tryd.prog.info? 37).map (·.size) = some (k.map bv).toArray.size := by rw [List.size_toArray, List.length_map, hk]; exact info_key
  obtain ⟨W2, hW2⟩ : ∃ W2, W2 = (w.alloc (.cells (k.map bv).toArray 37)).alloc (.cells #[.slice a1 l1.length c1, .slice a2 l2.length c2] 61) := ⟨_, rfl⟩
  have g2 : w.grownBy W2 none := by rw [hW2]; exact gb_alloc (gb_alloc (gb_refl _ _) _) _
  have hK2 : Blk W2 w.heap.size 37 (k.map bv) := by rw [hW2]; exact (Blk.new w _ _).alloc _
  have hP2 : Blk W2 (w.heap.size + 1) 61 [.slice a1 l1.length c1, .slice a2 l2.length c2] := by
    have := Blk.new (w.alloc (.cells (k.map bv).toArray 37)) 61 [.slice a1 l1.length c1, .slice a2 l2.length c2]
    rw [World.size_alloc] at this
    rw [hW2]; exact this
  have hFl : F.length ≤ 300 := by omega
  obtain ⟨be, hbe⟩ : ∃ be, be = l1.take 200 := ⟨_, rfl⟩
  obtain ⟨tx, htx⟩ : ∃ tx, tx = l2.take 200 := ⟨_, rfl⟩
  have hbl : be.length = sh200 l1.length := by rw [hbe]; exact take200_length l1
  have htl : tx.length = sh200 l2.length := by rw [htx]; exact take200_length l2
  have hB : Bts w a1 c1 be := by rw [hbe]; exact hb1.short 200
  have hX : Bts w a2 c2 tx := by rw [htx]; exact hb2.short 200
  have hsh1 := sh200_le l1.length
  have hsh2 := sh200_le l2.length
  have hf1 : l1.length ≤ c1 := hb1.fits
  have hf2 : l2.length ≤ c2 := hb2.fits
  -- what is sealed
  obtain ⟨N, hN⟩ : ∃ N, N = told F 0 12 := ⟨_, rfl⟩
  have hNl : N.length = 12 := by rw [hN]; exact told_length _ _ _
  obtain ⟨SE, hSE⟩ : ∃ SE, SE = sealL k N be tx := ⟨_, rfl⟩
  have hSl : SE.length = tx.length + 16 := by rw [hSE]; exact sealL_length _ _ _ _
  obtain ⟨t, ht⟩ : ∃ t, t = N ++ SE := ⟨_, rfl⟩
  have htt : t.length = tx.length + 28 := by rw [ht, List.length_append, hNl, hSl]; omega
  have ht12 : t.take 12 = N := by rw [ht, List.take_left' hNl]
  have htd : t.drop 12 = SE := by rw [ht, List.drop_left' hNl]
  have hseal : (BoxS.mk 0 F 0 []).seal k be tx = (⟨0, F, 12, [⟨t, [], [], []⟩]⟩, some t) := by
    unfold BoxS.seal
    rw [if_pos rfl, ht, hSE, hN]; rfl
  have hopen : (BoxS.mk 0 [] 0 []).opn k be t = some tx := by
    rw [ht, hSE, hN]
    exact opn_real (b := ⟨0, F, 0, []⟩) rfl k be tx
  have hokB := ok_new 0 (Or.inl rfl) F 0
  have hokC := ok_new 0 (Or.inl rfl) [] 0
  have hkn1 : (BoxS.mk 0 F 12 [⟨t, [], [], []⟩]).known t = true := by simp [BoxS.known, BoxS.ss]
  have hkn2 : (BoxS.mk 0 [] 0 []).known t = false := rfl
  -- the contracts
  have cnew1 : ∀ V, w.grownBy V none → ∃ W, W = V.alloc (.cells #[.slice a0 F.length c0] 22) ∧ w.grownBy W none ∧ V.grownBy W none ∧ Calls Tryd.prog 9 #[.slice (some ⟨V.heap.size, 0, none⟩) 1 1] W fun e w' => ∃ b, e = .returned (.pointer (some ⟨b, 0, none⟩)) ∧ V.heap.size ≤ b ∧ SrcAt w' b F 0 ∧ V.grownBy w' none := fun V gV => dnew_one w V a0 c0 F gV hF hT (by omega)
  have cnew0 : ∀ V, w.grownBy V none → Calls Tryd.prog 9 #[.slice none 0 0] V fun e w' => ∃ b, e = .returned (.pointer (some ⟨b, 0, none⟩)) ∧ V.heap.size ≤ b ∧ SrcAt w' b [] 0 ∧ V.grownBy w' none := fun V gV => dnew_nil w V gV hT
  have cbn : ∀ V bs T, w.grownBy V none → w.heap.size ≤ bs → SrcAt V bs T 0 → Calls Tryd.prog 8 #[.int .i64 0, .pointer (some ⟨bs, 0, none⟩)] V fun e w' => ∃ bb bm, e = .returned (.tuple #[.pointer (some ⟨bb, 0, none⟩), .int .i64 0]) ∧ V.heap.size ≤ bb ∧ V.heap.size ≤ bm ∧ BoxAt w w' bb bs bm ⟨0, T, 0, []⟩ ∧ V.grownBy w' none := fun V bs T gV hbs hS => new_any w V 0 bs T 0 (Or.inl rfl) gV hbs hS
  have cse : ∀ V bb bs bm, w.grownBy V none → BoxAt w V bb bs bm ⟨0, F, 0, []⟩ → Calls Tryd.prog 12 #[.pointer (some ⟨bb, 0, none⟩), .agg (k.map bv).toArray, .slice a1 (sh200 l1.length) c1, .slice a2 (sh200 l2.length) c2] V fun e w' => ∃ so sc, e = .returned (.tuple #[.slice so (sh200 l2.length + 28) sc, .int .i64 0]) ∧ BtT w' so sc t ∧ BoxAt w w' bb bs bm ⟨0, F, 12, [⟨t, [], [], []⟩]⟩ ∧ By3 V w' bb bs bm ∧ w.grownBy w' none := fun V bb bs bm gV hV => by
    have := seal_any w V bb bs bm ⟨0, F, 0, []⟩ k be tx a1 a2 c1 c2 hV gV hT hC hk (Stays.old hB hV gV) (Stays.old hX hV gV) (by omega) (by omega) hokB (Nat.zero_le _) (Nat.zero_le _)
    rw [hseal, hbl, htl] at this
    refine this.mono fun e w' ⟨so, sc, he, hs, hB', b⟩ => ⟨so, sc, ?_, hs, hB', b, by3_gb gV b hV.nb hV.ns hV.nm⟩
    rw [he]
    show Ending.returned (.tuple #[.slice so t.length sc, .int .i64 0]) = _
    rw [htt, htl]
  have ctk : ∀ V b, w.grownBy V none → w.heap.size ≤ b → SrcAt V b F 0 → Calls Tryd.prog 22 #[.pointer (some ⟨b, 0, none⟩), .int .i64 12] V fun e w' => ∃ g, e = .returned (.slice (some ⟨g, 0, none⟩) 12 12) ∧ V.heap.size ≤ g ∧ Blk w' g 5 (N.map bv) ∧ V.grownBy w' (some b) ∧ w.grownBy w' none := fun V b gV hb hS => by
    have := take_some V b F 0 12 hS.fit (hT.kept0 gV) (by omega) (by omega) (by omega)
    rw [← hN] at this
    exact this.mono fun e w' ⟨g, he, hg, hG, _, gg⟩ => ⟨g, he, hg, hG, gg, ts hb gV gg⟩
  have cae : ∀ V, w.grownBy V none → Calls Tryd.prog 23 #[.agg (k.map bv).toArray, .agg (N.map bv).toArray, .slice a1 (sh200 l1.length) c1, .slice a2 (sh200 l2.length) c2] V fun e w' => ∃ ro rc, e = .returned (.slice ro SE.length rc) ∧ Bts w' ro rc SE ∧ V.grownBy w' none := fun V gV => by
    have := aead_ok.sealed V k N be tx a1 a2 c1 c2 hk hNl (hB.old gV) (hX.old gV) (by omega) (by omega) (hC.kept0 gV)
    rw [← hSE, hbl, htl] at this
    exact this.mono fun e w' ⟨v, he, ⟨ro, rc, hv, hB', _⟩, gg⟩ => ⟨ro, rc, by rw [he, hv], hB', gg⟩
  have cop : ∀ V cb cs cm so sc, w.grownBy V none → BoxAt w V cb cs cm ⟨0, [], 0, []⟩ → BtT V so sc t → Calls Tryd.prog 14 #[.pointer (some ⟨cb, 0, none⟩), .agg (k.map bv).toArray, .slice a1 (sh200 l1.length) c1, .slice so (sh200 l2.length + 28) sc] V fun e w' => ∃ xo xc, e = .returned (.tuple #[.slice xo (sh200 l2.length) xc, .bool true]) ∧ BtT w' xo xc tx ∧ V.grownBy w' none := fun V cb cs cm so sc gV hV hs => by
    have := open_any w V cb cs cm ⟨0, [], 0, []⟩ k be t a1 so c1 sc hV gV hC hk (hB.old gV) hs.bts (by omega) (by omega) hokC (fun x hx => by simp at hx)
    rw [hopen, hbl, htt, htl] at this
    refine this.mono fun e w' ⟨xo, xc, he, hx, gg⟩ => ⟨xo, xc, ?_, hx, gg⟩
    rw [he]
    show Ending.returned (.tuple #[.slice xo tx.length xc, .bool true]) = _
    rw [htl]
  have ckn : ∀ V bb bs bm (B : BoxS) r so sc, BoxAt w V bb bs bm B → BtT V so sc t → (∀ x ∈ B.L, x.k.length ≤ 32) → B.known t = r → Calls Tryd.prog 16 #[.pointer (some ⟨bb, 0, none⟩), .slice so (sh200 l2.length + 28) sc] V fun e w' => e = .returned (.bool r) ∧ V.grownBy w' none := fun V bb bs bm B r so sc hV hs hkk hr => by
    have := known_any w V bb bs bm B t so sc hV hs.bts hkk
    rw [hr, htt, htl] at this
    exact this
  have cone : ∀ V, w.grownBy V none → Calls Tryd.prog 10 #[] V fun e w' => e = .returned (.bool true) ∧ V.grownBy w' none := fun V gV => bone_any V (hT.kept0 gV) (hC.kept0 gV)
  obtain ⟨sN, hsN⟩ : ∃ s, s = str N := ⟨_, rfl⟩
  obtain ⟨sE, hsE⟩ : ∃ s, s = str SE := ⟨_, rfl⟩
  obtain ⟨sT, hsT⟩ : ∃ s, s = str tx := ⟨_, rfl⟩
  have hcX : ∀ V, w.grownBy V none → (convert 22 9 (.slice a2 (sh200 l2.length) c2)).run Tryd.prog V = .ok (.string sT) V := fun V gV => by
    have := conv_str (hX.old gV)
    rw [htl, ← hsT] at this
    exact this
  have hcv12 : ∀ V so sc, BtT V so sc t → (convert 22 9 (.slice so 12 sc)).run Tryd.prog V = .ok (.string sN) V := fun V so sc hs => by
    have := conv_str (hs.bts.take 12 (by omega))
    rw [ht12, hNl, ← hsN] at this
    exact this
  have hcvG : ∀ V g, Blk V g 5 (N.map bv) → (convert 22 9 (.slice (some ⟨g, 0, none⟩) 12 12)).run Tryd.prog V = .ok (.string sN) V := fun V g hG => by
    have := conv_str (blk_bytes hG 12 (by omega) (by decide))
    rw [hNl, ← hsN] at this
    exact this
  have hcvD : ∀ V so sc, BtT V so sc t → (convert 22 9 (.slice (cutA so sc 12) (sh200 l2.length + 16) (sc - 12))).run Tryd.prog V = .ok (.string sE) V := fun V so sc hs => by
    have := conv_str (hs.bts.drop 12 (by omega))
    rw [htd, hSl, htl, ← hsE] at this
    exact this
  have hcvE : ∀ V ro rc, Bts V ro rc SE → (convert 22 9 (.slice ro SE.length rc)).run Tryd.prog V = .ok (.string sE) V := fun V ro rc hs => by rw [hsE]; exact conv_str hs
  have hcvT : ∀ V xo xc, BtT V xo xc tx → (convert 22 9 (.slice xo (sh200 l2.length) xc)).run Tryd.prog V = .ok (.string sT) V := fun V xo xc hs => by
    have := conv_str hs.bts
    rw [htl, ← hsT] at this
    exact this
  have hsl1 : ∀ V so sc, BtT V so sc t → ∀ W, (Instr.slice 22 (.slice so (sh200 l2.length + 28) sc) none (some (.int .i64 12)) none).run Tryd.prog W = .ok (.slice so 12 sc) W := fun V so sc hs W => slice_to (P := Tryd.prog) W 22 5 Tryd.underlying22 size_byte so _ sc 12 (by have := hs.bts.fits; omega)
  have hsl2 : ∀ V so sc, BtT V so sc t → ∀ W, (Instr.slice 22 (.slice so (sh200 l2.length + 28) sc) (some (.int .i64 12)) none none).run Tryd.prog W = .ok (.slice (cutA so sc 12) (sh200 l2.length + 16) (sc - 12)) W := fun V so sc hs W => by
    have := slice_from (P := Tryd.prog) W 22 5 Tryd.underlying22 size_byte so (sh200 l2.length + 28) sc 12 (by omega)
    rw [show sh200 l2.length + 28 - 12 = sh200 l2.length + 16 by omega] at this
    exact this
  have hk1 : ∀ x ∈ (BoxS.mk 0 F 12 [⟨t, [], [], []⟩]).L, x.k.length ≤ 32 := fun x hx => by
    have : x = ⟨t, [], [], []⟩ := by simpa using hx
    rw [this]; exact Nat.zero_le _
  have hk2 : ∀ x ∈ (BoxS.mk 0 [] 0 []).L, x.k.length ≤ 32 := fun x hx => by simp at hx
  -- letters
  obtain ⟨nE, hnE⟩ : ∃ n, n = SE.length := ⟨_, rfl⟩
  obtain ⟨q1, hq1⟩ : ∃ n, n = l1.length := ⟨_, rfl⟩
  obtain ⟨q2, hq2⟩ : ∃ n, n = l2.length := ⟨_, rfl⟩
  obtain ⟨nF, hnF⟩ : ∃ n, n = F.length := ⟨_, rfl⟩
  simp only [← hnE] at cae hcvE
  simp only [← hq1] at cse cae cop hW2 hP2 hf1
  simp only [← hq2] at cse cae cop ckn hcX hcvD hcvT hsl1 hsl2 hW2 hP2 hf2
  simp only [← hnF] at cnew1 hn
  rw [← hq1, ← hq2]
  obtain ⟨KL, hKL⟩ : ∃ L, L = k.map bv := ⟨_, rfl⟩
  obtain ⟨NL, hNL⟩ : ∃ L, L = N.map bv := ⟨_, rfl⟩
  have hi12 : (Tryd.prog.info? 64).map (·.size) = some NL.length := by rw [hNL, List.length_map, hNl]; exact info_nonce
  have hi32' : (Tryd.prog.info? 37).map (·.size) = some KL.length := by rw [hKL, List.length_map, hk]; exact info_key
  simp only [← hKL] at cse cae cop hW2 hK2 hi32 ⊢
  simp only [← hNL] at ctk cae hcvG
  have HW2 := hide hW2
  have HK2 := hide hK2
  have HP2 := hide hP2
  have G2 := hide g2
  have HN1 := hide cnew1
  have HN0 := hide cnew0
  have HBN := hide cbn
  have HSE := hide cse
  have HTK := hide ctk
  have HAE := hide cae
  have HOP := hide cop
  have HKN := hide ckn
  have HON := hide cone
  have HKN1 := hide hkn1
  have HKN2 := hide hkn2
  have HK1 := hide hk1
  have HKK2 := hide hk2
  have HCX := hide hcX
  have HC12 := hide hcv12
  have HCG := hide hcvG
  have HCD := hide hcvD
  have HCE := hide hcvE
  have HCT := hide hcvT
  have HS1 := hide hsl1
  have HS2 := hide hsl2
  have HI := hide hi32
  have HI12 := hide hi12
  have HI32 := hide hi32'
  clear hW2 hK2 hP2 g2 cnew1 cnew0 cbn cse ctk cae cop ckn cone hkn1 hkn2 hk1 hk2 hcX hcv12 hcvG hcvD hcvE hcvT hsl1 hsl2 hi32 hi12 hi32' hFl hbe htx hbl htl hB hX hsh1 hsh2 hN hNl hSE hSl ht htt ht12 htd hseal hopen hokB hokC hsN hsE hsT hnE hq1 hq2 hnF hKL hNL hF hk hb1 hb2 hT hC
  go_enter Tryd.func7, Tryd.ntmps7
  go_upto_region 1 with fail
  rw [← unhide HW2]
  go_upto_if 19 with fail
  go_cut [0] (fun x0 wx => x0 = .slice a0 nF c0 ∧ wx = W2)
  case first =>
    rcases hn with ⟨rfl, h300⟩ | ⟨h300, rfl, hc300⟩
    · have h301 : ¬ (300 : Int) < (n0 : Int) := by omega
      go_wp2
      go_meet
      case rel => exact ⟨rfl, rfl⟩
    · have h301 : (300 : Int) < (n0 : Int) := by omega
      have hto : ∀ W, (Instr.slice 22 (.slice a0 n0 c0) none (some (.int .i64 300)) none).run Tryd.prog W = .ok (.slice a0 300 c0) W := fun W => slice_to (P := Tryd.prog) W 22 5 Tryd.underlying22 size_byte a0 n0 c0 300 (by omega)
      go_wp2
      go_meet
      case rel => exact ⟨rfl, rfl⟩
  case rest =>
    obtain ⟨rfl, rfl⟩ := hcut
    clear hn
    go_upto_region 3 with fail
    refine region_named fun O hO => ?_
    refine wpList_val (by rw [hO]; kernel_rfl) (.slice a0 nF c0) (fun K9 hK9 => by go_simp; exact hK9) ?_
    (try simp only [Act.put, List.setIfInBounds_toArray, List.set_cons_zero, List.set_cons_succ])
    refine wpList_want (by rw [hO]; kernel_rfl) fun K9 hK9 => ?_
    go_simp
    refine hK9 _ _ ?_
    clear hK9 K9
    (try simp only [Act.put, List.setIfInBounds_toArray, List.set_cons_zero, List.set_cons_succ])
    obtain ⟨Wn, hWn, Gn, gn, cn9⟩ := unhide HN1 wc (unhide G2)
    rw [← hWn]
    clear hWn
    refine wpList_want (by rw [hO]; kernel_rfl) fun K9 hK9 => ?_
    go_simp
    go_at_call 9
    refine (cn9).mono ?_
    rintro e w4 ⟨bs, rfl, hbs, hS4, g4⟩
    clear cn9 Gn gn Wn
    have G4 := tn (unhide G2) g4
    refine hK9 _ _ ?_
    clear hK9 K9
    (try simp only [Act.put, List.setIfInBounds_toArray, List.set_cons_zero, List.set_cons_succ])
    refine wpList_want (by rw [hO]; kernel_rfl) fun K9 hK9 => ?_
    go_simp
    go_at_call 8
    refine (unhide HBN w4 bs F G4 (Nat.le_trans (unhide G2).size hbs) hS4).mono ?_
    rintro e w5 ⟨bb, bm, rfl, hbb, hbm, hB5, g5⟩
    have G5 := tn G4 g5
    clear hS4
    refine hK9 _ _ ?_
    clear hK9 K9
    (try simp only [Act.put, List.setIfInBounds_toArray, List.set_cons_zero, List.set_cons_succ])
    refine wpList_val (by rw [hO]; kernel_rfl) (.tuple #[.pointer (some ⟨bb, 0, none⟩), .int .i64 0]) (fun K9 hK9 => by go_simp; exact hK9) ?_
    (try simp only [Act.put, List.setIfInBounds_toArray, List.set_cons_zero, List.set_cons_succ])
    refine wpList_val (by rw [hO]; kernel_rfl) (.pointer (some ⟨bb, 0, none⟩)) (fun K9 hK9 => by go_simp; exact hK9) ?_
    (try simp only [Act.put, List.setIfInBounds_toArray, List.set_cons_zero, List.set_cons_succ])
    refine wpList_val (by rw [hO]; kernel_rfl) (.int .i64 0) (fun K9 hK9 => by go_simp; exact hK9) ?_
    (try simp only [Act.put, List.setIfInBounds_toArray, List.set_cons_zero, List.set_cons_succ])
    refine wpList_val (by rw [hO]; kernel_rfl) (.pointer (some ⟨bb, 0, none⟩)) (fun K9 hK9 => by go_simp; exact hK9) ?_
    (try simp only [Act.put, List.setIfInBounds_toArray, List.set_cons_zero, List.set_cons_succ])
    refine wpList_val (by rw [hO]; kernel_rfl) (.int .i64 0) (fun K9 hK9 => by go_simp; exact hK9) ?_
    (try simp only [Act.put, List.setIfInBounds_toArray, List.set_cons_zero, List.set_cons_succ])
    go_upto_region 4 with fail
    refine region_named fun O hO => ?_
    refine wpList_want (by rw [hO]; kernel_rfl) fun K9 hK9 => ?_
    go_simp
    go_at_call 9
    refine (unhide HN0 w5 G5).mono ?_
    rintro e w6 ⟨cs, rfl, hcs, hS6, g6⟩
    have G6 := tn G5 g6
    have hB6 := hB5.none g6
    refine hK9 _ _ ?_
    clear hK9 K9
    (try simp only [Act.put, List.setIfInBounds_toArray, List.set_cons_zero, List.set_cons_succ])
    refine wpList_want (by rw [hO]; kernel_rfl) fun K9 hK9 => ?_
    go_simp
    go_at_call 8
    refine (unhide HBN w6 cs [] G6 (Nat.le_trans G5.size hcs) hS6).mono ?_
    rintro e w7 ⟨cb, cm, rfl, hcb, hcm, hC7, g7⟩
    have G7 := tn G6 g7
    have hB7 := hB6.none g7
    have hne1 : cb ≠ bb := by have := hB6.blk.lt; omega
    have hne2 : cs ≠ bs := by have := hB5.src.blk.lt; omega
    have hne3 : cm ≠ bm := by have := hB6.map.lt; omega
    clear hB5 hB6 hS6 hbb hbm hcb hcm hcs hbs
    refine hK9 _ _ ?_
    clear hK9 K9
    (try simp only [Act.put, List.setIfInBounds_toArray, List.set_cons_zero, List.set_cons_succ])
    refine wpList_val (by rw [hO]; kernel_rfl) (.tuple #[.pointer (some ⟨cb, 0, none⟩), .int .i64 0]) (fun K9 hK9 => by go_simp; exact hK9) ?_
    (try simp only [Act.put, List.setIfInBounds_toArray, List.set_cons_zero, List.set_cons_succ])
    refine wpList_val (by rw [hO]; kernel_rfl) (.pointer (some ⟨cb, 0, none⟩)) (fun K9 hK9 => by go_simp; exact hK9) ?_
    (try simp only [Act.put, List.setIfInBounds_toArray, List.set_cons_zero, List.set_cons_succ])
    refine wpList_val (by rw [hO]; kernel_rfl) (.int .i64 0) (fun K9 hK9 => by go_simp; exact hK9) ?_
    (try simp only [Act.put, List.setIfInBounds_toArray, List.set_cons_zero, List.set_cons_succ])
    refine wpList_val (by rw [hO]; kernel_rfl) (.pointer (some ⟨cb, 0, none⟩)) (fun K9 hK9 => by go_simp; exact hK9) ?_
    (try simp only [Act.put, List.setIfInBounds_toArray, List.set_cons_zero, List.set_cons_succ])
    refine wpList_val (by rw [hO]; kernel_rfl) (.int .i64 0) (fun K9 hK9 => by go_simp; exact hK9) ?_
    (try simp only [Act.put, List.setIfInBounds_toArray, List.set_cons_zero, List.set_cons_succ])
    go_upto_region 5 with fail
    refine region_named fun O hO => ?_
    refine wpList_val (by rw [hO]; kernel_rfl) (.int .i64 0) (fun K9 hK9 => by go_simp; exact hK9) ?_
    (try simp only [Act.put, List.setIfInBounds_toArray, List.set_cons_zero, List.set_cons_succ])
    refine wpList_val (by rw [hO]; kernel_rfl) (.bool false) (fun K9 hK9 => by go_simp; exact hK9) ?_
    (try simp only [Act.put, List.setIfInBounds_toArray, List.set_cons_zero, List.set_cons_succ])
    refine wpList_val (by rw [hO]; kernel_rfl) (.bool false) (fun K9 hK9 => by go_simp; exact hK9) ?_
    (try simp only [Act.put, List.setIfInBounds_toArray, List.set_cons_zero, List.set_cons_succ])
    refine wpList_val (by rw [hO]; kernel_rfl) (.int .i64 0) (fun K9 hK9 => by go_simp; exact hK9) ?_
    (try simp only [Act.put, List.setIfInBounds_toArray, List.set_cons_zero, List.set_cons_succ])
    refine wpList_val (by rw [hO]; kernel_rfl) (.bool false) (fun K9 hK9 => by go_simp; exact hK9) ?_
    (try simp only [Act.put, List.setIfInBounds_toArray, List.set_cons_zero, List.set_cons_succ])
    refine wpList_val (by rw [hO]; kernel_rfl) (.bool false) (fun K9 hK9 => by go_simp; exact hK9) ?_
    (try simp only [Act.put, List.setIfInBounds_toArray, List.set_cons_zero, List.set_cons_succ])
    go_upto_region 7 with fail
    have gP : wc.grownBy w7 none := tn (tn (tn g4 g5) g6) g7
    have hP7 := (unhide HP2).kept gP (by simp)
    have hp0 : w7.cell? ⟨w.heap.size + 1, 0, none⟩ = some (.slice a1 q1 c1) := by rw [hP7.cell]; rfl
    have hp1 : w7.cell? ⟨w.heap.size + 1, 1, none⟩ = some (.slice a2 q2 c2) := by rw [hP7.cell]; rfl
    have hK7 := (unhide HK2).kept gP (by simp)
    clear hP7 gP g4 g5 g6 g7
    go_quiet ((go_at_call 11; refine Calls.quiet_of_same (short8_min _ _ _ _ (by assumption))))
    have g8 : w7.grownBy (w7.drewN nq) none := gb_drewN (gb_refl _ _) _
    obtain ⟨w8, hw8⟩ : ∃ w8, w8 = w7.drewN nq := ⟨_, rfl⟩
    rw [← hw8] at g8 ⊢
    have G8 := tn G7 g8
    have hB8 := hB7.none g8
    have hC8 := hC7.none g8
    have hK8 := hK7.kept g8 (by simp)
    clear hw8 hp0 hp1 hB7 hC7 hK7 g8 hf1 hf2
    go_upto_region 8 with fail
    refine region_named fun O hO => ?_
    refine wpList_val (by rw [hO]; kernel_rfl) (.pointer (some ⟨bb, 0, none⟩)) (fun K9 hK9 => by go_simp; exact hK9) ?_
    (try simp only [Act.put, List.setIfInBounds_toArray, List.set_cons_zero, List.set_cons_succ])
    refine wpList_val (by rw [hO]; kernel_rfl) (.agg KL.toArray) (fun K9 hK9 => wp_load_row _ _ rfl w.heap.size rfl _ _ _ _ hK8 Tryd.underlying37 rfl (unhide HI) hK9) ?_
    (try simp only [Act.put, List.setIfInBounds_toArray, List.set_cons_zero, List.set_cons_succ])
    refine wpList_val (by rw [hO]; kernel_rfl) (.slice a1 (sh200 q1) c1) (fun K9 hK9 => by go_simp; exact hK9) ?_
    (try simp only [Act.put, List.setIfInBounds_toArray, List.set_cons_zero, List.set_cons_succ])
    refine wpList_val (by rw [hO]; kernel_rfl) (.slice a2 (sh200 q2) c2) (fun K9 hK9 => by go_simp; exact hK9) ?_
    (try simp only [Act.put, List.setIfInBounds_toArray, List.set_cons_zero, List.set_cons_succ])
    refine wpList_want (by rw [hO]; kernel_rfl) fun K9 hK9 => ?_
    go_simp
    go_at_call 12
    refine (unhide HSE w8 bb bs bm G8 hB8).mono ?_
    rintro e w9 ⟨so, sc, rfl, hs9, hB9, b9, G9⟩
    have hC9 := hC8.other hB8 b9 hne1 hne2 hne3
    have hK9' := hK8.by3 b9 (blk_ne hK8 hB8.blk (by decide)) (blk_ne hK8 hB8.src.blk (by decide)) (fun e => hB8.map.blk hK8 e.symm)
    clear hB8 hC8 hK8 b9
    refine hK9 _ _ ?_
    clear hK9 K9
    (try simp only [Act.put, List.setIfInBounds_toArray, List.set_cons_zero, List.set_cons_succ])
    refine wpList_val (by rw [hO]; kernel_rfl) (.tuple #[.slice so (sh200 q2 + 28) sc, .int .i64 0]) (fun K9 hK9 => by go_simp; exact hK9) ?_
    (try simp only [Act.put, List.setIfInBounds_toArray, List.set_cons_zero, List.set_cons_succ])
    refine wpList_val (by rw [hO]; kernel_rfl) (.slice so (sh200 q2 + 28) sc) (fun K9 hK9 => by go_simp; exact hK9) ?_
    (try simp only [Act.put, List.setIfInBounds_toArray, List.set_cons_zero, List.set_cons_succ])
    refine wpList_val (by rw [hO]; kernel_rfl) (.int .i64 0) (fun K9 hK9 => by go_simp; exact hK9) ?_
    (try simp only [Act.put, List.setIfInBounds_toArray, List.set_cons_zero, List.set_cons_succ])
    refine wpList_val (by rw [hO]; kernel_rfl) (.slice so (sh200 q2 + 28) sc) (fun K9 hK9 => by go_simp; exact hK9) ?_
    (try simp only [Act.put, List.setIfInBounds_toArray, List.set_cons_zero, List.set_cons_succ])
    refine wpList_val (by rw [hO]; kernel_rfl) (.int .i64 0) (fun K9 hK9 => by go_simp; exact hK9) ?_
    (try simp only [Act.put, List.setIfInBounds_toArray, List.set_cons_zero, List.set_cons_succ])
    go_upto_region 9 with fail
    refine region_named fun O hO => ?_
    refine wpList_val (by rw [hO]; kernel_rfl) (.slice a0 nF c0) (fun K9 hK9 => by go_simp; exact hK9) ?_
    (try simp only [Act.put, List.setIfInBounds_toArray, List.set_cons_zero, List.set_cons_succ])
    refine wpList_want (by rw [hO]; kernel_rfl) fun K9 hK9 => ?_
    go_simp
    refine hK9 _ _ ?_
    clear hK9 K9
    (try simp only [Act.put, List.setIfInBounds_toArray, List.set_cons_zero, List.set_cons_succ])
    obtain ⟨Wn, hWn, Gn, gn, cn9⟩ := unhide HN1 w9 G9
    rw [← hWn]
    clear hWn
    refine wpList_want (by rw [hO]; kernel_rfl) fun K9 hK9 => ?_
    go_simp
    go_at_call 9
    refine (cn9).mono ?_
    rintro e w11 ⟨ds, rfl, hds, hS11, g11⟩
    clear cn9 Gn gn Wn
    have G11 := tn G9 g11
    refine hK9 _ _ ?_
    clear hK9 K9
    (try simp only [Act.put, List.setIfInBounds_toArray, List.set_cons_zero, List.set_cons_succ])
    refine wpList_want (by rw [hO]; kernel_rfl) fun K9 hK9 => ?_
    go_simp
    go_at_call 22
    refine (unhide HTK w11 ds G11 (Nat.le_trans G9.size hds) hS11).mono ?_
    rintro e w12 ⟨g, rfl, hg, hG12, g12, G12⟩
    have g912 : w9.grownBy w12 none := ts hds g11 g12
    clear hS11 g11 g12 hg hds G11
    refine hK9 _ _ ?_
    clear hK9 K9
    (try simp only [Act.put, List.setIfInBounds_toArray, List.set_cons_zero, List.set_cons_succ])
    refine wpList_val (by rw [hO]; kernel_rfl) (.slice (some ⟨g, 0, none⟩) 12 12) (fun K9 hK9 => by go_simp; exact hK9) ?_
    (try simp only [Act.put, List.setIfInBounds_toArray, List.set_cons_zero, List.set_cons_succ])
    go_upto_region 10 with fail
    have hK12 := hK9'.kept g912 (by simp)
    have hs12 := hs9.none g912
    have hB12 := hB9.none g912
    have hC12 := hC9.none g912
    have hrK := hK12.whole
    have hrN := hG12.whole
    have hat := at_nonce ⟨g, 0, none⟩ 12 12 (by omega)
    have hc12 : ∀ V, w12.grownBy V none → (convert 22 9 (.slice so 12 sc)).run Tryd.prog V = .ok (.string sN) V := fun V hV => unhide HC12 V so sc (hs12.none hV)
    have hcG : ∀ V, w12.grownBy V none → (convert 22 9 (.slice (some ⟨g, 0, none⟩) 12 12)).run Tryd.prog V = .ok (.string sN) V := fun V hV => unhide HCG V g (hG12.kept hV (by simp))
    have hcD : ∀ V, w12.grownBy V none → (convert 22 9 (.slice (cutA so sc 12) (sh200 q2 + 16) (sc - 12))).run Tryd.prog V = .ok (.string sE) V := fun V hV => unhide HCD V so sc (hs12.none hV)
    have hsl1 := unhide HS1 w12 so sc hs12
    have hsl2 := unhide HS2 w12 so sc hs12
    obtain ⟨yo, hyo⟩ : ∃ yo, yo = cutA so sc 12 := ⟨_, rfl⟩
    obtain ⟨cy, hcy⟩ : ∃ cy, cy = sc - 12 := ⟨_, rfl⟩
    rw [← hyo, ← hcy] at hsl2
    simp only [← hyo, ← hcy] at hcD
    have h0 : w12.grownBy w12.drew none := gb_drew (gb_refl _ _)
    have cae := unhide HAE w12.drew (tn G12 h0)
    have hwN : IntKind.i64.wrap (((sh200 q2 : Nat) : Int) + 28) = ((sh200 q2 : Nat) : Int) + 28 := by have := sh200_le q2; rw [IntKind.wrap_i64]; omega
    have hi32 := unhide HI32
    have hi12 := unhide HI12
    clear hyo hcy hs9 hB9 hC9 hK9' hG12 g912
    refine wp_region_noPanic ?_
    refine wp_region_held_drew (S := fun V => w12.grownBy V none) (by kernel_rfl) h0 (fun _ => ?_)
    refine wpAnyH_take (i := 0) (oi := { dst := some 58, op := Op.move (Operand.tmp 8), type := _, pos := _, after := _, guard := _ }) (v := .int .i64 0) rfl (by kernel_rfl) (by kernel_rfl) (by kernel_rfl) (fun _ _ _ h => h) (Or.inl ⟨by rfl, fun V (hV : w12.grownBy V none) => by go_simp⟩) h0 ?_
    (try simp only [Act.put, List.setIfInBounds_toArray, List.set_cons_zero, List.set_cons_succ])
    refine wpAnyH_take (i := 1) (oi := { dst := some 59, op := Op.binOp BinOp.neq 25 (Operand.tmp 58) (Operand.const (Value.int IntKind.i64 0)) 25, type := _, pos := _, after := _, guard := _ }) (v := .bool false) rfl (by kernel_rfl) (by kernel_rfl) (by kernel_rfl) (fun _ _ _ h => h) (Or.inl ⟨by rfl, fun V (hV : w12.grownBy V none) => by go_simp⟩) h0 ?_
    (try simp only [Act.put, List.setIfInBounds_toArray, List.set_cons_zero, List.set_cons_succ])
    refine wpAnyH_take (i := 2) (oi := { dst := some 60, op := Op.move (Operand.tmp 59), type := _, pos := _, after := _, guard := _ }) (v := .bool false) rfl (by kernel_rfl) (by kernel_rfl) (by kernel_rfl) (fun _ _ _ h => h) (Or.inl ⟨by rfl, fun V (hV : w12.grownBy V none) => by go_simp⟩) h0 ?_
    (try simp only [Act.put, List.setIfInBounds_toArray, List.set_cons_zero, List.set_cons_succ])
    refine wpAnyH_take (i := 3) (oi := { dst := some 61, op := Op.move (Operand.tmp 13), type := _, pos := _, after := _, guard := _ }) (v := .slice so (sh200 q2 + 28) sc) rfl (by kernel_rfl) (by kernel_rfl) (by kernel_rfl) (fun _ _ _ h => h) (Or.inl ⟨by rfl, fun V (hV : w12.grownBy V none) => by go_simp⟩) h0 ?_
    (try simp only [Act.put, List.setIfInBounds_toArray, List.set_cons_zero, List.set_cons_succ])
    refine wpAnyH_take (i := 4) (oi := { dst := some 62, op := Op.call { callee := Callee.builtin Builtin.len, args := #[(Operand.tmp 61)], argTypes := #[22] }, type := _, pos := _, after := _, guard := _ }) (v := .int .i64 (((sh200 q2 : Nat) : Int) + 28)) rfl (by kernel_rfl) (by kernel_rfl) (by kernel_rfl) (fun _ _ _ h => h) (Or.inl ⟨by rfl, fun V (hV : w12.grownBy V none) => by go_simp⟩) h0 ?_
    (try simp only [Act.put, List.setIfInBounds_toArray, List.set_cons_zero, List.set_cons_succ])
    refine wpAnyH_take (i := 5) (oi := { dst := some 63, op := Op.move (Operand.tmp 12), type := _, pos := _, after := _, guard := _ }) (v := .slice a2 (sh200 q2) c2) rfl (by kernel_rfl) (by kernel_rfl) (by kernel_rfl) (fun _ _ _ h => h) (Or.inl ⟨by rfl, fun V (hV : w12.grownBy V none) => by go_simp⟩) h0 ?_
    (try simp only [Act.put, List.setIfInBounds_toArray, List.set_cons_zero, List.set_cons_succ])
    refine wpAnyH_take (i := 6) (oi := { dst := some 64, op := Op.call { callee := Callee.builtin Builtin.len, args := #[(Operand.tmp 63)], argTypes := #[22] }, type := _, pos := _, after := _, guard := _ }) (v := .int .i64 ((sh200 q2 : Nat) : Int)) rfl (by kernel_rfl) (by kernel_rfl) (by kernel_rfl) (fun _ _ _ h => h) (Or.inl ⟨by rfl, fun V (hV : w12.grownBy V none) => by go_simp⟩) h0 ?_
    (try simp only [Act.put, List.setIfInBounds_toArray, List.set_cons_zero, List.set_cons_succ])
    refine wpAnyH_take (i := 7) (oi := { dst := some 65, op := Op.binOp BinOp.add 3 (Operand.tmp 64) (Operand.const (Value.int IntKind.i64 28)) 3, type := _, pos := _, after := _, guard := _ }) (v := .int .i64 (((sh200 q2 : Nat) : Int) + 28)) rfl (by kernel_rfl) (by kernel_rfl) (by kernel_rfl) (fun _ _ _ h => h) (Or.inl ⟨by rfl, fun V (hV : w12.grownBy V none) => by go_simp⟩) h0 ?_
    (try simp only [Act.put, List.setIfInBounds_toArray, List.set_cons_zero, List.set_cons_succ])
    refine wpAnyH_take (i := 8) (oi := { dst := some 66, op := Op.binOp BinOp.neq 3 (Operand.tmp 62) (Operand.tmp 65) 3, type := _, pos := _, after := _, guard := _ }) (v := .bool false) rfl (by kernel_rfl) (by kernel_rfl) (by kernel_rfl) (fun _ _ _ h => h) (Or.inl ⟨by rfl, fun V (hV : w12.grownBy V none) => by go_simp⟩) h0 ?_
    (try simp only [Act.put, List.setIfInBounds_toArray, List.set_cons_zero, List.set_cons_succ])
    refine wpAnyH_take (i := 9) (oi := { dst := some 67, op := Op.pick (Operand.tmp 60) (Operand.const (Value.bool true)) (Operand.tmp 66), type := _, pos := _, after := _, guard := _ }) (v := .bool false) rfl (by kernel_rfl) (by kernel_rfl) (by kernel_rfl) (fun _ _ _ h => h) (Or.inl ⟨by rfl, fun V (hV : w12.grownBy V none) => by go_simp⟩) h0 ?_
    (try simp only [Act.put, List.setIfInBounds_toArray, List.set_cons_zero, List.set_cons_succ])
    refine wpAnyH_take (i := 10) (oi := { dst := some 68, op := Op.move (Operand.tmp 67), type := _, pos := _, after := _, guard := _ }) (v := .bool false) rfl (by kernel_rfl) (by kernel_rfl) (by kernel_rfl) (fun _ _ _ h => h) (Or.inl ⟨by rfl, fun V (hV : w12.grownBy V none) => by go_simp⟩) h0 ?_
    (try simp only [Act.put, List.setIfInBounds_toArray, List.set_cons_zero, List.set_cons_succ])
    refine wpAnyH_take (i := 11) (oi := { dst := some 69, op := Op.move (Operand.tmp 13), type := _, pos := _, after := _, guard := _ }) (v := .slice so (sh200 q2 + 28) sc) rfl (by kernel_rfl) (by kernel_rfl) (by kernel_rfl) (fun _ _ _ h => h) (Or.inl ⟨by rfl, fun V (hV : w12.grownBy V none) => by go_simp⟩) h0 ?_
    (try simp only [Act.put, List.setIfInBounds_toArray, List.set_cons_zero, List.set_cons_succ])
    refine wpAnyH_take (i := 12) (oi := { dst := some 70, op := Op.slice 22 (Operand.tmp 69) none (some (Operand.const (Value.int IntKind.i64 12))) none, type := _, pos := _, after := _, guard := _ }) (v := .slice so 12 sc) rfl (by kernel_rfl) (by kernel_rfl) (by kernel_rfl) (fun _ _ _ h => h) (Or.inl ⟨by rfl, fun V (hV : w12.grownBy V none) => by go_simp⟩) h0 ?_
    (try simp only [Act.put, List.setIfInBounds_toArray, List.set_cons_zero, List.set_cons_succ])
    refine wpAnyH_take (i := 13) (oi := { dst := some 71, op := Op.convert 22 9 (Operand.tmp 70), type := _, pos := _, after := _, guard := _ }) (v := .string sN) rfl (by kernel_rfl) (by kernel_rfl) (by kernel_rfl) (fun _ _ _ h => h) (Or.inl ⟨by rfl, fun V (hV : w12.grownBy V none) => by (have hv9 := hc12 V hV; go_simp)⟩) h0 ?_
    (try simp only [Act.put, List.setIfInBounds_toArray, List.set_cons_zero, List.set_cons_succ])
    refine wpAnyH_take (i := 14) (oi := { dst := some 72, op := Op.move (Operand.tmp 14), type := _, pos := _, after := _, guard := _ }) (v := .slice (some ⟨g, 0, none⟩) 12 12) rfl (by kernel_rfl) (by kernel_rfl) (by kernel_rfl) (fun _ _ _ h => h) (Or.inl ⟨by rfl, fun V (hV : w12.grownBy V none) => by go_simp⟩) h0 ?_
    (try simp only [Act.put, List.setIfInBounds_toArray, List.set_cons_zero, List.set_cons_succ])
    refine wpAnyH_take (i := 15) (oi := { dst := some 73, op := Op.convert 22 9 (Operand.tmp 72), type := _, pos := _, after := _, guard := _ }) (v := .string sN) rfl (by kernel_rfl) (by kernel_rfl) (by kernel_rfl) (fun _ _ _ h => h) (Or.inl ⟨by rfl, fun V (hV : w12.grownBy V none) => by (have hv9 := hcG V hV; go_simp)⟩) h0 ?_
    (try simp only [Act.put, List.setIfInBounds_toArray, List.set_cons_zero, List.set_cons_succ])
    refine wpAnyH_take (i := 16) (oi := { dst := some 74, op := Op.binOp BinOp.neq 9 (Operand.tmp 71) (Operand.tmp 73) 9, type := _, pos := _, after := _, guard := _ }) (v := .bool false) rfl (by kernel_rfl) (by kernel_rfl) (by kernel_rfl) (fun _ _ _ h => h) (Or.inl ⟨by rfl, fun V (hV : w12.grownBy V none) => by go_simp⟩) h0 ?_
    (try simp only [Act.put, List.setIfInBounds_toArray, List.set_cons_zero, List.set_cons_succ])
    refine wpAnyH_take (i := 17) (oi := { dst := some 75, op := Op.pick (Operand.tmp 68) (Operand.const (Value.bool true)) (Operand.tmp 74), type := _, pos := _, after := _, guard := _ }) (v := .bool false) rfl (by kernel_rfl) (by kernel_rfl) (by kernel_rfl) (fun _ _ _ h => h) (Or.inl ⟨by rfl, fun V (hV : w12.grownBy V none) => by go_simp⟩) h0 ?_
    (try simp only [Act.put, List.setIfInBounds_toArray, List.set_cons_zero, List.set_cons_succ])
    refine wpAnyH_take (i := 18) (oi := { dst := some 76, op := Op.move (Operand.tmp 75), type := _, pos := _, after := _, guard := _ }) (v := .bool false) rfl (by kernel_rfl) (by kernel_rfl) (by kernel_rfl) (fun _ _ _ h => h) (Or.inl ⟨by rfl, fun V (hV : w12.grownBy V none) => by go_simp⟩) h0 ?_
    (try simp only [Act.put, List.setIfInBounds_toArray, List.set_cons_zero, List.set_cons_succ])
    refine wpAnyH_take (i := 19) (oi := { dst := some 77, op := Op.move (Operand.tmp 13), type := _, pos := _, after := _, guard := _ }) (v := .slice so (sh200 q2 + 28) sc) rfl (by kernel_rfl) (by kernel_rfl) (by kernel_rfl) (fun _ _ _ h => h) (Or.inl ⟨by rfl, fun V (hV : w12.grownBy V none) => by go_simp⟩) h0 ?_
    (try simp only [Act.put, List.setIfInBounds_toArray, List.set_cons_zero, List.set_cons_succ])
    refine wpAnyH_take (i := 20) (oi := { dst := some 78, op := Op.slice 22 (Operand.tmp 77) (some (Operand.const (Value.int IntKind.i64 12))) none none, type := _, pos := _, after := _, guard := _ }) (v := .slice yo (sh200 q2 + 16) cy) rfl (by kernel_rfl) (by kernel_rfl) (by kernel_rfl) (fun _ _ _ h => h) (Or.inl ⟨by rfl, fun V (hV : w12.grownBy V none) => by go_simp⟩) h0 ?_
    (try simp only [Act.put, List.setIfInBounds_toArray, List.set_cons_zero, List.set_cons_succ])
    refine wpAnyH_take (i := 21) (oi := { dst := some 79, op := Op.convert 22 9 (Operand.tmp 78), type := _, pos := _, after := _, guard := _ }) (v := .string sE) rfl (by kernel_rfl) (by kernel_rfl) (by kernel_rfl) (fun _ _ _ h => h) (Or.inl ⟨by rfl, fun V (hV : w12.grownBy V none) => by (have hv9 := hcD V hV; go_simp)⟩) h0 ?_
    (try simp only [Act.put, List.setIfInBounds_toArray, List.set_cons_zero, List.set_cons_succ])
    refine wpAnyH_take (i := 22) (oi := { dst := some 80, op := Op.load 37 (Operand.tmp 4), type := _, pos := _, after := _, guard := _ }) (v := .agg KL.toArray) rfl (by kernel_rfl) (by kernel_rfl) (by kernel_rfl) (fun _ _ _ h => h) (yieldsIf_load_mid (by rfl) _ _ rfl _ _ rfl KL _ (fun V hV => range_kept hrK hV (by simp)) Tryd.underlying37 rfl hi32) h0 ?_
    (try simp only [Act.put, List.setIfInBounds_toArray, List.set_cons_zero, List.set_cons_succ])
    refine wpAnyH_take (i := 23) (oi := { dst := some 81, op := Op.move (Operand.tmp 14), type := _, pos := _, after := _, guard := _ }) (v := .slice (some ⟨g, 0, none⟩) 12 12) rfl (by kernel_rfl) (by kernel_rfl) (by kernel_rfl) (fun _ _ _ h => h) (Or.inl ⟨by rfl, fun V (hV : w12.grownBy V none) => by go_simp⟩) h0 ?_
    (try simp only [Act.put, List.setIfInBounds_toArray, List.set_cons_zero, List.set_cons_succ])
    refine wpAnyH_take (i := 24) (oi := { dst := some 82, op := Op.sliceToArrayPointer 64 (Operand.tmp 81), type := _, pos := _, after := _, guard := _ }) (v := .pointer (some ⟨g, 0, none⟩)) rfl (by kernel_rfl) (by kernel_rfl) (by kernel_rfl) (fun _ _ _ h => h) (Or.inl ⟨by rfl, fun V (hV : w12.grownBy V none) => by go_simp⟩) h0 ?_
    (try simp only [Act.put, List.setIfInBounds_toArray, List.set_cons_zero, List.set_cons_succ])
    refine wpAnyH_take (i := 25) (oi := { dst := some 83, op := Op.load 64 (Operand.tmp 82), type := _, pos := _, after := _, guard := _ }) (v := .agg NL.toArray) rfl (by kernel_rfl) (by kernel_rfl) (by kernel_rfl) (fun _ _ _ h => h) (yieldsIf_load_mid (by rfl) _ _ rfl _ _ rfl NL _ (fun V hV => range_kept hrN hV (by simp)) Tryd.underlying64 rfl hi12) h0 ?_
    (try simp only [Act.put, List.setIfInBounds_toArray, List.set_cons_zero, List.set_cons_succ])
    refine wpAnyH_take (i := 26) (oi := { dst := some 84, op := Op.move (Operand.tmp 11), type := _, pos := _, after := _, guard := _ }) (v := .slice a1 (sh200 q1) c1) rfl (by kernel_rfl) (by kernel_rfl) (by kernel_rfl) (fun _ _ _ h => h) (Or.inl ⟨by rfl, fun V (hV : w12.grownBy V none) => by go_simp⟩) h0 ?_
    (try simp only [Act.put, List.setIfInBounds_toArray, List.set_cons_zero, List.set_cons_succ])
    refine wpAnyH_take (i := 27) (oi := { dst := some 85, op := Op.move (Operand.tmp 12), type := _, pos := _, after := _, guard := _ }) (v := .slice a2 (sh200 q2) c2) rfl (by kernel_rfl) (by kernel_rfl) (by kernel_rfl) (fun _ _ _ h => h) (Or.inl ⟨by rfl, fun V (hV : w12.grownBy V none) => by go_simp⟩) h0 ?_
    (try simp only [Act.put, List.setIfInBounds_toArray, List.set_cons_zero, List.set_cons_succ])
    refine wpAnyH_ready (rs := [28]) (by kernel_rfl) (by simp) ?_
    refine AllReadyH.cons (o := { dst := some 86, op := Op.call { callee := Callee.value (Operand.func 23), args := #[(Operand.tmp 80), (Operand.tmp 83), (Operand.tmp 84), (Operand.tmp 85)], argTypes := #[37, 64, 22, 22] }, type := _, pos := _, after := _, guard := _ }) rfl (fun K9 hK9 => ?_) AllReadyH.nil
    go_simp
    go_at_call 23
    refine (cae).mono ?_
    rintro e w13 ⟨ro, rc, rfl, hR13, gd13⟩
    go_wp2_with fail
    refine hK9.out _ _ (tn h0 gd13) (fun _ => ?_)
    clear hK9 K9
    (try simp only [Act.put, List.setIfInBounds_toArray, List.set_cons_zero, List.set_cons_succ])
    have g13 := tn h0 gd13
    have hv9 := unhide HCE w13 ro rc hR13
    clear gd13 cae
    refine wpAnyH_ready (rs := [29]) (by kernel_rfl) (by simp) ?_
    refine AllReadyH.cons (o := { dst := some 87, op := Op.convert 22 9 (Operand.tmp 86), type := _, pos := _, after := _, guard := _ }) rfl (fun K9 hK9 => ?_) AllReadyH.nil
    go_simp
    refine hK9.out _ _ g13 (fun _ => ?_)
    clear hK9 K9
    (try simp only [Act.put, List.setIfInBounds_toArray, List.set_cons_zero, List.set_cons_succ])
    clear hv9
    refine wpAnyH_take (i := 30) (oi := { dst := some 88, op := Op.binOp BinOp.neq 9 (Operand.tmp 79) (Operand.tmp 87) 9, type := _, pos := _, after := _, guard := _ }) (v := .bool false) rfl (by kernel_rfl) (by kernel_rfl) (by kernel_rfl) (fun _ _ _ h => h) (Or.inl ⟨by rfl, fun V (hV : w12.grownBy V none) => by go_simp⟩) g13 ?_
    (try simp only [Act.put, List.setIfInBounds_toArray, List.set_cons_zero, List.set_cons_succ])
    refine wpAnyH_take (i := 31) (oi := { dst := some 89, op := Op.pick (Operand.tmp 76) (Operand.const (Value.bool true)) (Operand.tmp 88), type := _, pos := _, after := _, guard := _ }) (v := .bool false) rfl (by kernel_rfl) (by kernel_rfl) (by kernel_rfl) (fun _ _ _ h => h) (Or.inl ⟨by rfl, fun V (hV : w12.grownBy V none) => by go_simp⟩) g13 ?_
    (try simp only [Act.put, List.setIfInBounds_toArray, List.set_cons_zero, List.set_cons_succ])
    refine wpAnyH_done (by kernel_rfl) ?_ _
    refine NoPanic.normal ?_
    clear hsl1 hsl2 hc12 hcG hcD hat hrK hrN h0
    have hs13 := hs12.none g13
    have hB13 := hB12.none g13
    have hC13 := hC12.none g13
    have hK13 := hK12.kept g13 (by simp)
    have G13 := tn G12 g13
    clear hs12 hB12 hC12 hK12 g13
    go_upto_region 12 with fail
    refine region_named fun O hO => ?_
    refine wpList_val (by rw [hO]; kernel_rfl) (.pointer (some ⟨cb, 0, none⟩)) (fun K9 hK9 => by go_simp; exact hK9) ?_
    (try simp only [Act.put, List.setIfInBounds_toArray, List.set_cons_zero, List.set_cons_succ])
    refine wpList_val (by rw [hO]; kernel_rfl) (.agg KL.toArray) (fun K9 hK9 => wp_load_row _ _ rfl w.heap.size rfl _ _ _ _ hK13 Tryd.underlying37 rfl (unhide HI) hK9) ?_
    (try simp only [Act.put, List.setIfInBounds_toArray, List.set_cons_zero, List.set_cons_succ])
    refine wpList_val (by rw [hO]; kernel_rfl) (.slice a1 (sh200 q1) c1) (fun K9 hK9 => by go_simp; exact hK9) ?_
    (try simp only [Act.put, List.setIfInBounds_toArray, List.set_cons_zero, List.set_cons_succ])
    refine wpList_val (by rw [hO]; kernel_rfl) (.slice so (sh200 q2 + 28) sc) (fun K9 hK9 => by go_simp; exact hK9) ?_
    (try simp only [Act.put, List.setIfInBounds_toArray, List.set_cons_zero, List.set_cons_succ])
    refine wpList_want (by rw [hO]; kernel_rfl) fun K9 hK9 => ?_
    go_simp
    go_at_call 14
    refine (unhide HOP w13 cb cs cm so sc G13 hC13 hs13).mono ?_
    rintro e w14 ⟨xo, xc, rfl, hx14, g14⟩
    have G14 := tn G13 g14
    have hs14 := hs13.none g14
    have hB14 := hB13.none g14
    have hC14 := hC13.none g14
    clear hs13 hB13 hC13 g14
    refine hK9 _ _ ?_
    clear hK9 K9
    (try simp only [Act.put, List.setIfInBounds_toArray, List.set_cons_zero, List.set_cons_succ])
    refine wpList_val (by rw [hO]; kernel_rfl) (.tuple #[.slice xo (sh200 q2) xc, .bool true]) (fun K9 hK9 => by go_simp; exact hK9) ?_
    (try simp only [Act.put, List.setIfInBounds_toArray, List.set_cons_zero, List.set_cons_succ])
    refine wpList_val (by rw [hO]; kernel_rfl) (.slice xo (sh200 q2) xc) (fun K9 hK9 => by go_simp; exact hK9) ?_
    (try simp only [Act.put, List.setIfInBounds_toArray, List.set_cons_zero, List.set_cons_succ])
    refine wpList_val (by rw [hO]; kernel_rfl) (.bool true) (fun K9 hK9 => by go_simp; exact hK9) ?_
    (try simp only [Act.put, List.setIfInBounds_toArray, List.set_cons_zero, List.set_cons_succ])
    refine wpList_val (by rw [hO]; kernel_rfl) (.slice xo (sh200 q2) xc) (fun K9 hK9 => by go_simp; exact hK9) ?_
    (try simp only [Act.put, List.setIfInBounds_toArray, List.set_cons_zero, List.set_cons_succ])
    refine wpList_val (by rw [hO]; kernel_rfl) (.bool true) (fun K9 hK9 => by go_simp; exact hK9) ?_
    (try simp only [Act.put, List.setIfInBounds_toArray, List.set_cons_zero, List.set_cons_succ])
    go_upto_region 13 with fail
    refine region_named fun O hO => ?_
    refine wpList_val (by rw [hO]; kernel_rfl) (.bool true) (fun K9 hK9 => by go_simp; exact hK9) ?_
    (try simp only [Act.put, List.setIfInBounds_toArray, List.set_cons_zero, List.set_cons_succ])
    refine wpList_val (by rw [hO]; kernel_rfl) (.bool true) (fun K9 hK9 => by go_simp; exact hK9) ?_
    (try simp only [Act.put, List.setIfInBounds_toArray, List.set_cons_zero, List.set_cons_succ])
    refine wpList_val (by rw [hO]; kernel_rfl) (.slice xo (sh200 q2) xc) (fun K9 hK9 => by go_simp; exact hK9) ?_
    (try simp only [Act.put, List.setIfInBounds_toArray, List.set_cons_zero, List.set_cons_succ])
    refine wpList_val (by rw [hO]; kernel_rfl) (.string sT) (fun K9 hK9 => by (have hv9 := unhide HCT w14 xo xc hx14; go_simp); exact hK9) ?_
    (try simp only [Act.put, List.setIfInBounds_toArray, List.set_cons_zero, List.set_cons_succ])
    refine wpList_val (by rw [hO]; kernel_rfl) (.slice a2 (sh200 q2) c2) (fun K9 hK9 => by go_simp; exact hK9) ?_
    (try simp only [Act.put, List.setIfInBounds_toArray, List.set_cons_zero, List.set_cons_succ])
    refine wpList_val (by rw [hO]; kernel_rfl) (.string sT) (fun K9 hK9 => by (have hv9 := unhide HCX w14 G14; go_simp); exact hK9) ?_
    (try simp only [Act.put, List.setIfInBounds_toArray, List.set_cons_zero, List.set_cons_succ])
    refine wpList_val (by rw [hO]; kernel_rfl) (.bool true) (fun K9 hK9 => by go_simp; exact hK9) ?_
    (try simp only [Act.put, List.setIfInBounds_toArray, List.set_cons_zero, List.set_cons_succ])
    refine wpList_val (by rw [hO]; kernel_rfl) (.bool true) (fun K9 hK9 => by go_simp; exact hK9) ?_
    (try simp only [Act.put, List.setIfInBounds_toArray, List.set_cons_zero, List.set_cons_succ])
    refine wpList_val (by rw [hO]; kernel_rfl) (.bool true) (fun K9 hK9 => by go_simp; exact hK9) ?_
    (try simp only [Act.put, List.setIfInBounds_toArray, List.set_cons_zero, List.set_cons_succ])
    refine wpList_val (by rw [hO]; kernel_rfl) (.pointer (some ⟨bb, 0, none⟩)) (fun K9 hK9 => by go_simp; exact hK9) ?_
    (try simp only [Act.put, List.setIfInBounds_toArray, List.set_cons_zero, List.set_cons_succ])
    refine wpList_val (by rw [hO]; kernel_rfl) (.slice so (sh200 q2 + 28) sc) (fun K9 hK9 => by go_simp; exact hK9) ?_
    (try simp only [Act.put, List.setIfInBounds_toArray, List.set_cons_zero, List.set_cons_succ])
    refine wpList_want (by rw [hO]; kernel_rfl) fun K9 hK9 => ?_
    go_simp
    go_at_call 16
    refine (unhide HKN w14 bb bs bm _ true so sc hB14 hs14 (unhide HK1) (unhide HKN1)).mono ?_
    rintro e w15 ⟨rfl, g15⟩
    have G15 := tn G14 g15
    have hC15 := hC14.none g15
    have hs15 := hs14.none g15
    refine hK9 _ _ ?_
    clear hK9 K9
    (try simp only [Act.put, List.setIfInBounds_toArray, List.set_cons_zero, List.set_cons_succ])
    refine wpList_val (by rw [hO]; kernel_rfl) (.bool true) (fun K9 hK9 => by go_simp; exact hK9) ?_
    (try simp only [Act.put, List.setIfInBounds_toArray, List.set_cons_zero, List.set_cons_succ])
    refine wpList_val (by rw [hO]; kernel_rfl) (.bool true) (fun K9 hK9 => by go_simp; exact hK9) ?_
    (try simp only [Act.put, List.setIfInBounds_toArray, List.set_cons_zero, List.set_cons_succ])
    refine wpList_val (by rw [hO]; kernel_rfl) (.pointer (some ⟨cb, 0, none⟩)) (fun K9 hK9 => by go_simp; exact hK9) ?_
    (try simp only [Act.put, List.setIfInBounds_toArray, List.set_cons_zero, List.set_cons_succ])
    refine wpList_val (by rw [hO]; kernel_rfl) (.slice so (sh200 q2 + 28) sc) (fun K9 hK9 => by go_simp; exact hK9) ?_
    (try simp only [Act.put, List.setIfInBounds_toArray, List.set_cons_zero, List.set_cons_succ])
    refine wpList_want (by rw [hO]; kernel_rfl) fun K9 hK9 => ?_
    go_simp
    go_at_call 16
    refine (unhide HKN w15 cb cs cm _ false so sc hC15 hs15 (unhide HKK2) (unhide HKN2)).mono ?_
    rintro e w16 ⟨rfl, g16⟩
    have G16 := tn G15 g16
    refine hK9 _ _ ?_
    clear hK9 K9
    (try simp only [Act.put, List.setIfInBounds_toArray, List.set_cons_zero, List.set_cons_succ])
    refine wpList_val (by rw [hO]; kernel_rfl) (.bool true) (fun K9 hK9 => by go_simp; exact hK9) ?_
    (try simp only [Act.put, List.setIfInBounds_toArray, List.set_cons_zero, List.set_cons_succ])
    refine wpList_val (by rw [hO]; kernel_rfl) (.bool true) (fun K9 hK9 => by go_simp; exact hK9) ?_
    (try simp only [Act.put, List.setIfInBounds_toArray, List.set_cons_zero, List.set_cons_succ])
    refine wpList_val (by rw [hO]; kernel_rfl) (.bool true) (fun K9 hK9 => by go_simp; exact hK9) ?_
    (try simp only [Act.put, List.setIfInBounds_toArray, List.set_cons_zero, List.set_cons_succ])
    refine wpList_want (by rw [hO]; kernel_rfl) fun K9 hK9 => ?_
    go_simp
    go_at_call 10
    refine (unhide HON w16 G16).mono ?_
    rintro e w17 ⟨rfl, g17⟩
    refine hK9 _ _ ?_
    clear hK9 K9
    (try simp only [Act.put, List.setIfInBounds_toArray, List.set_cons_zero, List.set_cons_succ])
    refine wpList_val (by rw [hO]; kernel_rfl) (.bool true) (fun K9 hK9 => by go_simp; exact hK9) ?_
    (try simp only [Act.put, List.setIfInBounds_toArray, List.set_cons_zero, List.set_cons_succ])
    refine wpList_val (by rw [hO]; kernel_rfl) (.bool true) (fun K9 hK9 => by go_simp; exact hK9) ?_
    (try simp only [Act.put, List.setIfInBounds_toArray, List.set_cons_zero, List.set_cons_succ])
    go_wp2
    go_ret
    exact ⟨rfl, tn G16 g17⟩

theorem boxReal_any (w : World) (a0 : Option Addr) (c0 : Nat) (l0 : List UInt8) (hb0 : Bts w a0 c0 l0) (k : List UInt8) (hk : k.length = 32) (a1 a2 : Option Addr) (c1 c2 : Nat) (l1 l2 : List UInt8) (hb1 : Bts w a1 c1 l1) (hb2 : Bts w a2 c2 l2) (hT : Tabs w) (hC : CTab w) :
    Calls Tryd.prog 7 #[.slice a0 l0.length c0, .agg (k.map bv).toArray, .agg #[.slice a1 l1.length c1, .slice a2 l2.length c2]] w fun e w' => e = .returned (.bool true) ∧ w.grownBy w' none := by
  have hf := hb0.fits
  refine boxReal_cut w a0 l0.length c0 (l0.take 300) (hb0.short 300) k hk a1 a2 c1 c2 l1 l2 hb1 hb2 hT hC ?_
  by_cases h : 300 < l0.length
  · exact Or.inr ⟨h, by rw [List.length_take]; omega, hf⟩
  · exact Or.inl ⟨by rw [List.length_take]; omega, by omega⟩

end Go.Proofs.YtjckdgapefaokaaDoor
