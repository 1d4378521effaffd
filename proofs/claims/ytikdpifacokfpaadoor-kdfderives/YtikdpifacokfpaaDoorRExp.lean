/- What the document's answer for layer 3 reckons: Expand (package coffretref03). Of a key and an info of fewer than 2 to the 20 bytes. -/
import Derived.Test.YtikdpifacokfpaaDoorRMac
import Derived.Test.YtikdpifacokfpaaDoorEMath
namespace Go.Proofs.YtikdpifacokfpaaDoor
open Go.RowKit

theorem rexp_no (w : World) (k info : List UInt8) (n : Int) (h : n < 0 ∨ 8160 < n) :
    Calls Tryd.prog 18 #[.string (str k), .string (str info), .int .i64 n] w fun e w' => e = .returned (.tuple #[.string (str []), .bool false]) ∧ w' = w := by
  by_cases h1 : n < 0
  · go_enter Tryd.func18, Tryd.ntmps18
    go_wp2
    go_ret2
    exact ⟨rfl, rfl⟩
  · have h2 : (8160 : Int) < n := by omega
    go_enter Tryd.func18, Tryd.ntmps18
    go_wp2
    go_ret2
    exact ⟨rfl, rfl⟩

set_option maxRecDepth 100000 in
set_option maxHeartbeats 2000000 in
theorem rexp_any (w : World) (k info : List UInt8) (n : Nat) (hn : n ≤ 8160) (hk : k.length < 1048576) (hi : info.length < 1048576) :
    Calls Tryd.prog 18 #[.string (str k), .string (str info), .int .i64 (n : Int)] w fun e w' => e = .returned (.tuple #[.string (str (expL k info n)), .bool true]) ∧ w.grownBy w' none := by
  have q1 : ¬ (n : Int) < 0 := by omega
  have q2 : ¬ (8160 : Int) < (n : Int) := by omega
  have hii : (info.length : Int) < 1048576 := by omega
  have zi : (str info).size = info.length := str_size info
  obtain ⟨P, hP⟩ : ∃ P : Nat → List UInt8, ∀ r, P r = partE k info r := ⟨_, fun _ => rfl⟩
  obtain ⟨O, hO⟩ : ∃ O : Nat → List UInt8, ∀ r, O r = outE k info r := ⟨_, fun _ => rfl⟩
  have HP := hide hP
  have HO := hide hO
  clear hP hO
  go_enter Tryd.func18, Tryd.ntmps18
  go_wp2
  go_loopw [8, 9, 10] (fun ov lv i wr => ∃ r : Nat, r ≤ 255 ∧ i = .int .i64 ((r + 1 : Nat) : Int) ∧ ov = .string (str (O r)) ∧ lv = .string (str (P r)) ∧ w.grownBy wr none) (fun ov _ _ _ => 8160 - lenT ov)
  case atStart => exact ⟨0, by omega, rfl, by rw [unhide HO]; rfl, by rw [unhide HP]; rfl, gb_refl _ _⟩
  case round =>
    obtain ⟨r, hr, rfl, rfl, rfl, hg⟩ := hrel
    have zo : (str (O r)).size = 32 * r := by rw [str_size, unhide HO, outE_length]
    by_cases hlt : 32 * r < n
    · have hr2 : r < 255 := by omega
      have hlti : 32 * (r : Int) < (n : Int) := by omega
      have zp : (str (P r)).size = (P r).length := str_size _
      have hpl : (P r).length ≤ 32 := by rw [unhide HP]; exact partE_le _ _ _
      obtain ⟨x, hx⟩ : ∃ x : UInt8, x = UInt8.ofNat (r + 1) := ⟨_, rfl⟩
      have hxn : ((r : Int) + 1) % 256 = ((x.toNat : Nat) : Int) := by rw [hx, UInt8.toNat_ofNat']; omega
      have hxw : IntKind.u8.wrap ((r : Int) + 1) = ((x.toNat : Nat) : Int) := by rw [IntKind.wrap_u8]; exact hxn
      have cv : (convert 30 9 (.slice (some ⟨wr.heap.size, 0, none⟩) 1 1)).run Tryd.prog (wr.alloc (.cells #[.int .u8 ((x.toNat : Nat) : Int)] 5)) = .ok (.string (str [x])) (wr.alloc (.cells #[.int .u8 ((x.toNat : Nat) : Int)] 5)) := conv_str (bts_byte wr x)
      obtain ⟨p, hp⟩ : ∃ p, p = P r := ⟨_, rfl⟩
      rw [← hp] at zp hpl
      rw [← hp]
      have s1 : str p ++ str info = str (p ++ info) := str_app p info
      have z1 : (str (p ++ info)).size = p.length + info.length := by rw [str_size, List.length_append]
      have s2 : str (p ++ info) ++ str [x] = str (p ++ info ++ [x]) := str_app _ _
      have z2 : (str [x]).size = 1 := str_size [x]
      have b1 : p.length + info.length ≤ 9223372036854775807 := by omega
      have b2 : p.length + info.length + 1 ≤ 9223372036854775807 := by omega
      have hm := fun V => rmac_any V k (p ++ info ++ [x]) (by omega) (by simp; omega)
      have hnx : macL k (p ++ info ++ [x]) = P (r + 1) := by rw [hp, hx, unhide HP, unhide HP]; rfl
      rw [hnx] at hm
      obtain ⟨o, ho⟩ : ∃ o, o = O r := ⟨_, rfl⟩
      rw [← ho] at zo
      rw [← ho]
      obtain ⟨p2, hp2⟩ : ∃ p2, p2 = P (r + 1) := ⟨_, rfl⟩
      rw [← hp2] at hm
      simp only [List.append_assoc] at hm
      have zp2 : (str p2).size = 32 := by rw [str_size, hp2, unhide HP]; exact partE_length _ _ _
      have s3 : str o ++ str p2 = str (o ++ p2) := str_app o p2
      have HHP := hide hp
      have HHO := hide ho
      have HP2 := hide hp2
      have HX := hide hx
      clear hp ho hp2 hx hnx
      go_wp2_with fail
      refine (hm _).mono ?_
      rintro e w2 ⟨rfl, g2⟩
      clear hm cv
      go_wp2
      go_roundw
      case rel =>
        refine ⟨r + 1, by omega, by go_num, ?_, by rw [unhide HP2], gb_trans (gb_alloc hg _) g2 (fun _ e => by cases e)⟩
        rw [unhide HO, outE, ← unhide HO r, ← unhide HP (r + 1), ← unhide HHO, ← unhide HP2]
      case measure =>
        have h1 : (str (o ++ p2)).size = 32 * r + 32 := by rw [str_size, List.length_append, ← str_size o, ← str_size p2, zo, zp2]
        show 8160 - (str (o ++ p2)).size < 8160 - (str o).size
        rw [h1, zo]; omega
    · have hlti : ¬ 32 * (r : Int) < (n : Int) := by omega
      have hsl : ∀ W, (Instr.slice 9 (.string (str (O r))) none (some (.int .i64 (n : Int))) none).run Tryd.prog W = .ok (.string (str (expL k info n))) W := by
        intro W
        have e1 : (n : Int).toNat = n := by omega
        have ht : (str (O r)).extract 0 n = str (expL k info n) := by
          rw [str_sub, List.drop_zero, Nat.sub_zero, unhide HO, expL_of k info n r hr (by omega)]
        rw [run_slice_string_h W 9 _ Tryd.underlying9 .i64 (n : Int) (by omega) (by rw [zo]; omega), e1, ht]
      have hx1 : (0 : Int) ≤ (n : Int) := by omega
      have hx2 : (n : Int) ≤ 32 * (r : Int) := by omega
      have ht : (str (O r)).extract 0 n = str (expL k info n) := by
        rw [str_sub, List.drop_zero, Nat.sub_zero, unhide HO, expL_of k info n r hr (by omega)]
      go_wp2
      go_ret2
      exact ⟨rfl, hg⟩

end Go.Proofs.YtikdpifacokfpaaDoor
