/-
  Contract of a law's own helper: bytes with one of them another one.
-/
import Derived.Test.YtkemljpjfbmjgaaDoorDepsS
import Derived.Test.YtkemljpjfbmjgaaDoorCrcB
import Derived.Test.YtkemljpjfbmjgaaDoorCmdM
import Derived.RegionTactic
namespace Go.Proofs.YtkemljpjfbmjgaaDoor.Dp
open Go.RowKit
set_option maxRecDepth 100000

set_option maxHeartbeats 1000000 in
theorem bend_any (s : ByteArray) (p : Int) (c : Nat) (hc : c < 256) (hp : -9223372036854775808 ≤ p ∧ p ≤ 9223372036854775807) (hs : s.size ≤ 281474976710656) (w : World) :
    Calls Tryd.prog 22 #[.string s, .int .i64 p, .int .u8 (c : Int)] w fun e w' => ∃ y : ByteArray, e = .returned (.string y) ∧ y.size = s.size ∧ Below w.heap.size w w' := by
  by_cases h0 : s.size = 0
  · obtain rfl : s = ⟨#[]⟩ := ByteArray.ext (Array.eq_empty_of_size_eq_zero h0)
    go_enter Tryd.func22, Tryd.ntmps22
    go_wp2
    go_ret
    exact ⟨_, rfl, rfl, Below.refl _ _⟩
  · have he := (show s.toList.isEmpty = false by rw [ByteArray.toList_eq, Bool.eq_false_iff, ne_eq, List.isEmpty_iff]; intro h; exact h0 (Pk.size_of_nil s h))
    obtain ⟨cap, W1, hrun, hb1, hz1, hby⟩ := Crc.conv_bytes (P := Tryd.prog) w 9 26 5 s Tryd.underlying9 Tryd.underlying26 Tryd.underlying5
    have hl : s.data.toList.length = s.size := (Lib.size_eq s).symm
    obtain ⟨n, hn⟩ : ∃ n, s.size = n := ⟨_, rfl⟩
    rw [hn] at hrun hl hs
    generalize hL : s.data.toList = L at *
    obtain ⟨P, hP, hP0, hP1⟩ : ∃ P : Nat, (0 ≤ p → p = P) ∧ (p < 0 → -(p + 1) = P) ∧ P ≤ 9223372036854775807 := by
      by_cases h : p < 0
      · exact ⟨(-(p + 1)).toNat, fun h' => by omega, fun _ => by omega, by omega⟩
      · exact ⟨p.toNat, fun _ => by omega, fun h' => absurd h' h, by omega⟩
    obtain ⟨q, hq⟩ : ∃ q, P % n = q := ⟨_, rfl⟩
    have hqn : q < n := by rw [← hq]; exact Nat.mod_lt _ (by omega)
    obtain ⟨v, hv, hc1, hf1⟩ := hby.at q (by omega)
    have hqi : (P : Int) % (n : Int) = (q : Int) := by rw [← hq]; omega
    have q0 : (0 : Int) ≤ (q : Int) := by omega
    have q1 : (q : Int) < (n : Int) := by omega
    have n0 : ¬ (n : Int) = 0 := by omega
    obtain ⟨z, hx⟩ : ∃ z : UInt8, bits .xor .u8 (v.toNat : Int) (c : Int) = (z.toNat : Int) := by
      have h := Crc.xor_bytes v (UInt8.ofNat c)
      rw [UInt8.toNat_ofNat', Nat.mod_eq_of_lt (by omega)] at h
      exact ⟨_, h⟩
    have hb2 := ((hb1.setCell (p := ⟨w.heap.size, q, none⟩) (Nat.le_refl _) (.int .u8 (z.toNat : Int)))).drew
    have hby2 := (hby.set q z (by omega)).drew
    obtain ⟨M, hM⟩ : ∃ M, L.set q z = M := ⟨_, rfl⟩
    have hMl : M.length = n := by rw [← hM, List.length_set, hl]
    rw [hM] at hby2
    have hbk := hby2.back (P := Tryd.prog) 26 9 5 cap Tryd.underlying26 Tryd.underlying5 Tryd.underlying9
    rw [hMl] at hbk
    have hys : (⟨M.toArray⟩ : ByteArray).size = n := by rw [Lib.size_eq]; exact hMl
    have HX := Lib.hid hx
    have HYS := Lib.hid hys
    have HN := Lib.hid hn
    clear hx hby hby2 hb1 hM hMl hys hn hL hv hl
    generalize (⟨M.toArray⟩ : ByteArray) = y at *
    rcases Int.lt_or_le p 0 with hneg | hpos
    case' inl => have hpe := hP0 hneg
    case' inr => obtain rfl := hP hpos
    all_goals
      clear hP hP0
      go_enter Tryd.func22, Tryd.ntmps22
      go_wp2_with fail
      go_region
      rw [HX.out]
      go_wp2
      go_ret
      exact ⟨y, rfl, by rw [HYS.out, HN.out], hb2⟩
end Go.Proofs.YtkemljpjfbmjgaaDoor.Dp
