/-
  Contracts of the statements' own helpers: same (two lists), bend (bytes with one of them another one). Conditions: as each theorem says.
-/
import Derived.Test.YtgdaphckgckaaaaWalP
import Derived.Test.YtgdaphckgckaaaaWalT
import Derived.RegionTactic
namespace Go.Proofs.Ytgdaphckgckaaaa.Wl
open Go.RowKit
set_option maxRecDepth 100000
open Dk (DiskAt Far)

set_option maxRecDepth 100000 in
theorem same_any {B C : Nat} {v u : Value} {xs : List ByteArray} {w : World} (h : w.ownsRow B 9 1 v xs.length (strs xs)) (h' : w.ownsRow C 9 1 u xs.length (strs xs)) (hn : xs.length ≤ 1099511627776) :
    Calls Try.prog 15 #[v, u] w fun e w' => e = .returned (.bool true) ∧ Below w.heap.size w w' := by
  obtain ⟨ao, cap, rfl⟩ := Dk.own_form h
  obtain ⟨ao', cap', rfl⟩ := Dk.own_form h'
  have h0 := row_mono h (Nat.zero_le _)
  have h1 := row_mono h' (Nat.zero_le _)
  clear h h'
  have hb : Below w.heap.size w w := Below.refl _ _
  obtain ⟨n, hxn⟩ : ∃ n, xs.length = n := ⟨_, rfl⟩
  rw [hxn] at h0 h1 hn
  rw [hxn]
  have HN := Lib.hid hxn
  clear hxn
  go_enter Try.func15, Try.ntmps15
  go_wp2_with fail
  go_loopw [5] (fun i W => ∃ k : Nat, k ≤ n ∧ i = .int .i64 k ∧ W.ownsRow 0 9 1 (.slice ao n cap) n (strs xs) ∧ W.ownsRow 0 9 1 (.slice ao' n cap') n (strs xs) ∧ Below w.heap.size w W) (fun i _ => n - (intOf i).toNat)
  case atStart => exact ⟨0, Nat.zero_le _, rfl, h0, h1, hb⟩
  case round =>
    clear h0 h1 hb
    obtain ⟨k, hk, rfl, hO, hN, hb⟩ := hrel
    by_cases hlt : k < n
    · obtain ⟨p, c1, p', c2, t, h1, h2, h3, h4, h5, h6, h7, h8, h9⟩ := row_two (xs := xs) (ys := xs) (v := .slice ao n cap) (u := .slice ao' n cap') (by rw [HN.out]; exact hO) (by rw [HN.out]; exact hN) k (by rw [HN.out]; exact hlt) (List.prefix_refl _)
      rw [HN.out] at h1 h2 h3 h4 h9
      obtain ⟨rfl, rfl⟩ : ao = some ⟨p, 0, none⟩ ∧ cap = c1 := by simpa using h1
      obtain ⟨rfl, rfl⟩ : ao' = some ⟨p', 0, none⟩ ∧ cap' = c2 := by simpa using h2
      have hjj : (0 : Int) ≤ (k : Int) := by omega
      have hjl : (k : Int) < (n : Int) := by omega
      unfold maxLen at h5 h6
      have hO' := row_below hO (Below.refl _ _).drew
      have hN' := row_below hN (Below.refl _ _).drew
      clear h1 h2 hO hN
      go_wp2_with fail
      go_region
      go_wp2
      exact ⟨⟨k + 1, by omega, by go_num, hO', hN', hb.drew⟩, by simp [intOf]; omega⟩
    · obtain rfl : k = n := by omega
      go_wp2
      go_ret
      exact ⟨rfl, hb⟩

set_option maxHeartbeats 1000000 in
set_option maxRecDepth 100000 in
theorem bend_any (s : ByteArray) (p : Int) (c : Nat) (hc : c < 256) (hp : -9223372036854775808 ≤ p ∧ p ≤ 9223372036854775807) (hs : s.size ≤ 1099511627776) (w : World) :
    Calls Try.prog 12 #[.string s, .int .i64 p, .int .u8 (c : Int)] w fun e w' => ∃ y : ByteArray, e = .returned (.string y) ∧ y.size = s.size ∧ Below w.heap.size w w' := by
  by_cases h0 : s.size = 0
  · obtain rfl : s = ⟨#[]⟩ := ByteArray.ext (Array.eq_empty_of_size_eq_zero h0)
    go_enter Try.func12, Try.ntmps12
    go_wp2
    go_ret
    exact ⟨_, rfl, rfl, Below.refl _ _⟩
  · have he := nonempty_of s (by omega)
    obtain ⟨cap, W1, hrun, hb1, hz1, hby⟩ := Crc.conv_bytes (P := Try.prog) w 9 59 5 s Try.underlying9 Try.underlying59 Try.underlying5
    have hl : s.data.toList.length = s.size := len_data s
    obtain ⟨n, hn⟩ : ∃ n, s.size = n := ⟨_, rfl⟩
    rw [hn] at hrun hl hs
    generalize hL : s.data.toList = L at *
    obtain ⟨P, hP, hP0, hP1⟩ : ∃ P : Nat, (0 ≤ p → p = P) ∧ (p < 0 → -(p + 1) = P) ∧ P ≤ 9223372036854775807 := by
      by_cases h : p < 0
      · exact ⟨(-(p + 1)).toNat, fun h' => by omega, fun _ => by omega, by omega⟩
      · exact ⟨p.toNat, fun _ => by omega, fun h' => absurd h' h, by omega⟩
    obtain ⟨q, hq⟩ : ∃ q, P % n = q := ⟨_, rfl⟩
    have hqn : q < n := by rw [← hq]; exact Nat.mod_lt _ (by omega)
    obtain ⟨v, hv, hc1, hf1⟩ := hby.at q (by omega)
    have hqi : (P : Int) % (n : Int) = (q : Int) := by rw [← hq]; omega
    have q0 : (0 : Int) ≤ (q : Int) := by omega
    have q1 : (q : Int) < (n : Int) := by omega
    have n0 : ¬ (n : Int) = 0 := by omega
    obtain ⟨z, hx⟩ : ∃ z : UInt8, bits .xor .u8 (v.toNat : Int) (c : Int) = (z.toNat : Int) := by
      have h := Crc.xor_bytes v (UInt8.ofNat c)
      rw [UInt8.toNat_ofNat', Nat.mod_eq_of_lt (by omega)] at h
      exact ⟨_, h⟩
    have hb2 := ((hb1.setCell (p := ⟨w.heap.size, q, none⟩) (Nat.le_refl _) (.int .u8 (z.toNat : Int)))).drew
    have hby2 := (hby.set q z (by omega)).drew
    obtain ⟨M, hM⟩ : ∃ M, L.set q z = M := ⟨_, rfl⟩
    have hMl : M.length = n := by rw [← hM, List.length_set, hl]
    rw [hM] at hby2
    have hbk := hby2.back (P := Try.prog) 59 9 5 cap Try.underlying59 Try.underlying5 Try.underlying9
    rw [hMl] at hbk
    have hys : (⟨M.toArray⟩ : ByteArray).size = n := by rw [← len_data]; exact hMl
    have HX := Lib.hid hx
    have HYS := Lib.hid hys
    have HN := Lib.hid hn
    clear hx hby hby2 hb1 hM hMl hys hn hL hv hl
    generalize (⟨M.toArray⟩ : ByteArray) = y at *
    rcases Int.lt_or_le p 0 with hneg | hpos
    case' inl => have hpe := hP0 hneg
    case' inr => obtain rfl := hP hpos
    all_goals
      clear hP hP0
      go_enter Try.func12, Try.ntmps12
      go_wp2_with fail
      go_region
      rw [HX.out]
      go_wp2
      go_ret
      exact ⟨y, rfl, by rw [HYS.out, HN.out], hb2⟩

/-- a place of a text, as the statement picks it -/
theorem turn_at (p : Int) (n : Nat) (hn : n ≤ 1099511627776) : ∃ q : Nat, wrap64 ((IntKind.u64.wrap p).tmod ((n : Int) + 1)) = (q : Int) ∧ q ≤ n := by
  have e : IntKind.u64.wrap p = p % 18446744073709551616 := by simp [IntKind.wrap, IntKind.bits, IntKind.signed]
  have h0 : 0 ≤ p % 18446744073709551616 := Int.emod_nonneg _ (by omega)
  rw [e, Int.tmod_eq_emod_of_nonneg h0]
  have h1 : 0 ≤ (p % 18446744073709551616) % ((n : Int) + 1) := Int.emod_nonneg _ (by omega)
  have h2 : (p % 18446744073709551616) % ((n : Int) + 1) < (n : Int) + 1 := Int.emod_lt_of_pos _ (by omega)
  generalize (p % 18446744073709551616) % ((n : Int) + 1) = z at *
  refine ⟨z.toNat, ?_, by omega⟩
  unfold wrap64
  omega
end Go.Proofs.Ytgdaphckgckaaaa.Wl
