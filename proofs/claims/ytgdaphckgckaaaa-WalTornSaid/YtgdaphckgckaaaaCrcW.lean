/-
  Contracts: crc.shiftByte, crc.Add, crc.Sum, crc.Check and the document's own Add return what the plain functions of CrcM say, and leave memory as it was. Conditions: a number of 32 bits, a text of at most maxLen bytes.
-/
import Derived.Test.YtgdaphckgckaaaaRows
import Derived.Test.YtgdaphckgckaaaaCrcM
import Derived.WalkKit
import Derived.ProofKit
import Derived.ScopeJumps
import Derived.WalkMore
import Derived.Lib.Hide
namespace Go.Proofs.Ytgdaphckgckaaaa.Crc
open Go.RowKit

/-- one step, as the walk spells it -/
theorem stp_walk (c : Nat) (hc : c < 4294967296) : bits .xor .u32 ((c : Int) / 2) (bits .and .u32 2197175160 (-bits .and .u32 (c : Int) 1 % 4294967296)) = ((stp c : Nat) : Int) := by
  have h1 : bits .and .u32 (c : Int) 1 = ((c % 2 : Nat) : Int) := by
    rw [← Nat.and_one_is_mod]; exact u32_and_nat c 1 hc (by omega)
  have hd : (c : Int) / 2 = ((c / 2 : Nat) : Int) := by omega
  rw [h1, hd]
  unfold stp
  rcases Nat.mod_two_eq_zero_or_one c with h | h
  · rw [h, if_neg (by omega)]
    have : bits .and .u32 2197175160 (-((0 : Nat) : Int) % 4294967296) = ((0 : Nat) : Int) := by
      have := u32_and_nat 2197175160 0 (by omega) (by omega)
      simpa using this
    rw [this]
    exact u32_xor_nat _ _ (by omega) (by omega)
  · rw [h, if_pos rfl]
    have : bits .and .u32 2197175160 (-((1 : Nat) : Int) % 4294967296) = ((pol : Nat) : Int) := by
      have := u32_and_nat 2197175160 4294967295 (by omega) (by omega)
      rw [show -((1 : Nat) : Int) % 4294967296 = ((4294967295 : Nat) : Int) by omega]
      exact this
    rw [this]
    exact u32_xor_nat _ _ (by omega) (by unfold pol; omega)

theorem it_succ (k c : Nat) : it (k + 1) c = stp (it k c) := by
  rw [it_add]; rfl

set_option maxRecDepth 100000 in
theorem shift_any (c : Nat) (hc : c < 4294967296) (w : World) :
    Calls Try.prog 60 #[.int .u32 (c : Int)] w fun e w' => e = .returned (.int .u32 (it 8 c : Nat)) ∧ w = w' := by
  go_enter Try.func60, Try.ntmps60
  go_wp2
  refine wp_scope_jumps 0 (fun a' w' => w = w' ∧ ∃ (m k : Nat) (u4 u5 u6 u7 u8 u9 u10 u11 u12 u13 u14 u15 : Value), a' = { tmps := #[.int .u32 (it k c : Nat), undef, .int .u32 0, .int .i64 m, u4, u5, u6, u7, u8, u9, u10, u11, u12, u13, u14, u15], defers := [] } ∧ 1 ≤ m ∧ m ≤ 8 ∧ m + k = 8) (fun a' _ => (intOf (a'.tmps.getD 3 undef)).toNat) rfl ?_ ?_
  · go_wp2
    go_step3
    go_wp2
    go_step3
    refine ⟨rfl, rfl, 7, 1, _, _, _, _, _, _, _, _, _, _, _, _, by rw [stp_walk c hc]; rfl, by omega, by omega, by omega⟩
  · rintro a' w' ⟨rfl, m, k, u4, u5, u6, u7, u8, u9, u10, u11, u12, u13, u14, u15, rfl, h1, h2, h3⟩
    have hk := it_lt k hc
    generalize hx : it k c = x at *
    have HX := Lib.hid hx
    clear hx
    have hm := Lib.hid h3
    clear h3
    by_cases h : 1 < m
    · go_wp2
      go_step3
      have e1 : it (k + 1) c = stp x := by rw [it_succ, HX.out]
      rw [stp_walk x hk, ← e1, show ((m : Int) - 1) = ((m - 1 : Nat) : Int) by omega]
      refine ⟨rfl, ⟨rfl, m - 1, k + 1, _, _, _, _, _, _, _, _, _, _, _, _, rfl, by omega, by omega, by have := hm.out; omega⟩, ?_⟩
      simp [intOf]; omega
    · go_wp2
      simp only [Exit.jump]
      go_ret
      have := hm.out
      refine ⟨?_, rfl⟩
      rw [stp_walk x hk, show 8 = k + 1 by omega, it_succ, HX.out]
      rfl

theorem xor_byte (c : Nat) (b : UInt8) (hc : c < 4294967296) : bits .xor .u32 (c : Int) ((b.toNat : Int) % 4294967296) = ((c ^^^ b.toNat : Nat) : Int) := by
  have hb := byte_lt b
  rw [show (b.toNat : Int) % 4294967296 = (b.toNat : Int) by omega]
  exact u32_xor_nat _ _ hc (by omega)

theorem take_snoc (s : ByteArray) (k : Nat) (h : k < s.size) : s.data.toList.take (k + 1) = s.data.toList.take k ++ [s[k]] := by
  rw [List.take_succ_eq_append_getElem (by simpa using h)]; rfl

theorem ret_u32 {a b : Nat} (h : a = b) : Ending.returned (.int .u32 (a : Int)) = .returned (.int .u32 (b : Int)) := by rw [h]

theorem xor_ones (c : Nat) (hc : c < 4294967296) : 4294967295 ^^^ c = 4294967295 - c := by
  have h : (BitVec.allOnes 32 ^^^ BitVec.ofNat 32 c).toNat = (~~~ (BitVec.ofNat 32 c)).toNat := by rw [BitVec.allOnes_xor]
  rw [BitVec.toNat_xor, BitVec.toNat_not, BitVec.toNat_allOnes, BitVec.toNat_ofNat, Nat.mod_eq_of_lt (by omega)] at h
  exact h

theorem not_walk (c : Nat) (hc : c < 4294967296) : bits .xor .u32 IntKind.u32.max (c : Int) = ((4294967295 - c : Nat) : Int) := by
  rw [← xor_ones c hc]
  exact u32_xor_nat 4294967295 c (by omega) hc

set_option maxRecDepth 100000 in
theorem add_any (c : Nat) (s : ByteArray) (hc : c < 4294967296) (hs : s.size ≤ maxLen) (w : World) :
    Calls Try.prog 51 #[.int .u32 (c : Int), .string s] w fun e w' => e = .returned (.int .u32 (add c s.data.toList : Nat)) ∧ w = w' := by
  unfold maxLen at hs
  go_enter Try.func51, Try.ntmps51
  go_wp2
  rw [not_walk c hc]
  go_loop [0, 10] (fun r i => ∃ k : Nat, k ≤ s.size ∧ i = .int .i64 k ∧ r = .int .u32 (run (4294967295 - c) (s.data.toList.take k) : Nat)) (fun _ i => s.size - (intOf i).toNat)
  case atStart => exact ⟨0, Nat.zero_le _, rfl, rfl⟩
  case round =>
    obtain ⟨k, hk, rfl, rfl⟩ := hrel
    have hr := run_lt (s.data.toList.take k) (c := 4294967295 - c) (by omega)
    generalize hx : run (4294967295 - c) (s.data.toList.take k) = x at *
    have HX := Lib.hid hx
    clear hx
    by_cases hlt : k < s.size
    · go_wp2_with fail
      rw [xor_byte x s[k] hr]
      refine (shift_any _ (Nat.xor_lt_two_pow (n := 32) hr (by have := byte_lt s[k]; omega)) _).mono ?_
      rintro e w' ⟨rfl, rfl⟩
      go_wp2
      go_round
      case rel => exact ⟨k + 1, by omega, by go_num, by rw [take_snoc s k hlt, run_snoc, HX.out]⟩
      case measure => simp [intOf]; omega
    · go_wp2
      rw [not_walk _ hr]
      go_ret
      refine ⟨?_, rfl⟩
      unfold add
      rw [← HX.out, List.take_of_length_le (by simp; omega)]
      rfl

theorem sum_any (s : ByteArray) (hs : s.size ≤ maxLen) (w : World) :
    Calls Try.prog 33 #[.string s] w fun e w' => e = .returned (.int .u32 (add 0 s.data.toList : Nat)) ∧ w = w' := by
  go_enter Try.func33, Try.ntmps33
  go_wp2_with (go_at_call 51; refine (add_any 0 s (by omega) hs _).mono ?_; rintro e w' ⟨rfl, rfl⟩)
  go_ret
  exact ⟨rfl, rfl⟩

theorem odd_walk (z : Nat) (hz : z < 4294967296) (h : z % 2 = 1) : Value.int .u32 (bits .xor .u32 ((z : Int) / 2) 2197175160) = .int .u32 ((stp z : Nat) : Int) := by
  unfold stp
  rw [if_pos h, show (z : Int) / 2 = ((z / 2 : Nat) : Int) by omega]
  rw [← u32_xor_nat (z / 2) pol (by omega) (by unfold pol; omega)]
  rfl

theorem even_walk (z : Nat) (h : ¬ z % 2 = 1) : Value.int .u32 ((z : Int) / 2) = .int .u32 ((stp z : Nat) : Int) := by
  unfold stp
  rw [if_neg h, Nat.xor_zero, show (z : Int) / 2 = ((z / 2 : Nat) : Int) by omega]

set_option maxRecDepth 100000 in
theorem ref_add_any (c : Nat) (s : ByteArray) (hc : c < 4294967296) (hs : s.size ≤ maxLen) (w : World) :
    Calls Try.prog 52 #[.int .u32 (c : Int), .string s] w fun e w' => e = .returned (.int .u32 (add c s.data.toList : Nat)) ∧ w = w' := by
  unfold maxLen at hs
  go_enter Try.func52, Try.ntmps52
  go_wp2
  rw [not_walk c hc]
  go_loop [5, 6, 7] (fun r i _ => ∃ k : Nat, k ≤ s.size ∧ i = .int .i64 k ∧ r = .int .u32 (run (4294967295 - c) (s.data.toList.take k) : Nat)) (fun _ i _ => s.size - (intOf i).toNat)
  case atStart => exact ⟨0, Nat.zero_le _, rfl, rfl⟩
  case round =>
    obtain ⟨k, hk, rfl, rfl⟩ := hrel
    have hr := run_lt (s.data.toList.take k) (c := 4294967295 - c) (by omega)
    generalize hx : run (4294967295 - c) (s.data.toList.take k) = x at *
    have HX := Lib.hid hx
    clear hx
    by_cases hlt : k < s.size
    · go_wp2_with fail
      rw [xor_byte x s[k] hr]
      have hy : x ^^^ s[k].toNat < 4294967296 := Nat.xor_lt_two_pow (n := 32) hr (by have := byte_lt s[k]; omega)
      have HY : Hid (it 8 (x ^^^ s[k].toNat) = run (4294967295 - c) (s.data.toList.take (k + 1))) := by
        rw [take_snoc s k hlt, run_snoc, HX.out]; exact Lib.hid rfl
      generalize x ^^^ s[k].toNat = y at *
      go_loop [5, 7] (fun r i => ∃ j : Nat, j ≤ 8 ∧ i = .int .i64 j ∧ r = .int .u32 (it j y : Nat)) (fun _ i => 8 - (intOf i).toNat)
      case atStart => exact ⟨0, Nat.zero_le _, rfl, rfl⟩
      case round =>
        obtain ⟨j, hj, rfl, rfl⟩ := hrel
        have hz := it_lt j hy
        generalize hzz : it j y = z at *
        have HZ := Lib.hid hzz
        clear hzz
        by_cases hj8 : j < 8
        · by_cases hodd : z % 2 = 1
          · have h1 : ((z : Int) % 2 == 1) = true := by rw [beq_iff_eq]; omega
            have HO := Lib.hid hodd
            clear hodd
            go_wp2
            go_round
            case rel => exact ⟨j + 1, by omega, by go_num, by rw [it_succ, HZ.out]; exact odd_walk z hz HO.out⟩
            case measure => simp [intOf]; omega
          · have h1 : ((z : Int) % 2 == 1) = false := by rw [beq_eq_false_iff_ne]; omega
            have HO := Lib.hid hodd
            clear hodd
            go_wp2
            go_round
            case rel => exact ⟨j + 1, by omega, by go_num, by rw [it_succ, HZ.out]; exact even_walk z HO.out⟩
            case measure => simp [intOf]; omega
        · have hj9 : j = 8 := by omega
          subst hj9
          go_wp2
          go_round
          case rel => exact ⟨k + 1, by omega, by go_num, by rw [← HY.out, HZ.out]⟩
          case measure => simp [intOf]; omega
    · go_wp2
      rw [not_walk _ hr]
      go_ret
      refine ⟨?_, rfl⟩
      unfold add
      rw [← HX.out, List.take_of_length_le (by simp; omega)]
      rfl
end Go.Proofs.Ytgdaphckgckaaaa.Crc
