/-
  Contracts: Spin of small whole numbers. Conditions: parts from -16 to 16.
-/
import Derived.Test.YtkjedffncphgmaaPlaceW
namespace Go.Proofs.Ytkjedffncphgmaa.Pl
open Go.RowKit

/-- a place's parts, turned by a quarter j times -/
def tx : Nat → Int → Int → Int × Int
  | 0, a, b => (a, b)
  | j + 1, a, b => (-(tx j a b).2, (tx j a b).1)

theorem tx_small {a b : Int} (a1 : -16 ≤ a) (a2 : a ≤ 16) (b1 : -16 ≤ b) (b2 : b ≤ 16) : ∀ j, -16 ≤ (tx j a b).1 ∧ (tx j a b).1 ≤ 16 ∧ -16 ≤ (tx j a b).2 ∧ (tx j a b).2 ≤ 16
  | 0 => ⟨a1, a2, b1, b2⟩
  | j + 1 => by
    have := tx_small a1 a2 b1 b2 j
    simp only [tx]
    omega

theorem none_of {z : Int} {x : Nat} (h : Rep z x) (h1 : -16 ≤ z) (h2 : z ≤ 16) : ∃ r, floatBits .mul .f64 x 0 = some r ∧ (r = 0 ∨ r = mz) := by
  rcases h with rfl | ⟨rfl, rfl⟩
  · have := of_rng none_tab h1 h2
    simp only [Bool.or_eq_true, beq_iff_eq] at this
    rcases this with e | e
    · exact ⟨_, e, .inl rfl⟩
    · exact ⟨_, e, .inr rfl⟩
  · exact ⟨_, by decide +kernel, .inr rfl⟩

theorem one_of {z : Int} {x : Nat} (h : Rep z x) (h1 : -16 ≤ z) (h2 : z ≤ 16) : floatBits .mul .f64 x 4607182418800017408 = some x := by
  rcases h with rfl | ⟨rfl, rfl⟩
  · simpa using of_rng one_tab h1 h2
  · decide +kernel

theorem less_of {z : Int} {x r : Nat} (h : Rep z x) (h1 : -16 ≤ z) (h2 : z ≤ 16) (hr : r = 0 ∨ r = mz) : ∃ y, floatBits .sub .f64 r x = some y ∧ Rep (-z) y := by
  rcases h with rfl | ⟨rfl, rfl⟩
  · have := of_rng less_tab h1 h2
    simp only [Bool.and_eq_true, beq_iff_eq] at this
    obtain ⟨e1, e2⟩ := this
    rcases hr with rfl | rfl
    · exact ⟨_, e1, .inl rfl⟩
    · by_cases hz : z = 0
      · rw [if_pos hz] at e2
        exact ⟨_, by simpa using e2, .inr ⟨by omega, rfl⟩⟩
      · rw [if_neg hz] at e2
        exact ⟨_, by simpa using e2, .inl rfl⟩
  · rcases hr with rfl | rfl
    · exact ⟨0, by decide +kernel, .inl fb_zero.symm⟩
    · exact ⟨0, by decide +kernel, .inl fb_zero.symm⟩

theorem more_of {z : Int} {x r : Nat} (h : Rep z x) (h1 : -16 ≤ z) (h2 : z ≤ 16) (hr : r = 0 ∨ r = mz) : ∃ y, floatBits .add .f64 x r = some y ∧ Rep z y := by
  rcases h with rfl | ⟨rfl, rfl⟩
  · have := of_rng more_tab h1 h2
    simp only [Bool.and_eq_true, beq_iff_eq] at this
    rcases hr with rfl | rfl
    · exact ⟨_, this.1, .inl rfl⟩
    · exact ⟨_, this.2, .inl rfl⟩
  · rcases hr with rfl | rfl
    · exact ⟨0, by decide +kernel, .inl fb_zero.symm⟩
    · exact ⟨mz, by decide +kernel, .inr ⟨rfl, rfl⟩⟩

theorem plain_of {z : Int} {x : Nat} (h : Rep z x) (h1 : -16 ≤ z) (h2 : z ≤ 16) : floatBits .add .f64 x 0 = some (fb z) := by
  rcases h with rfl | ⟨rfl, rfl⟩
  · have := of_rng more_tab h1 h2
    simp only [Bool.and_eq_true, beq_iff_eq] at this
    exact this.1
  · decide +kernel

/-- a turn by a quarter -/
theorem turn_of {a b : Int} {x y : Nat} (hx : Rep a x) (hy : Rep b y) (a1 : -16 ≤ a) (a2 : a ≤ 16) (b1 : -16 ≤ b) (b2 : b ≤ 16) :
    ∃ x' y', cMulBits x y 0 4607182418800017408 = some (x', y') ∧ Rep (-b) x' ∧ Rep a y' := by
  obtain ⟨r, e1, hr⟩ := none_of hx a1 a2
  have e2 := one_of hy b1 b2
  obtain ⟨x', e3, k1⟩ := less_of hy b1 b2 hr
  have e4 := one_of hx a1 a2
  obtain ⟨r', e5, hr'⟩ := none_of hy b1 b2
  obtain ⟨y', e6, k2⟩ := more_of hx a1 a2 hr'
  exact ⟨x', y', by simp [cMulBits, e1, e2, e3, e4, e5, e6], k1, k2⟩

theorem plain_sum {a b : Int} {x y : Nat} (hx : Rep a x) (hy : Rep b y) (a1 : -16 ≤ a) (a2 : a ≤ 16) (b1 : -16 ≤ b) (b2 : b ≤ 16) : cSumBits .add .f64 x y 0 0 = some (fb a, fb b) := by
  simp [cSumBits, plain_of hx a1 a2, plain_of hy b1 b2]

theorem spin_any (a b q : Int) (j : Nat) (hq : bits .and .i64 q 3 = (j : Int)) (hj : j < 4) (a1 : -16 ≤ a) (a2 : a ≤ 16) (b1 : -16 ≤ b) (b2 : b ≤ 16) (w : World) :
    Calls Try.prog 8 #[.complex .f64 (fb a) (fb b), .int .i64 q] w fun e w' => e = .returned (.complex .f64 (fb (tx j a b).1) (fb (tx j a b).2)) ∧ w = w' := by
  go_enter Try.func8, Try.ntmps8
  go_wp2_with fail
  refine (right_any _ _ (good a1 a2) (good b1 b2) _).mono ?_
  rintro e w' ⟨rfl, rfl⟩
  go_wp2_with fail
  go_loop [0, 10] (fun r i => ∃ (k : Nat) (x y : Nat), k ≤ j ∧ i = .int .i64 k ∧ r = .complex .f64 x y ∧ Rep (tx k a b).1 x ∧ Rep (tx k a b).2 y) (fun _ i => j - (intOf i).toNat)
  case atStart => exact ⟨0, _, _, Nat.zero_le _, rfl, rfl, rep_fb _, rep_fb _⟩
  case round =>
    obtain ⟨k, x, y, hk, rfl, rfl, hx, hy⟩ := hrel
    obtain ⟨s1, s2, s3, s4⟩ := tx_small a1 a2 b1 b2 k
    by_cases hlt : k < j
    · obtain ⟨x', y', e, r1, r2⟩ := turn_of hx hy s1 s2 s3 s4
      have hm := fun t w => run_complex_mul (P := Try.prog) w t x y 0 4607182418800017408 x' y' e
      clear e hx hy
      go_wp2
      go_round
      case rel => exact ⟨k + 1, x', y', by omega, by go_num, rfl, r1, r2⟩
      case measure => simp [intOf]; omega
    · have hs := fun t w => run_complex_sum (P := Try.prog) w .add (Or.inl rfl) t .f64 x y 0 0 _ _ (plain_sum hx hy s1 s2 s3 s4)
      obtain rfl : k = j := by omega
      clear hx hy
      go_wp2
      go_ret
      exact ⟨rfl, rfl⟩
end Go.Proofs.Ytkjedffncphgmaa.Pl
