/-
  Contracts: math.Trunc, isPart, Right, Far of small whole numbers: what they return; memory stays as it was. Conditions: as each theorem says.
-/
import Derived.Test.YtkjedffncphgmaaRows
import Derived.Test.YtkjedffncphgmaaPlaceM
import Derived.WalkKit
import Derived.ProofKit
import Derived.WalkMore
import Derived.Laws.Externs
import Derived.Lib.Hide
namespace Go.Proofs.Ytkjedffncphgmaa.Pl
open Go.RowKit

/-- a float that is a part of a right place -/
structure Good (x : Nat) : Prop where
  lo : FloatKind.f64.format.order x 13890095209322119168 = some .gt
  hi : FloatKind.f64.format.order x 4666723172467343360 = some .lt
  same : FloatKind.f64.format.order x x = some .eq
  cut : FloatKind.f64.encode ((FloatKind.f64.decode x).integral .zero) = x
  real : (FloatKind.f64.decode x).isNaN = false

theorem good {z : Int} (h1 : -16 ≤ z) (h2 : z ≤ 16) : Good (fb z) := by
  have a := of_rng part_tab h1 h2
  have b := of_rng trunc_tab h1 h2
  simp only [Bool.and_eq_true, beq_iff_eq, Bool.not_eq_true'] at a b
  exact ⟨a.1.1, a.1.2, a.2, b.1, b.2⟩

theorem run_trunc {P : Program} (x : Nat) (h : (FloatKind.f64.decode x).isNaN = false) (w : World) :
    (Extern.MathFloor.toIntegral "math.archTrunc" .zero #[.float .f64 x]).run P w = .ok (.float .f64 (FloatKind.f64.encode ((FloatKind.f64.decode x).integral .zero))) w := by
  conv in Extern.MathFloor.toIntegral _ _ _ => whnf
  generalize FloatKind.f64.decode x = d at *
  cases d with
  | nan s t => cases h
  | number s m e => rfl
  | infinity s => rfl

theorem trunc_any (x : Nat) (h : (FloatKind.f64.decode x).isNaN = false) (w : World) :
    Calls Try.prog 16 #[.float .f64 x] w fun e w' => e = .returned (.float .f64 (FloatKind.f64.encode ((FloatKind.f64.decode x).integral .zero))) ∧ w = w' := by
  have h18 := @run_callFunc_extern Try.prog 18 _ (Extern.MathFloor.toIntegral "math.archTrunc" .zero) Try.func18 (by kernel_rfl) (by kernel_rfl) (by kernel_rfl) (by kernel_rfl)
  have hr := fun w => run_trunc (P := Try.prog) x h w
  generalize FloatKind.f64.encode ((FloatKind.f64.decode x).integral .zero) = y at *
  go_enter Try.func16, Try.ntmps16
  go_wp2_with (simp only [h18, hr])
  go_ret
  exact ⟨rfl, rfl⟩

theorem part_any (x : Nat) (h : Good x) (w : World) :
    Calls Try.prog 12 #[.float .f64 x] w fun e w' => e = .returned (.bool true) ∧ w = w' := by
  have h1 := h.lo
  have h2 := h.hi
  have h3 := h.same
  go_enter Try.func12, Try.ntmps12
  go_wp2_with fail
  refine (trunc_any x h.real _).mono ?_
  rintro e w' ⟨rfl, rfl⟩
  rw [h.cut]
  go_wp2
  go_ret
  exact ⟨rfl, rfl⟩

theorem right_any (x y : Nat) (hx : Good x) (hy : Good y) (w : World) :
    Calls Try.prog 7 #[.complex .f64 x y] w fun e w' => e = .returned (.bool true) ∧ w = w' := by
  go_enter Try.func7, Try.ntmps7
  go_wp2_with fail
  refine (part_any x hx _).mono ?_
  rintro e w' ⟨rfl, rfl⟩
  go_wp2_with fail
  refine (part_any y hy _).mono ?_
  rintro e w' ⟨rfl, rfl⟩
  go_wp2
  go_ret
  exact ⟨rfl, rfl⟩

/-- a half is none -/
theorem half_any (w : World) :
    Calls Try.prog 12 #[.float .f64 4602678819172646912] w fun e w' => e = .returned (.bool false) ∧ w = w' := by
  have h1 : FloatKind.f64.format.order 4602678819172646912 13890095209322119168 = some .gt := by decide +kernel
  have h2 : FloatKind.f64.format.order 4602678819172646912 4666723172467343360 = some .lt := by decide +kernel
  have h4 : FloatKind.f64.encode ((FloatKind.f64.decode 4602678819172646912).integral .zero) = 0 := by decide +kernel
  have h3 : FloatKind.f64.format.order 4602678819172646912 0 = some .gt := by decide +kernel
  go_enter Try.func12, Try.ntmps12
  go_wp2_with fail
  refine (trunc_any 4602678819172646912 (by decide +kernel) _).mono ?_
  rintro e w' ⟨rfl, rfl⟩
  rw [h4]
  go_wp2
  go_ret
  exact ⟨rfl, rfl⟩

theorem right_half (y : Nat) (w : World) :
    Calls Try.prog 7 #[.complex .f64 4602678819172646912 y] w fun e w' => e = .returned (.bool false) ∧ w = w' := by
  go_enter Try.func7, Try.ntmps7
  go_wp2_with fail
  refine (half_any _).mono ?_
  rintro e w' ⟨rfl, rfl⟩
  go_wp2
  go_ret
  exact ⟨rfl, rfl⟩

/-- how far two are: the sums' and products' bits -/
structure FarBits (a b c d r : Nat) : Prop where
  far : ∃ x y xx yy z : Nat, floatBits .sub .f64 a c = some x ∧ floatBits .sub .f64 b d = some y ∧ floatBits .mul .f64 x x = some xx ∧ floatBits .mul .f64 y y = some yy ∧ floatBits .add .f64 xx yy = some z ∧ floatToIntVal .f64 z .u64 = some (r : Int)

theorem farBits {a b c d : Int} {x y : Nat} (hx : (a - c).natAbs = x) (hy : (b - d).natAbs = y) (a1 : -16 ≤ a) (a2 : a ≤ 16) (b1 : -16 ≤ b) (b2 : b ≤ 16) (c1 : -16 ≤ c) (c2 : c ≤ 16) (d1 : -16 ≤ d) (d2 : d ≤ 16) :
    FarBits (fb a) (fb b) (fb c) (fb d) (x * x + y * y) := by
  have e1 := of_rng2 sub_tab a1 a2 c1 c2
  have e2 := of_rng2 sub_tab b1 b2 d1 d2
  have e3 := of_rng sq_tab (z := a - c) (by omega) (by omega)
  have e4 := of_rng sq_tab (z := b - d) (by omega) (by omega)
  have e5 := of_rng2 sum_tab (a := (x : Int)) (b := (y : Int)) (by omega) (by omega) (by omega) (by omega)
  have q1 : (a - c) * (a - c) = (x : Int) * x := by subst hx; exact (Int.natAbs_mul_self' _).symm
  have q2 : (b - d) * (b - d) = (y : Int) * y := by subst hy; exact (Int.natAbs_mul_self' _).symm
  rw [q1] at e3
  rw [q2] at e4
  rw [decide_eq_false (by omega), decide_eq_false (by omega)] at e5
  simp only [Bool.false_or, Bool.and_eq_true, beq_iff_eq] at e1 e2 e3 e4 e5
  exact ⟨_, _, _, _, _, e1, e2, e3, e4, e5.1, by rw [e5.2]; simp⟩

theorem far_any (a b c d r : Nat) (ha : Good a) (hb : Good b) (hc : Good c) (hd : Good d) (h : FarBits a b c d r) (w : World) :
    Calls Try.prog 9 #[.complex .f64 a b, .complex .f64 c d] w fun e w' => e = .returned (.int .u64 (r : Int)) ∧ w = w' := by
  obtain ⟨x, y, xx, yy, z, h1, h2, h3, h4, h5, h6⟩ := h
  have s : ∀ t w, (binOp .sub t (.complex .f64 a b) (.complex .f64 c d)).run Try.prog w = .ok (.complex .f64 x y) w := fun t w => run_complex_sum w .sub (Or.inr rfl) t .f64 a b c d x y (by simp [cSumBits, h1, h2])
  have mx : ∀ t w, (binOp .mul t (.float .f64 x) (.float .f64 x)).run Try.prog w = .ok (.float .f64 xx) w := fun t w => run_float_arith w .mul t .f64 x x xx h3
  have my : ∀ t w, (binOp .mul t (.float .f64 y) (.float .f64 y)).run Try.prog w = .ok (.float .f64 yy) w := fun t w => run_float_arith w .mul t .f64 y y yy h4
  have ad : ∀ t w, (binOp .add t (.float .f64 xx) (.float .f64 yy)).run Try.prog w = .ok (.float .f64 z) w := fun t w => run_float_arith w .add t .f64 xx yy z h5
  have cv : ∀ w, (convert 35 28 (.float .f64 z)).run Try.prog w = .ok (.int .u64 (r : Int)) w := fun w => run_convert_float_int w 35 28 .f64 .u64 z r (by rw [Try.underlying35]; rfl) Try.underlying28 h6
  clear h1 h2 h3 h4 h5 h6
  go_enter Try.func9, Try.ntmps9
  go_wp2_with fail
  refine (right_any a b ha hb _).mono ?_
  rintro e w' ⟨rfl, rfl⟩
  go_wp2_with fail
  refine (right_any c d hc hd _).mono ?_
  rintro e w' ⟨rfl, rfl⟩
  go_wp2
  go_ret
  exact ⟨rfl, rfl⟩

theorem far_half (c d : Nat) (y : Nat) (w : World) :
    Calls Try.prog 9 #[.complex .f64 4602678819172646912 y, .complex .f64 c d] w fun e w' => e = .returned (.int .u64 0) ∧ w = w' := by
  go_enter Try.func9, Try.ntmps9
  go_wp2_with fail
  refine (right_half y _).mono ?_
  rintro e w' ⟨rfl, rfl⟩
  go_wp2
  go_ret
  exact ⟨rfl, rfl⟩
end Go.Proofs.Ytkjedffncphgmaa.Pl
