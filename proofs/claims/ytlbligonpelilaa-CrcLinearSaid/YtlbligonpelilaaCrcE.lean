/-
  Contracts: the document's own Sum, and the chapter's examples, which hold. No condition but the text's length.
-/
import Derived.Test.YtlbligonpelilaaCrcW
import Derived.Test.YtlbligonpelilaaCrcB
import Derived.Deep.QuietTactic
namespace Go.Proofs.Ytlbligonpelilaa.Crc
open Go.RowKit

theorem nine : add 0 [49, 50, 51, 52, 53, 54, 55, 56, 57] = 3808858755 := by decide +kernel
theorem four : add (add 0 [49, 50, 51, 52]) [53, 54, 55, 56, 57] = 3808858755 := by decide +kernel

/-- .. in a region that draws its order -/
theorem sum_quiet (l : List UInt8) (hs : (ByteArray.mk l.toArray).size ≤ maxLen) (w : World) (n : Nat) :
    Calls Try.prog 9 #[.string ⟨l.toArray⟩] (w.drewN n) fun e w'' => e = .returned (.int .u32 (add 0 l : Nat)) ∧ ∃ m, w'' = w.drewN m :=
  (sum_any _ hs _).mono fun _ _ ⟨he, hw⟩ => ⟨by rw [he], n, hw.symm⟩

theorem ref_sum_any (s : ByteArray) (hs : s.size ≤ maxLen) (w : World) :
    Calls Try.prog 8 #[.string s] w fun e w' => e = .returned (.int .u32 (add 0 s.data.toList : Nat)) ∧ w = w' := by
  go_enter Try.func8, Try.ntmps8
  go_wp2_with (go_at_call 11; refine (ref_add_any 0 s (by omega) hs _).mono ?_; rintro e w' ⟨rfl, rfl⟩)
  go_ret
  exact ⟨rfl, rfl⟩

theorem sum_nine (w : World) : Calls Try.prog 9 #[.string ⟨#[49, 50, 51, 52, 53, 54, 55, 56, 57]⟩] w fun e w' => e = .returned (.int .u32 3808858755) ∧ w = w' :=
  (sum_any ⟨#[49, 50, 51, 52, 53, 54, 55, 56, 57]⟩ (by decide) w).mono fun _ _ ⟨he, hw⟩ => ⟨by rw [he]; exact ret_u32 nine, hw⟩
theorem sum_none (w : World) : Calls Try.prog 9 #[.string ⟨#[]⟩] w fun e w' => e = .returned (.int .u32 0) ∧ w = w' :=
  (sum_any ⟨#[]⟩ (by decide) w).mono fun _ _ ⟨he, hw⟩ => ⟨by rw [he]; exact ret_u32 (add_nil 0 (by omega)), hw⟩
theorem add_four (w : World) : Calls Try.prog 10 #[.int .u32 ((add 0 [49, 50, 51, 52] : Nat) : Int), .string ⟨#[53, 54, 55, 56, 57]⟩] w fun e w' => e = .returned (.int .u32 3808858755) ∧ w = w' :=
  (add_any _ ⟨#[53, 54, 55, 56, 57]⟩ (add_lt _ _) (by decide) w).mono fun _ _ ⟨he, hw⟩ => ⟨by rw [he]; exact ret_u32 four, hw⟩
theorem sum_four (w : World) : Calls Try.prog 9 #[.string ⟨#[49, 50, 51, 52]⟩] w fun e w' => e = .returned (.int .u32 ((add 0 [49, 50, 51, 52] : Nat) : Int)) ∧ w = w' :=
  sum_any ⟨#[49, 50, 51, 52]⟩ (by decide) w
theorem check_nine (w : World) : Calls Try.prog 12 #[.string ⟨#[49, 50, 51, 52, 53, 54, 55, 56, 57]⟩, .int .u32 3808858755] w fun e w' => e = .returned (.bool true) ∧ w = w' :=
  (check_any ⟨#[49, 50, 51, 52, 53, 54, 55, 56, 57]⟩ 3808858755 (by decide) w).mono fun _ _ ⟨he, hw⟩ => ⟨by
    rw [he]
    have : (((add 0 (ByteArray.mk #[49, 50, 51, 52, 53, 54, 55, 56, 57]).data.toList : Nat) : Int) == 3808858755) = true := by rw [beq_iff_eq]; exact congrArg (fun n : Nat => (n : Int)) nine
    rw [this], hw⟩
theorem check_x (w : World) : Calls Try.prog 12 #[.string ⟨#[120]⟩, .int .u32 0] w fun e w' => e = .returned (.bool false) ∧ w = w' :=
  (check_any ⟨#[120]⟩ 0 (by decide) w).mono fun _ _ ⟨he, hw⟩ => ⟨by
    rw [he]
    have : (((add 0 (ByteArray.mk #[120]).data.toList : Nat) : Int) == 0) = false := by decide +kernel
    rw [this], hw⟩

theorem examples_any (w : World) : Calls Try.prog 7 #[] w fun e w' => e = .returned (.bool true) ∧ w = w' := by
  go_enter Try.func7, Try.ntmps7
  go_wp2_with fail
  refine (sum_nine _).mono ?_
  rintro e w' ⟨rfl, rfl⟩
  go_wp2_with fail
  refine (sum_none _).mono ?_
  rintro e w' ⟨rfl, rfl⟩
  go_wp2_with fail
  refine (sum_four _).mono ?_
  rintro e w' ⟨rfl, rfl⟩
  go_wp2_with fail
  refine (add_four _).mono ?_
  rintro e w' ⟨rfl, rfl⟩
  go_wp2_with fail
  refine (check_nine _).mono ?_
  rintro e w' ⟨rfl, rfl⟩
  go_wp2_with fail
  refine (check_x _).mono ?_
  rintro e w' ⟨rfl, rfl⟩
  go_wp2
  go_ret
  exact ⟨rfl, rfl⟩
end Go.Proofs.Ytlbligonpelilaa.Crc
