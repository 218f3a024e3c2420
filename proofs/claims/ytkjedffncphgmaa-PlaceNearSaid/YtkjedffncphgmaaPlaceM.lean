/-
  Plain mathematics: floats that are small whole numbers: their order, sums, differences, products, their whole parts. By the kernel's reckoning over all of them. No condition but that they are small.
-/
import Derived.WalkLawsBesides
import GoSem.Extern.MathFloor
namespace Go.Proofs.Ytkjedffncphgmaa.Pl

/-- a whole number, as a float -/
def fb (z : Int) : Nat := FloatKind.f64.nearest z
/-- -0 -/
def mz : Nat := 9223372036854775808
def rng (n : Nat) : List Int := (List.range (2 * n + 1)).map fun (i : Nat) => (i : Int) - (n : Int)

theorem of_rng {p : Int → Bool} {n : Nat} (h : (rng n).all p = true) {z : Int} (h1 : -(n : Int) ≤ z) (h2 : z ≤ n) : p z = true := by
  refine List.all_eq_true.1 h z ?_
  unfold rng
  refine List.mem_map.2 ⟨(z + n).toNat, List.mem_range.2 (by omega), by omega⟩

theorem of_rng2 {p : Int → Int → Bool} {n m : Nat} (h : (rng n).all (fun a => (rng m).all (p a)) = true) {a b : Int} (h1 : -(n : Int) ≤ a) (h2 : a ≤ n) (h3 : -(m : Int) ≤ b) (h4 : b ≤ m) : p a b = true :=
  of_rng (p := p a) (of_rng (p := fun a => (rng m).all (p a)) h h1 h2) h3 h4

theorem fb_zero : fb 0 = 0 := by decide +kernel
theorem fb_one : fb 1 = 4607182418800017408 := by decide +kernel

/-- a small whole number is a part of a right place -/
theorem part_tab : (rng 16).all (fun z => FloatKind.f64.format.order (fb z) 13890095209322119168 == some .gt && FloatKind.f64.format.order (fb z) 4666723172467343360 == some .lt && FloatKind.f64.format.order (fb z) (fb z) == some .eq) = true := by decide +kernel
theorem trunc_tab : (rng 16).all (fun z => FloatKind.f64.encode ((FloatKind.f64.decode (fb z)).integral .zero) == fb z && !(FloatKind.f64.decode (fb z)).isNaN) = true := by decide +kernel
/-- .. two of them are the same just if they are -/
theorem eql_tab : (rng 16).all (fun a => (rng 16).all fun c => (FloatKind.f64.format.order (fb a) (fb c) == some .eq) == decide (a = c)) = true := by decide +kernel
theorem sub_tab : (rng 16).all (fun a => (rng 16).all fun c => floatBits .sub .f64 (fb a) (fb c) == some (fb (a - c))) = true := by decide +kernel
theorem sq_tab : (rng 32).all (fun d => floatBits .mul .f64 (fb d) (fb d) == some (fb (d * d))) = true := by decide +kernel
theorem sum_tab : (rng 32).all (fun d => (rng 32).all fun e => decide (d < 0) || decide (e < 0) || (floatBits .add .f64 (fb (d * d)) (fb (e * e)) == some (fb (d * d + e * e)) && floatToIntVal .f64 (fb (d * d + e * e)) .u64 == some (d * d + e * e))) = true := by decide +kernel

/-- what a float of a turned place may be: 0 may have a sign -/
def Rep (z : Int) (b : Nat) : Prop := b = fb z ∨ (z = 0 ∧ b = mz)
theorem rep_fb (z : Int) : Rep z (fb z) := .inl rfl

/-- .. times 0 -/
theorem none_tab : (rng 16).all (fun z => (floatBits .mul .f64 (fb z) 0 == some 0 || floatBits .mul .f64 (fb z) 0 == some mz)) = true := by decide +kernel
theorem one_tab : (rng 16).all (fun z => floatBits .mul .f64 (fb z) 4607182418800017408 == some (fb z)) = true := by decide +kernel
theorem less_tab : (rng 16).all (fun z => (floatBits .sub .f64 0 (fb z) == some (fb (-z))) && (if z = 0 then floatBits .sub .f64 mz (fb z) == some mz else floatBits .sub .f64 mz (fb z) == some (fb (-z)))) = true := by decide +kernel
theorem more_tab : (rng 16).all (fun z => (floatBits .add .f64 (fb z) 0 == some (fb z)) && (floatBits .add .f64 (fb z) mz == some (fb z))) = true := by decide +kernel
theorem mz_tab : (floatBits .mul .f64 mz 0 == some mz && floatBits .mul .f64 mz 4607182418800017408 == some mz && floatBits .sub .f64 0 mz == some 0 && floatBits .sub .f64 mz mz == some 0 && floatBits .add .f64 mz 0 == some 0 && floatBits .add .f64 mz mz == some mz) = true := by decide +kernel
end Go.Proofs.Ytkjedffncphgmaa.Pl
