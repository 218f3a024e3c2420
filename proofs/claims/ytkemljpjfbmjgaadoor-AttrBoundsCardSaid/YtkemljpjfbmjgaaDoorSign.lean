/-
  Contract of the document's own answer: a whole number in digits, with a sign.
-/
import Derived.Test.YtkemljpjfbmjgaaDoorBalD
import Derived.Lib.ItoaLen
namespace Go.Proofs.YtkemljpjfbmjgaaDoor.Bl
open Go.RowKit
set_option maxRecDepth 100000

theorem ret_text {a b : ByteArray} (h : a = b) : Ending.returned (.string a) = .returned (.string b) := by rw [h]
theorem ret_bool {a b : Bool} (h : a = b) : Ending.returned (.bool a) = .returned (.bool b) := by rw [h]
theorem digits_size (u : Nat) (h : u < 18446744073709551616) : (Lib.decDigits u).length ≤ 20 := by
  rw [Lib.decDigits_length]
  by_cases h0 : u = 0
  · subst h0; decide +kernel
  · have := Lib.numDigits_eq u (by omega) h; split at this <;> omega

theorem signed_any (n : Int) (h0 : -9223372036854775808 ≤ n) (h1 : n ≤ 9223372036854775807) (w : World) :
    Calls Tryd.prog 55 #[.int .i64 n] w fun e w' => e = .returned (.string ⟨(Lib.itoa n).toArray⟩) ∧ Below w.heap.size w w' := by
  have e : ∀ m : Int, IntKind.u64.wrap m = m % 18446744073709551616 := fun m => by simp [IntKind.wrap, IntKind.bits, IntKind.signed]
  by_cases hn : n < 0
  · have e1 : IntKind.u64.wrap (-IntKind.u64.wrap n) = ((n.natAbs : Nat) : Int) := by rw [e, e]; omega
    have hl := digits_size n.natAbs (by omega)
    have hi : Lib.itoa n = 45 :: Lib.decDigits n.natAbs := by unfold Lib.itoa; rw [if_pos hn]
    have hz : (⟨(Lib.decDigits n.natAbs).toArray⟩ : ByteArray).size ≤ 20 := by
      show (Lib.decDigits n.natAbs).toArray.size ≤ 20
      simpa using hl
    have hz1 : (⟨#[45]⟩ : ByteArray).size = 1 := rfl
    have HI := Lib.hid hi
    have HC := Lib.hid (cons_cat 45 (Lib.decDigits n.natAbs))
    have C := fun W => digits_any n.natAbs (by omega) W
    have HN := Lib.hid C
    clear hl hi C e
    generalize n.natAbs = k at *
    generalize (⟨(Lib.decDigits k).toArray⟩ : ByteArray) = S at *
    go_enter Tryd.func55, Tryd.ntmps55
    go_wp2_with fail
    refine (HN.out _).mono ?_
    rintro e w' ⟨rfl, hb⟩
    go_wp2
    go_ret
    exact ⟨ret_text (by rw [HI.out, ← HC.out]), hb⟩
  · have e1 : IntKind.u64.wrap n = ((n.toNat : Nat) : Int) := by rw [e]; omega
    have hi : Lib.itoa n = Lib.decDigits n.toNat := by unfold Lib.itoa; rw [if_neg hn]
    have HI := Lib.hid hi
    have C := fun W => digits_any n.toNat (by omega) W
    have HN := Lib.hid C
    clear hi C e
    generalize n.toNat = k at *
    go_enter Tryd.func55, Tryd.ntmps55
    go_wp2_with fail
    refine (HN.out _).mono ?_
    rintro e w' ⟨rfl, hb⟩
    go_wp2
    go_ret
    exact ⟨ret_text (by rw [HI.out]), hb⟩
end Go.Proofs.YtkemljpjfbmjgaaDoor.Bl
