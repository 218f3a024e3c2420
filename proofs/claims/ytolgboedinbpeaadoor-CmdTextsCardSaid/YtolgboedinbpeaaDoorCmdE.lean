/-
  Contract: the chapter's examples hold. Condition: the library's table of powers of ten lies as it was laid.
-/
import Derived.Test.YtolgboedinbpeaaDoorCmdT
namespace Go.Proofs.YtolgboedinbpeaaDoor.Cm
open Go.RowKit
set_option maxRecDepth 100000
open Pk (bcell scope_ahead)
open Bl (ret_bool ret_text Tab)
open Rw (below_1 below_2 below_then)

theorem ex_bytes : bytesC 1 1 2 ⟨#[107]⟩ ⟨#[118]⟩ = (⟨#[1, 1, 2, 0, 0, 0, 1, 0, 107, 1, 0, 118]⟩, true) := by decide +kernel
theorem ex_read : readC (⟨#[1, 1, 2, 0, 0, 0, 1, 0, 107, 1, 0, 118]⟩ ++ ⟨#[120]⟩) false = (1, 1, 2, ⟨#[107]⟩, ⟨#[118]⟩, ⟨#[120]⟩, false) := by decide +kernel
theorem ex_right : rightC 1 1 2 ⟨#[107]⟩ ⟨#[118]⟩ = true := by decide +kernel
theorem ex_zero : rightC 0 0 0 ⟨#[]⟩ ⟨#[]⟩ = true := by decide +kernel
theorem ex_four : rightC 4 0 0 ⟨#[]⟩ ⟨#[]⟩ = false := by decide +kernel
theorem ex_clash : clashC 1 1 2 ⟨#[107]⟩ 2 1 3 ⟨#[107]⟩ = true := by
  unfold clashC; rw [toList_beq]; decide +kernel
theorem ex_none : clashC 1 1 2 ⟨#[107]⟩ 0 0 0 ⟨#[]⟩ = false := by
  unfold clashC; rw [toList_beq]; decide +kernel
theorem ex_itoa : Lib.itoa 1 = [49] := by
  unfold Lib.itoa
  rw [if_neg (by decide), show (1 : Int).toNat = 1 from rfl, Lib.decDigits_one (by omega)]
  rfl
theorem ex_text1 : textC 1 1 2 ⟨#[107]⟩ ⟨#[118]⟩ = ⟨#[112, 117, 116, 32, 49, 46, 50, 32, 107, 61, 118]⟩ := by
  unfold textC leadC
  rw [ex_itoa, show (2 : Int).toNat = 2 from rfl, Lib.decDigits_one (by omega)]
  decide +kernel
theorem ex_text2 : textC 2 1 3 ⟨#[107]⟩ ⟨#[]⟩ = ⟨#[103, 101, 116, 32, 49, 46, 51, 32, 107]⟩ := by
  unfold textC leadC
  rw [ex_itoa, show (3 : Int).toNat = 3 from rfl, Lib.decDigits_one (by omega)]
  decide +kernel
theorem ex_text0 : textC 0 0 0 ⟨#[]⟩ ⟨#[]⟩ = ⟨#[45]⟩ := rfl

set_option maxHeartbeats 4000000 in
theorem examples_any (w : World) (ht : Tab w) : Calls Tryd.prog 9 #[] w fun e w' => e = .returned (.bool true) ∧ Below w.heap.size w w' := by
  go_enter Tryd.func9, Tryd.ntmps9
  go_wp2_with fail
  have bel' : Below w.heap.size w ((w.alloc (.cells #[.int .i64 1, .int .i64 1, .int .u32 2, .string ⟨#[107]⟩, .string ⟨#[118]⟩] 24)).alloc (.cells #[.int .i64 2, .int .i64 1, .int .u32 3, .string ⟨#[107]⟩, .string ⟨#[]⟩] 24)) := Rw.below_then ((Below.refl _ _)) (Rw.below_2 _ _ _) (Nat.le_refl _)
  have k1 := (Rw.Row.newAt (w) [.int .i64 1, .int .i64 1, .int .u32 2, .string ⟨#[107]⟩, .string ⟨#[118]⟩] (24) (w.heap.size) (by simp)).alloc (.cells #[.int .i64 2, .int .i64 1, .int .u32 3, .string ⟨#[107]⟩, .string ⟨#[]⟩] 24)
  have k2 := Rw.Row.newAt (w.alloc (.cells #[.int .i64 1, .int .i64 1, .int .u32 2, .string ⟨#[107]⟩, .string ⟨#[118]⟩] 24)) [.int .i64 2, .int .i64 1, .int .u32 3, .string ⟨#[107]⟩, .string ⟨#[]⟩] (24) (w.heap.size + 1) (by simp)
  have ht' : Bl.Tab ((w.alloc (.cells #[.int .i64 1, .int .i64 1, .int .u32 2, .string ⟨#[107]⟩, .string ⟨#[118]⟩] 24)).alloc (.cells #[.int .i64 2, .int .i64 1, .int .u32 3, .string ⟨#[107]⟩, .string ⟨#[]⟩] 24)) := Bl.Tab.over (ht) (Rw.below_2 _ _ _)
  clear ht
  have ht := ht'; clear ht'
  have bel := bel'; clear bel'
  refine (bytes_any 1 1 2 ⟨#[107]⟩ ⟨#[118]⟩ _ true ex_bytes (by omega) (by omega) _).mono ?_
  rintro e x2 ⟨rfl, hb⟩
  have belb := Rw.below_then bel hb bel.size; clear bel
  have k1b := k1.over hb; clear k1
  have k2b := k2.over hb; clear k2
  have htb := Bl.Tab.over ht hb; clear ht
  clear hb
  have k1 := k1b; clear k1b
  have k2 := k2b; clear k2b
  have ht := htb; clear htb
  have bel := belb; clear belb
  go_wp2_with fail
  refine (read_any _ false 1 1 2 ⟨#[107]⟩ ⟨#[118]⟩ ⟨#[120]⟩ false ex_read (by decide) _).mono ?_
  rintro e x3 ⟨rfl, hb⟩
  have belb := Rw.below_then bel hb bel.size; clear bel
  have k1b := k1.over hb; clear k1
  have k2b := k2.over hb; clear k2
  have htb := Bl.Tab.over ht hb; clear ht
  clear hb
  have k1 := k1b; clear k1b
  have k2 := k2b; clear k2b
  have ht := htb; clear htb
  have bel := belb; clear belb
  have bel' : Below w.heap.size w ((x3.alloc (.cells #[.int .i64 1, .int .i64 1, .int .u32 2, .string ⟨#[107]⟩, .string ⟨#[118]⟩] 24)).alloc (.cells #[.string ⟨#[120]⟩, .bool false] 43)) := Rw.below_then (bel) (Rw.below_2 _ _ _) bel.size
  have k1' := ((k1).alloc (.cells #[.int .i64 1, .int .i64 1, .int .u32 2, .string ⟨#[107]⟩, .string ⟨#[118]⟩] 24)).alloc (.cells #[.string ⟨#[120]⟩, .bool false] 43)
  have k2' := ((k2).alloc (.cells #[.int .i64 1, .int .i64 1, .int .u32 2, .string ⟨#[107]⟩, .string ⟨#[118]⟩] 24)).alloc (.cells #[.string ⟨#[120]⟩, .bool false] 43)
  have k5 := (Rw.Row.newAt (x3) [.int .i64 1, .int .i64 1, .int .u32 2, .string ⟨#[107]⟩, .string ⟨#[118]⟩] (24) (x3.heap.size) (by simp)).alloc (.cells #[.string ⟨#[120]⟩, .bool false] 43)
  have k6 := Rw.Row.newAt (x3.alloc (.cells #[.int .i64 1, .int .i64 1, .int .u32 2, .string ⟨#[107]⟩, .string ⟨#[118]⟩] 24)) [.string ⟨#[120]⟩, .bool false] (43) (x3.heap.size + 1) (by simp)
  have ht' : Bl.Tab ((x3.alloc (.cells #[.int .i64 1, .int .i64 1, .int .u32 2, .string ⟨#[107]⟩, .string ⟨#[118]⟩] 24)).alloc (.cells #[.string ⟨#[120]⟩, .bool false] 43)) := Bl.Tab.over (ht) (Rw.below_2 _ _ _)
  clear bel k1 k2 ht
  have k1 := k1'; clear k1'
  have k2 := k2'; clear k2'
  have ht := ht'; clear ht'
  have bel := bel'; clear bel'
  have ⟨k1_0, k1_0f⟩ := k1.2 0 _ rfl
  have ⟨k1_1, k1_1f⟩ := k1.2 1 _ rfl
  have ⟨k1_2, k1_2f⟩ := k1.2 2 _ rfl
  have ⟨k1_3, k1_3f⟩ := k1.2 3 _ rfl
  have ⟨k1_4, k1_4f⟩ := k1.2 4 _ rfl
  have k1_lt := k1.1
  have ⟨k2_0, k2_0f⟩ := k2.2 0 _ rfl
  have ⟨k2_1, k2_1f⟩ := k2.2 1 _ rfl
  have ⟨k2_2, k2_2f⟩ := k2.2 2 _ rfl
  have ⟨k2_3, k2_3f⟩ := k2.2 3 _ rfl
  have ⟨k2_4, k2_4f⟩ := k2.2 4 _ rfl
  have k2_lt := k2.1
  go_wp2_with fail
  generalize (x3.alloc (.cells #[.int .i64 1, .int .i64 1, .int .u32 2, .string ⟨#[107]⟩, .string ⟨#[118]⟩] 24)).alloc (.cells #[.string ⟨#[120]⟩, .bool false] 43) = X3 at *
  generalize x3.heap.size = g3 at *
  refine (right_any 1 1 2 ⟨#[107]⟩ ⟨#[118]⟩ true ex_right _).mono ?_
  rintro e x4 ⟨rfl, hb⟩
  have belb := Rw.below_then bel hb bel.size; clear bel
  clear k1_0 k1_0f k1_1 k1_1f k1_2 k1_2f k1_3 k1_3f k1_4 k1_4f k1_lt k2_0 k2_0f k2_1 k2_1f k2_2 k2_2f k2_3 k2_3f k2_4 k2_4f k2_lt
  have k1b := k1.over hb; clear k1
  have k2b := k2.over hb; clear k2
  have k5b := k5.over hb; clear k5
  have k6b := k6.over hb; clear k6
  have htb := Bl.Tab.over ht hb; clear ht
  clear hb
  have k1 := k1b; clear k1b
  have k2 := k2b; clear k2b
  have k5 := k5b; clear k5b
  have k6 := k6b; clear k6b
  have ht := htb; clear htb
  have bel := belb; clear belb
  go_wp2_with fail
  refine (right_any 0 0 0 ⟨#[]⟩ ⟨#[]⟩ true ex_zero _).mono ?_
  rintro e x5 ⟨rfl, hb⟩
  have belb := Rw.below_then bel hb bel.size; clear bel
  have k1b := k1.over hb; clear k1
  have k2b := k2.over hb; clear k2
  have k5b := k5.over hb; clear k5
  have k6b := k6.over hb; clear k6
  have htb := Bl.Tab.over ht hb; clear ht
  clear hb
  have k1 := k1b; clear k1b
  have k2 := k2b; clear k2b
  have k5 := k5b; clear k5b
  have k6 := k6b; clear k6b
  have ht := htb; clear htb
  have bel := belb; clear belb
  go_wp2_with fail
  refine (right_any 4 0 0 ⟨#[]⟩ ⟨#[]⟩ false ex_four _).mono ?_
  rintro e x6 ⟨rfl, hb⟩
  have belb := Rw.below_then bel hb bel.size; clear bel
  have k1b := k1.over hb; clear k1
  have k2b := k2.over hb; clear k2
  have k5b := k5.over hb; clear k5
  have k6b := k6.over hb; clear k6
  have htb := Bl.Tab.over ht hb; clear ht
  clear hb
  have k1 := k1b; clear k1b
  have k2 := k2b; clear k2b
  have k5 := k5b; clear k5b
  have k6 := k6b; clear k6b
  have ht := htb; clear htb
  have bel := belb; clear belb
  have ⟨k1_0, k1_0f⟩ := k1.2 0 _ rfl
  have ⟨k1_1, k1_1f⟩ := k1.2 1 _ rfl
  have ⟨k1_2, k1_2f⟩ := k1.2 2 _ rfl
  have ⟨k1_3, k1_3f⟩ := k1.2 3 _ rfl
  have ⟨k1_4, k1_4f⟩ := k1.2 4 _ rfl
  have k1_lt := k1.1
  have ⟨k2_0, k2_0f⟩ := k2.2 0 _ rfl
  have ⟨k2_1, k2_1f⟩ := k2.2 1 _ rfl
  have ⟨k2_2, k2_2f⟩ := k2.2 2 _ rfl
  have ⟨k2_3, k2_3f⟩ := k2.2 3 _ rfl
  have ⟨k2_4, k2_4f⟩ := k2.2 4 _ rfl
  have k2_lt := k2.1
  go_wp2_with fail
  refine (clash_any 1 1 2 ⟨#[107]⟩ ⟨#[118]⟩ 2 1 3 ⟨#[107]⟩ ⟨#[]⟩ true ex_clash _).mono ?_
  rintro e x7 ⟨rfl, hb⟩
  have belb := Rw.below_then bel hb bel.size; clear bel
  clear k1_0 k1_0f k1_1 k1_1f k1_2 k1_2f k1_3 k1_3f k1_4 k1_4f k1_lt k2_0 k2_0f k2_1 k2_1f k2_2 k2_2f k2_3 k2_3f k2_4 k2_4f k2_lt
  have k1b := k1.over hb; clear k1
  have k2b := k2.over hb; clear k2
  have k5b := k5.over hb; clear k5
  have k6b := k6.over hb; clear k6
  have htb := Bl.Tab.over ht hb; clear ht
  clear hb
  have k1 := k1b; clear k1b
  have k2 := k2b; clear k2b
  have k5 := k5b; clear k5b
  have k6 := k6b; clear k6b
  have ht := htb; clear htb
  have bel := belb; clear belb
  have ⟨k1_0, k1_0f⟩ := k1.2 0 _ rfl
  have ⟨k1_1, k1_1f⟩ := k1.2 1 _ rfl
  have ⟨k1_2, k1_2f⟩ := k1.2 2 _ rfl
  have ⟨k1_3, k1_3f⟩ := k1.2 3 _ rfl
  have ⟨k1_4, k1_4f⟩ := k1.2 4 _ rfl
  have k1_lt := k1.1
  go_wp2_with fail
  refine (clash_any 1 1 2 ⟨#[107]⟩ ⟨#[118]⟩ 0 0 0 ⟨#[]⟩ ⟨#[]⟩ false ex_none _).mono ?_
  rintro e x8 ⟨rfl, hb⟩
  have belb := Rw.below_then bel hb bel.size; clear bel
  clear k1_0 k1_0f k1_1 k1_1f k1_2 k1_2f k1_3 k1_3f k1_4 k1_4f k1_lt
  have k1b := k1.over hb; clear k1
  have k2b := k2.over hb; clear k2
  have k5b := k5.over hb; clear k5
  have k6b := k6.over hb; clear k6
  have htb := Bl.Tab.over ht hb; clear ht
  clear hb
  have k1 := k1b; clear k1b
  have k2 := k2b; clear k2b
  have k5 := k5b; clear k5b
  have k6 := k6b; clear k6b
  have ht := htb; clear htb
  have bel := belb; clear belb
  have ⟨k1_0, k1_0f⟩ := k1.2 0 _ rfl
  have ⟨k1_1, k1_1f⟩ := k1.2 1 _ rfl
  have ⟨k1_2, k1_2f⟩ := k1.2 2 _ rfl
  have ⟨k1_3, k1_3f⟩ := k1.2 3 _ rfl
  have ⟨k1_4, k1_4f⟩ := k1.2 4 _ rfl
  have k1_lt := k1.1
  have ⟨k5_0, k5_0f⟩ := k5.2 0 _ rfl
  have ⟨k5_1, k5_1f⟩ := k5.2 1 _ rfl
  have ⟨k5_2, k5_2f⟩ := k5.2 2 _ rfl
  have ⟨k5_3, k5_3f⟩ := k5.2 3 _ rfl
  have ⟨k5_4, k5_4f⟩ := k5.2 4 _ rfl
  have k5_lt := k5.1
  have ⟨k6_0, k6_0f⟩ := k6.2 0 _ rfl
  have ⟨k6_1, k6_1f⟩ := k6.2 1 _ rfl
  have k6_lt := k6.1
  go_wp2_with fail
  refine (text_any 1 1 2 ⟨#[107]⟩ ⟨#[118]⟩ _ ex_text1 (by omega) (by omega) (by omega) (by omega) (by decide) (by decide) _ ht).mono ?_
  rintro e x9 ⟨rfl, hb⟩
  have belb := Rw.below_then bel hb bel.size; clear bel
  clear k1_0 k1_0f k1_1 k1_1f k1_2 k1_2f k1_3 k1_3f k1_4 k1_4f k1_lt k5_0 k5_0f k5_1 k5_1f k5_2 k5_2f k5_3 k5_3f k5_4 k5_4f k5_lt k6_0 k6_0f k6_1 k6_1f k6_lt
  have k1b := k1.over hb; clear k1
  have k2b := k2.over hb; clear k2
  have k5b := k5.over hb; clear k5
  have k6b := k6.over hb; clear k6
  have htb := Bl.Tab.over ht hb; clear ht
  clear hb
  have k1 := k1b; clear k1b
  have k2 := k2b; clear k2b
  have k5 := k5b; clear k5b
  have k6 := k6b; clear k6b
  have ht := htb; clear htb
  have bel := belb; clear belb
  have ⟨k2_0, k2_0f⟩ := k2.2 0 _ rfl
  have ⟨k2_1, k2_1f⟩ := k2.2 1 _ rfl
  have ⟨k2_2, k2_2f⟩ := k2.2 2 _ rfl
  have ⟨k2_3, k2_3f⟩ := k2.2 3 _ rfl
  have ⟨k2_4, k2_4f⟩ := k2.2 4 _ rfl
  have k2_lt := k2.1
  go_wp2_with fail
  refine (text_any 2 1 3 ⟨#[107]⟩ ⟨#[]⟩ _ ex_text2 (by omega) (by omega) (by omega) (by omega) (by decide) (by decide) _ ht).mono ?_
  rintro e x10 ⟨rfl, hb⟩
  have belb := Rw.below_then bel hb bel.size; clear bel
  clear k2_0 k2_0f k2_1 k2_1f k2_2 k2_2f k2_3 k2_3f k2_4 k2_4f k2_lt
  have k1b := k1.over hb; clear k1
  have k2b := k2.over hb; clear k2
  have k5b := k5.over hb; clear k5
  have k6b := k6.over hb; clear k6
  have htb := Bl.Tab.over ht hb; clear ht
  clear hb
  have k1 := k1b; clear k1b
  have k2 := k2b; clear k2b
  have k5 := k5b; clear k5b
  have k6 := k6b; clear k6b
  have ht := htb; clear htb
  have bel := belb; clear belb
  go_wp2_with fail
  refine (text_any 0 0 0 ⟨#[]⟩ ⟨#[]⟩ _ ex_text0 (by omega) (by omega) (by omega) (by omega) (by decide) (by decide) _ ht).mono ?_
  rintro e x11 ⟨rfl, hb⟩
  have belb := Rw.below_then bel hb bel.size; clear bel
  have k1b := k1.over hb; clear k1
  have k2b := k2.over hb; clear k2
  have k5b := k5.over hb; clear k5
  have k6b := k6.over hb; clear k6
  have htb := Bl.Tab.over ht hb; clear ht
  clear hb
  have k1 := k1b; clear k1b
  have k2 := k2b; clear k2b
  have k5 := k5b; clear k5b
  have k6 := k6b; clear k6b
  have ht := htb; clear htb
  have bel := belb; clear belb
  go_wp2
  go_ret
  exact ⟨rfl, bel⟩
end Go.Proofs.YtolgboedinbpeaaDoor.Cm
