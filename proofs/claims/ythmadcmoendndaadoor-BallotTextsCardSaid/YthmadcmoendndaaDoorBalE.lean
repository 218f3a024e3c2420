/-
  Contract: the chapter's examples hold. Condition: the library's table of powers of ten lies as it was laid.
-/
import Derived.Test.YthmadcmoendndaaDoorBalG
import Derived.Test.YthmadcmoendndaaDoorBalT
namespace Go.Proofs.YthmadcmoendndaaDoor.Bl
open Go.RowKit
open Pk (bcell scope_ahead)

theorem ex_next : nextB 0 2 = (1, 2, true) := by decide +kernel
theorem ex_no : nextB 0 0 = (0, 0, false) := by decide +kernel
theorem ex_put : putB 1 2 = ⟨#[1, 0, 0, 0, 2]⟩ := by decide +kernel
theorem ex_get : getB (⟨#[1, 0, 0, 0, 2]⟩ ++ ⟨#[120]⟩) false = (1, 2, ⟨#[120]⟩, false) := by decide +kernel
theorem ex_bad : getB ⟨#[1, 0, 0, 0, 0]⟩ false = (0, 0, ⟨#[]⟩, true) := by decide +kernel
theorem ex_text : textB 1 2 = ⟨#[49, 46, 50]⟩ := by
  unfold textB Lib.itoa
  rw [show (1 : Int).toNat = 1 from rfl, if_neg (by decide), show (2 : Int).toNat = 2 from rfl, Lib.decDigits_one (by omega), Lib.decDigits_one (by omega)]
  rfl
theorem ex_order : orderB 1 2 0 0 = 1 := by decide +kernel
theorem ex_right : rightB 1 2 = true := by decide +kernel
theorem ex_wrong : rightB 0 1 = false := by decide +kernel

set_option maxHeartbeats 2000000 in
theorem examples_any (w : World) (ht : Tab w) : Calls Tryd.prog 9 #[] w fun e w' => e = .returned (.bool true) ∧ Below w.heap.size w w' := by
  go_enter Tryd.func9, Tryd.ntmps9
  go_wp2_with fail
  refine (next_any 0 0 2 1 2 true ex_next (by omega) (by omega) _).mono ?_
  rintro e x1 ⟨rfl, hb⟩
  have belb : Below w.heap.size w x1 := hb
  have htb := Tab.over ht hb; clear ht
  clear hb
  have ht := htb; clear htb
  have bel := belb; clear belb
  have bel' : Below w.heap.size w (x1.alloc (.cells #[.int .u32 1, .int .i64 2] 24)) := below_then (bel) (below_1 _ _) bel.size
  have k1 := Pair.newAt (x1) (.int .u32 1) (.int .i64 2) 24 (x1.heap.size) (by simp)
  have ht' : Tab (x1.alloc (.cells #[.int .u32 1, .int .i64 2] 24)) := Tab.over (ht) (below_1 _ _)
  clear bel ht
  have ht := ht'; clear ht'
  have bel := bel'; clear bel'
  go_wp2_with fail
  generalize x1.alloc (.cells #[.int .u32 1, .int .i64 2] 24) = X1 at *
  generalize x1.heap.size = g1 at *
  refine (next_any 0 0 0 0 0 false ex_no (by omega) (by omega) _).mono ?_
  rintro e x2 ⟨rfl, hb⟩
  have belb := below_then bel hb bel.size; clear bel
  have k1b := k1.over hb; clear k1
  have htb := Tab.over ht hb; clear ht
  clear hb
  have k1 := k1b; clear k1b
  have ht := htb; clear htb
  have bel := belb; clear belb
  have bel' : Below w.heap.size w (x2.alloc (.cells #[.int .u32 0, .int .i64 0] 24)) := below_then (bel) (below_1 _ _) bel.size
  have k1' := (k1).alloc (.cells #[.int .u32 0, .int .i64 0] 24)
  have k3 := Pair.newAt (x2) (.int .u32 0) (.int .i64 0) 24 (x2.heap.size) (by simp)
  have ht' : Tab (x2.alloc (.cells #[.int .u32 0, .int .i64 0] 24)) := Tab.over (ht) (below_1 _ _)
  clear bel k1 ht
  have k1 := k1'; clear k1'
  have ht := ht'; clear ht'
  have bel := bel'; clear bel'
  have ⟨k1_0, k1_1, k1_2, k1_3, k1_4⟩ := k1
  go_wp2_with fail
  generalize x2.alloc (.cells #[.int .u32 0, .int .i64 0] 24) = X2 at *
  generalize x2.heap.size = g2 at *
  refine (put_any 1 2 _ ex_put (by omega) (by omega) _).mono ?_
  rintro e x3 ⟨rfl, hb⟩
  have belb := below_then bel hb bel.size; clear bel
  clear k1_0 k1_1 k1_2 k1_3 k1_4
  have k1b := k1.over hb; clear k1
  have k3b := k3.over hb; clear k3
  have htb := Tab.over ht hb; clear ht
  clear hb
  have k1 := k1b; clear k1b
  have k3 := k3b; clear k3b
  have ht := htb; clear htb
  have bel := belb; clear belb
  go_wp2_with fail
  clear k3
  refine (get_any _ false 1 2 ⟨#[120]⟩ false ex_get (by decide) _).mono ?_
  rintro e x4 ⟨rfl, hb⟩
  have belb := below_then bel hb bel.size; clear bel
  have k1b := k1.over hb; clear k1
  have htb := Tab.over ht hb; clear ht
  clear hb
  have k1 := k1b; clear k1b
  have ht := htb; clear htb
  have bel := belb; clear belb
  have bel' : Below w.heap.size w ((x4.alloc (.cells #[.int .u32 1, .int .i64 2] 24)).alloc (.cells #[.string ⟨#[120]⟩, .bool false] 26)) := below_then (bel) (below_2 _ _ _) bel.size
  have k1' := ((k1).alloc (.cells #[.int .u32 1, .int .i64 2] 24)).alloc (.cells #[.string ⟨#[120]⟩, .bool false] 26)
  have k5 := (Pair.newAt (x4) (.int .u32 1) (.int .i64 2) 24 (x4.heap.size) (by simp)).alloc (.cells #[.string ⟨#[120]⟩, .bool false] 26)
  have k6 := Pair.newAt (x4.alloc (.cells #[.int .u32 1, .int .i64 2] 24)) (.string ⟨#[120]⟩) (.bool false) 26 (x4.heap.size + 1) (by simp)
  have ht' : Tab ((x4.alloc (.cells #[.int .u32 1, .int .i64 2] 24)).alloc (.cells #[.string ⟨#[120]⟩, .bool false] 26)) := Tab.over (ht) (below_2 _ _ _)
  clear bel k1 ht
  have k1 := k1'; clear k1'
  have ht := ht'; clear ht'
  have bel := bel'; clear bel'
  go_wp2_with fail
  generalize (x4.alloc (.cells #[.int .u32 1, .int .i64 2] 24)).alloc (.cells #[.string ⟨#[120]⟩, .bool false] 26) = X4 at *
  generalize x4.heap.size = g4 at *
  refine (get_any _ false 0 0 ⟨#[]⟩ true ex_bad (by decide) _).mono ?_
  rintro e x5 ⟨rfl, hb⟩
  have belb := below_then bel hb bel.size; clear bel
  have k1b := k1.over hb; clear k1
  have k5b := k5.over hb; clear k5
  have k6b := k6.over hb; clear k6
  have htb := Tab.over ht hb; clear ht
  clear hb
  have k1 := k1b; clear k1b
  have k5 := k5b; clear k5b
  have k6 := k6b; clear k6b
  have ht := htb; clear htb
  have bel := belb; clear belb
  have bel' : Below w.heap.size w ((x5.alloc (.cells #[.int .u32 0, .int .i64 0] 24)).alloc (.cells #[.string ⟨#[]⟩, .bool true] 26)) := below_then (bel) (below_2 _ _ _) bel.size
  have k1' := ((k1).alloc (.cells #[.int .u32 0, .int .i64 0] 24)).alloc (.cells #[.string ⟨#[]⟩, .bool true] 26)
  have k5' := ((k5).alloc (.cells #[.int .u32 0, .int .i64 0] 24)).alloc (.cells #[.string ⟨#[]⟩, .bool true] 26)
  have k6' := ((k6).alloc (.cells #[.int .u32 0, .int .i64 0] 24)).alloc (.cells #[.string ⟨#[]⟩, .bool true] 26)
  have k7 := (Pair.newAt (x5) (.int .u32 0) (.int .i64 0) 24 (x5.heap.size) (by simp)).alloc (.cells #[.string ⟨#[]⟩, .bool true] 26)
  have k8 := Pair.newAt (x5.alloc (.cells #[.int .u32 0, .int .i64 0] 24)) (.string ⟨#[]⟩) (.bool true) 26 (x5.heap.size + 1) (by simp)
  have ht' : Tab ((x5.alloc (.cells #[.int .u32 0, .int .i64 0] 24)).alloc (.cells #[.string ⟨#[]⟩, .bool true] 26)) := Tab.over (ht) (below_2 _ _ _)
  clear bel k1 k5 k6 ht
  have k1 := k1'; clear k1'
  have k5 := k5'; clear k5'
  have k6 := k6'; clear k6'
  have ht := ht'; clear ht'
  have bel := bel'; clear bel'
  have ⟨k1_0, k1_1, k1_2, k1_3, k1_4⟩ := k1
  have ⟨k5_0, k5_1, k5_2, k5_3, k5_4⟩ := k5
  have ⟨k6_0, k6_1, k6_2, k6_3, k6_4⟩ := k6
  have ⟨k8_0, k8_1, k8_2, k8_3, k8_4⟩ := k8
  go_wp2_with fail
  generalize (x5.alloc (.cells #[.int .u32 0, .int .i64 0] 24)).alloc (.cells #[.string ⟨#[]⟩, .bool true] 26) = X5 at *
  generalize x5.heap.size = g5 at *
  refine (text_any 1 2 _ ex_text (by omega) (by omega) (by omega) (by omega) _ ht).mono ?_
  rintro e x6 ⟨rfl, hb⟩
  have belb := below_then bel hb bel.size; clear bel
  clear k1_0 k1_1 k1_2 k1_3 k1_4 k5_0 k5_1 k5_2 k5_3 k5_4 k6_0 k6_1 k6_2 k6_3 k6_4 k8_0 k8_1 k8_2 k8_3 k8_4
  have k1b := k1.over hb; clear k1
  have k5b := k5.over hb; clear k5
  have k6b := k6.over hb; clear k6
  have k7b := k7.over hb; clear k7
  have k8b := k8.over hb; clear k8
  have htb := Tab.over ht hb; clear ht
  clear hb
  have k1 := k1b; clear k1b
  have k5 := k5b; clear k5b
  have k6 := k6b; clear k6b
  have k7 := k7b; clear k7b
  have k8 := k8b; clear k8b
  have ht := htb; clear htb
  have bel := belb; clear belb
  have ⟨k1_0, k1_1, k1_2, k1_3, k1_4⟩ := k1
  go_wp2_with fail
  refine (order_any 1 2 0 0 1 ex_order _).mono ?_
  rintro e x7 ⟨rfl, hb⟩
  have belb := below_then bel hb bel.size; clear bel
  clear k1_0 k1_1 k1_2 k1_3 k1_4
  have k1b := k1.over hb; clear k1
  have k5b := k5.over hb; clear k5
  have k6b := k6.over hb; clear k6
  have k7b := k7.over hb; clear k7
  have k8b := k8.over hb; clear k8
  have htb := Tab.over ht hb; clear ht
  clear hb
  have k1 := k1b; clear k1b
  have k5 := k5b; clear k5b
  have k6 := k6b; clear k6b
  have k7 := k7b; clear k7b
  have k8 := k8b; clear k8b
  have ht := htb; clear htb
  have bel := belb; clear belb
  have ⟨k1_0, k1_1, k1_2, k1_3, k1_4⟩ := k1
  go_wp2_with fail
  refine (right_any 1 2 true ex_right _).mono ?_
  rintro e x8 ⟨rfl, hb⟩
  have belb := below_then bel hb bel.size; clear bel
  clear k1_0 k1_1 k1_2 k1_3 k1_4
  have k1b := k1.over hb; clear k1
  have k5b := k5.over hb; clear k5
  have k6b := k6.over hb; clear k6
  have k7b := k7.over hb; clear k7
  have k8b := k8.over hb; clear k8
  have htb := Tab.over ht hb; clear ht
  clear hb
  have k1 := k1b; clear k1b
  have k5 := k5b; clear k5b
  have k6 := k6b; clear k6b
  have k7 := k7b; clear k7b
  have k8 := k8b; clear k8b
  have ht := htb; clear htb
  have bel := belb; clear belb
  go_wp2_with fail
  refine (right_any 0 1 false ex_wrong _).mono ?_
  rintro e x9 ⟨rfl, hb⟩
  have belb := below_then bel hb bel.size; clear bel
  have k1b := k1.over hb; clear k1
  have k5b := k5.over hb; clear k5
  have k6b := k6.over hb; clear k6
  have k7b := k7.over hb; clear k7
  have k8b := k8.over hb; clear k8
  have htb := Tab.over ht hb; clear ht
  clear hb
  have k1 := k1b; clear k1b
  have k5 := k5b; clear k5b
  have k6 := k6b; clear k6b
  have k7 := k7b; clear k7b
  have k8 := k8b; clear k8b
  have ht := htb; clear htb
  have bel := belb; clear belb
  go_wp2
  go_ret
  exact ⟨rfl, bel⟩
end Go.Proofs.YthmadcmoendndaaDoor.Bl
