/-
  Proved: for every number of 8 bits and every signed number of 8 bits the law BallotBounds returns true and leaves its inputs as they were; the card ties the three tables of the library that the row lists to the text of the program. No condition beyond the form itself (each text at most 2^47 - 4096 bytes; the listed tables start as that text lays them).
-/
import Derived.Test.YthmadcmoendndaaDoorBalL
import Derived.Test.YthmadcmoendndaaDoorCards
import Derived.Test.YthmadcmoendndaaDoorTie
import Derived.Deep.DeepHandedRow
import Derived.LaidMore
import Derived.SevenTiedAt
import Derived.WalkKit
import Derived.ProofKit
import Derived.OpenShut
import Derived.ShutString
import Derived.SizedLaws
import Derived.ChangeOld
import Derived.Below
import Derived.Carry
import Derived.Lib.SmallJoins
import Derived.Deep.SlicePairs
import Derived.SliceStrings
namespace Go.Proofs.YthmadcmoendndaaDoor.ballotBounds
open Go.ChangeShapes Go.WideShapes Go.ChangeAt Go.RowKit Go.Joins Go.Deep
open Go.ChangeMaps (open_string shut_string)
set_option linter.unusedVariables false

theorem own : ownKnob Tryd.prog.godebug = none := by kernel_rfl
theorem laidOut : laidOutB Tryd.prog = true := by kernel_rfl

set_option maxRecDepth 100000 in
set_option maxHeartbeats 4000000 in
theorem walk (a0 : Int) (a1 : Int) (w : World) (w0 : (Lit.int .u8 a0).wf = true) (w1 : (Lit.int .i8 a1).wf = true) (ht : Bl.Tab w) :
    Calls Tryd.prog 8 #[.int .u8 a0, .int .i8 a1] w fun e w' => e = .returned (.bool true) ∧ Below w.heap.size w w' := by
  have hr : 0 ≤ a0 ∧ a0 ≤ 255 := by simpa [Lit.wf, IntKind.min, IntKind.max, IntKind.signed, IntKind.bits] using w0
  have hv : -128 ≤ a1 ∧ a1 ≤ 127 := by simpa [Lit.wf, IntKind.min, IntKind.max, IntKind.signed, IntKind.bits] using w1
  obtain ⟨r0, r1⟩ := hr
  obtain ⟨v0, v1⟩ := hv
  clear w0 w1
  obtain ⟨r, er⟩ : ∃ r, a0 % 3 = r := ⟨_, rfl⟩
  have h0 : 0 ≤ r := by omega
  have h2 : r ≤ 2 := by omega
  obtain ⟨v, ev⟩ : ∃ v, v = a1 := ⟨_, rfl⟩
  subst ev
  obtain ⟨l, el⟩ : ∃ l, bits .and .i64 v 255 = l := ⟨_, rfl⟩
  have ml : v % 256 = l := by rw [← el, Bl.and_low v ⟨v0, v1⟩]
  obtain ⟨s, es⟩ : ∃ s, Bl.putB r v = s := ⟨_, rfl⟩
  obtain ⟨p, ep⟩ : ∃ p, Bl.rightB r v = p := ⟨_, rfl⟩
  have HZ := Lib.hid (show s.size = 5 by rw [← es]; exact Bl.putB_size r v)
  have hg := Bl.get_self r v l h0 (by omega) ml
  rw [es] at hg
  have HS := Lib.hid es
  clear es
  have ways : (r = 0 ∧ v = 0 ∧ l = 0) ∨ (r = 0 ∧ (v == 0) = false ∧ (l == 0) = false) ∨ (0 < r ∧ (r == 0) = false ∧ 1 ≤ v ∧ v ≤ 7 ∧ l = v) ∨ (0 < r ∧ (r == 0) = false ∧ v = 0 ∧ l = 0) ∨ (0 < r ∧ (r == 0) = false ∧ ¬ 1 ≤ v ∧ 1 ≤ l ∧ decide (l ≤ 7) = false) ∨ (0 < r ∧ (r == 0) = false ∧ 1 ≤ v ∧ decide (v ≤ 7) = false ∧ l = v) := by
    simp only [beq_eq_false_iff_ne, ne_eq, decide_eq_false_iff_not]
    omega
  clear ml
  rcases ways with ⟨rfl, rfl, rfl⟩ | ⟨rfl, k1, k2⟩ | ⟨k1, k2, k3, k4, rfl⟩ | ⟨k1, k2, rfl, rfl⟩ | ⟨k1, k2, k3, k4, k5⟩ | ⟨k1, k2, k3, k4, rfl⟩
  · have HG := Lib.hid (show Bl.getB s false = (0, 0, ⟨#[]⟩, false) by rw [hg, if_pos ((Bl.rightB_iff _ _).2 (by omega))])
    obtain rfl : p = true := by rw [← ep, Bl.rightB_iff]; omega
    have HP := Lib.hid ep
    clear hg ep
    go_enter Tryd.func8, Tryd.ntmps8
    go_wp2_with fail
    refine (Bl.examples_any _ ht).mono ?_
    rintro e x1 ⟨rfl, hb⟩
    have belb : Below w.heap.size w x1 := hb
    have htb := Bl.Tab.over ht hb; clear ht
    clear hb
    have ht := htb; clear htb
    have bel := belb; clear belb
    go_wp2_with fail
    have bel' : Below w.heap.size w (x1.alloc (.cells #[.int .u32 0, .int .i64 0] 24)) := Bl.below_then ((bel)) (Bl.below_1 _ _) bel.size
    have k6 := Bl.Pair.newAt (x1) (.int .u32 0) (.int .i64 0) 24 (x1.heap.size) (by simp)
    have ht' : Bl.Tab (x1.alloc (.cells #[.int .u32 0, .int .i64 0] 24)) := Bl.Tab.over (ht) (Bl.below_1 _ _)
    clear bel ht
    have ht := ht'; clear ht'
    have bel := bel'; clear bel'
    generalize x1.alloc (.cells #[.int .u32 0, .int .i64 0] 24) = X2 at *
    generalize x1.heap.size = g2 at *
    refine (Bl.put_any 0 0 s HS.out (by omega) (by omega) _).mono ?_
    rintro e x3 ⟨rfl, hb⟩
    have belb := Bl.below_then bel hb bel.size; clear bel
    have k6b := k6.over hb; clear k6
    have htb := Bl.Tab.over ht hb; clear ht
    clear hb
    have k6 := k6b; clear k6b
    have ht := htb; clear htb
    have bel := belb; clear belb
    go_wp2_with fail
    refine (Bl.get_any s false 0 0 ⟨#[]⟩ false HG.out (by rw [HZ.out]; decide) _).mono ?_
    rintro e x4 ⟨rfl, hb⟩
    have belb := Bl.below_then bel hb bel.size; clear bel
    have k6b := k6.over hb; clear k6
    have htb := Bl.Tab.over ht hb; clear ht
    clear hb
    have k6 := k6b; clear k6b
    have ht := htb; clear htb
    have bel := belb; clear belb
    have bel' : Below w.heap.size w ((x4.alloc (.cells #[.int .u32 0, .int .i64 0] 24)).alloc (.cells #[.string ⟨#[]⟩, .bool false] 26)) := Bl.below_then (bel) (Bl.below_2 _ _ _) bel.size
    have k6' := ((k6).alloc (.cells #[.int .u32 0, .int .i64 0] 24)).alloc (.cells #[.string ⟨#[]⟩, .bool false] 26)
    have k8 := (Bl.Pair.newAt (x4) (.int .u32 0) (.int .i64 0) 24 (x4.heap.size) (by simp)).alloc (.cells #[.string ⟨#[]⟩, .bool false] 26)
    have k9 := Bl.Pair.newAt (x4.alloc (.cells #[.int .u32 0, .int .i64 0] 24)) (.string ⟨#[]⟩) (.bool false) 26 (x4.heap.size + 1) (by simp)
    have ht' : Bl.Tab ((x4.alloc (.cells #[.int .u32 0, .int .i64 0] 24)).alloc (.cells #[.string ⟨#[]⟩, .bool false] 26)) := Bl.Tab.over (ht) (Bl.below_2 _ _ _)
    clear bel k6 ht
    have k6 := k6'; clear k6'
    have ht := ht'; clear ht'
    have bel := bel'; clear bel'
    have ⟨k6_0, k6_1, k6_2, k6_3, k6_4⟩ := k6
    go_wp2_with fail
    generalize (x4.alloc (.cells #[.int .u32 0, .int .i64 0] 24)).alloc (.cells #[.string ⟨#[]⟩, .bool false] 26) = X4 at *
    generalize x4.heap.size = g4 at *
    refine (Bl.right_any 0 0 true HP.out _).mono ?_
    rintro e x5 ⟨rfl, hb⟩
    have belb := Bl.below_then bel hb bel.size; clear bel
    clear k6_0 k6_1 k6_2 k6_3 k6_4
    have k6b := k6.over hb; clear k6
    have k8b := k8.over hb; clear k8
    have k9b := k9.over hb; clear k9
    have htb := Bl.Tab.over ht hb; clear ht
    clear hb
    have k6 := k6b; clear k6b
    have k8 := k8b; clear k8b
    have k9 := k9b; clear k9b
    have ht := htb; clear htb
    have bel := belb; clear belb
    have ⟨k6_0, k6_1, k6_2, k6_3, k6_4⟩ := k6
    have ⟨k8_0, k8_1, k8_2, k8_3, k8_4⟩ := k8
    have ⟨k9_0, k9_1, k9_2, k9_3, k9_4⟩ := k9
    go_wp2
    go_ret
    exact ⟨rfl, bel⟩
  · have HG := Lib.hid (show Bl.getB s false = (0, 0, ⟨#[]⟩, true) by rw [hg, if_neg (fun h => by have := (Bl.rightB_iff _ _).1 h; (try simp only [beq_eq_false_iff_ne, ne_eq] at k1); (try simp only [beq_eq_false_iff_ne, ne_eq] at k2); (try simp only [decide_eq_false_iff_not] at k5); (try simp only [decide_eq_false_iff_not] at k4); omega)])
    obtain rfl : p = false := by rw [← ep, ← Bool.not_eq_true, Bl.rightB_iff]; (try simp only [beq_eq_false_iff_ne, ne_eq] at k1); (try simp only [beq_eq_false_iff_ne, ne_eq] at k2); (try simp only [decide_eq_false_iff_not] at k5); (try simp only [decide_eq_false_iff_not] at k4); omega
    have HP := Lib.hid ep
    clear hg ep
    go_enter Tryd.func8, Tryd.ntmps8
    go_wp2_with fail
    refine (Bl.examples_any _ ht).mono ?_
    rintro e x1 ⟨rfl, hb⟩
    have belb : Below w.heap.size w x1 := hb
    have htb := Bl.Tab.over ht hb; clear ht
    clear hb
    have ht := htb; clear htb
    have bel := belb; clear belb
    go_wp2_with fail
    have bel' : Below w.heap.size w (x1.alloc (.cells #[.int .u32 0, .int .i64 v] 24)) := Bl.below_then ((bel)) (Bl.below_1 _ _) bel.size
    have k6 := Bl.Pair.newAt (x1) (.int .u32 0) (.int .i64 v) 24 (x1.heap.size) (by simp)
    have ht' : Bl.Tab (x1.alloc (.cells #[.int .u32 0, .int .i64 v] 24)) := Bl.Tab.over (ht) (Bl.below_1 _ _)
    clear bel ht
    have ht := ht'; clear ht'
    have bel := bel'; clear bel'
    generalize x1.alloc (.cells #[.int .u32 0, .int .i64 v] 24) = X2 at *
    generalize x1.heap.size = g2 at *
    refine (Bl.put_any 0 v s HS.out (by omega) (by omega) _).mono ?_
    rintro e x3 ⟨rfl, hb⟩
    have belb := Bl.below_then bel hb bel.size; clear bel
    have k6b := k6.over hb; clear k6
    have htb := Bl.Tab.over ht hb; clear ht
    clear hb
    have k6 := k6b; clear k6b
    have ht := htb; clear htb
    have bel := belb; clear belb
    go_wp2_with fail
    refine (Bl.get_any s false 0 0 ⟨#[]⟩ true HG.out (by rw [HZ.out]; decide) _).mono ?_
    rintro e x4 ⟨rfl, hb⟩
    have belb := Bl.below_then bel hb bel.size; clear bel
    have k6b := k6.over hb; clear k6
    have htb := Bl.Tab.over ht hb; clear ht
    clear hb
    have k6 := k6b; clear k6b
    have ht := htb; clear htb
    have bel := belb; clear belb
    have bel' : Below w.heap.size w ((x4.alloc (.cells #[.int .u32 0, .int .i64 0] 24)).alloc (.cells #[.string ⟨#[]⟩, .bool true] 26)) := Bl.below_then (bel) (Bl.below_2 _ _ _) bel.size
    have k6' := ((k6).alloc (.cells #[.int .u32 0, .int .i64 0] 24)).alloc (.cells #[.string ⟨#[]⟩, .bool true] 26)
    have k8 := (Bl.Pair.newAt (x4) (.int .u32 0) (.int .i64 0) 24 (x4.heap.size) (by simp)).alloc (.cells #[.string ⟨#[]⟩, .bool true] 26)
    have k9 := Bl.Pair.newAt (x4.alloc (.cells #[.int .u32 0, .int .i64 0] 24)) (.string ⟨#[]⟩) (.bool true) 26 (x4.heap.size + 1) (by simp)
    have ht' : Bl.Tab ((x4.alloc (.cells #[.int .u32 0, .int .i64 0] 24)).alloc (.cells #[.string ⟨#[]⟩, .bool true] 26)) := Bl.Tab.over (ht) (Bl.below_2 _ _ _)
    clear bel k6 ht
    have k6 := k6'; clear k6'
    have ht := ht'; clear ht'
    have bel := bel'; clear bel'
    have ⟨k6_0, k6_1, k6_2, k6_3, k6_4⟩ := k6
    go_wp2_with fail
    generalize (x4.alloc (.cells #[.int .u32 0, .int .i64 0] 24)).alloc (.cells #[.string ⟨#[]⟩, .bool true] 26) = X4 at *
    generalize x4.heap.size = g4 at *
    refine (Bl.right_any 0 v false HP.out _).mono ?_
    rintro e x5 ⟨rfl, hb⟩
    have belb := Bl.below_then bel hb bel.size; clear bel
    clear k6_0 k6_1 k6_2 k6_3 k6_4
    have k6b := k6.over hb; clear k6
    have k8b := k8.over hb; clear k8
    have k9b := k9.over hb; clear k9
    have htb := Bl.Tab.over ht hb; clear ht
    clear hb
    have k6 := k6b; clear k6b
    have k8 := k8b; clear k8b
    have k9 := k9b; clear k9b
    have ht := htb; clear htb
    have bel := belb; clear belb
    have ⟨k6_0, k6_1, k6_2, k6_3, k6_4⟩ := k6
    have ⟨k8_0, k8_1, k8_2, k8_3, k8_4⟩ := k8
    have ⟨k9_0, k9_1, k9_2, k9_3, k9_4⟩ := k9
    go_wp2
    go_ret
    exact ⟨rfl, bel⟩
  · have HG := Lib.hid (show Bl.getB s false = (r, l, ⟨#[]⟩, false) by rw [hg, if_pos ((Bl.rightB_iff _ _).2 (by omega))])
    obtain rfl : p = true := by rw [← ep, Bl.rightB_iff]; omega
    have HP := Lib.hid ep
    clear hg ep
    go_enter Tryd.func8, Tryd.ntmps8
    go_wp2_with fail
    refine (Bl.examples_any _ ht).mono ?_
    rintro e x1 ⟨rfl, hb⟩
    have belb : Below w.heap.size w x1 := hb
    have htb := Bl.Tab.over ht hb; clear ht
    clear hb
    have ht := htb; clear htb
    have bel := belb; clear belb
    go_wp2_with fail
    have bel' : Below w.heap.size w (x1.alloc (.cells #[.int .u32 r, .int .i64 l] 24)) := Bl.below_then ((bel)) (Bl.below_1 _ _) bel.size
    have k6 := Bl.Pair.newAt (x1) (.int .u32 r) (.int .i64 l) 24 (x1.heap.size) (by simp)
    have ht' : Bl.Tab (x1.alloc (.cells #[.int .u32 r, .int .i64 l] 24)) := Bl.Tab.over (ht) (Bl.below_1 _ _)
    clear bel ht
    have ht := ht'; clear ht'
    have bel := bel'; clear bel'
    generalize x1.alloc (.cells #[.int .u32 r, .int .i64 l] 24) = X2 at *
    generalize x1.heap.size = g2 at *
    refine (Bl.put_any r l s HS.out (by omega) (by omega) _).mono ?_
    rintro e x3 ⟨rfl, hb⟩
    have belb := Bl.below_then bel hb bel.size; clear bel
    have k6b := k6.over hb; clear k6
    have htb := Bl.Tab.over ht hb; clear ht
    clear hb
    have k6 := k6b; clear k6b
    have ht := htb; clear htb
    have bel := belb; clear belb
    go_wp2_with fail
    refine (Bl.get_any s false r l ⟨#[]⟩ false HG.out (by rw [HZ.out]; decide) _).mono ?_
    rintro e x4 ⟨rfl, hb⟩
    have belb := Bl.below_then bel hb bel.size; clear bel
    have k6b := k6.over hb; clear k6
    have htb := Bl.Tab.over ht hb; clear ht
    clear hb
    have k6 := k6b; clear k6b
    have ht := htb; clear htb
    have bel := belb; clear belb
    have bel' : Below w.heap.size w ((x4.alloc (.cells #[.int .u32 r, .int .i64 l] 24)).alloc (.cells #[.string ⟨#[]⟩, .bool false] 26)) := Bl.below_then (bel) (Bl.below_2 _ _ _) bel.size
    have k6' := ((k6).alloc (.cells #[.int .u32 r, .int .i64 l] 24)).alloc (.cells #[.string ⟨#[]⟩, .bool false] 26)
    have k8 := (Bl.Pair.newAt (x4) (.int .u32 r) (.int .i64 l) 24 (x4.heap.size) (by simp)).alloc (.cells #[.string ⟨#[]⟩, .bool false] 26)
    have k9 := Bl.Pair.newAt (x4.alloc (.cells #[.int .u32 r, .int .i64 l] 24)) (.string ⟨#[]⟩) (.bool false) 26 (x4.heap.size + 1) (by simp)
    have ht' : Bl.Tab ((x4.alloc (.cells #[.int .u32 r, .int .i64 l] 24)).alloc (.cells #[.string ⟨#[]⟩, .bool false] 26)) := Bl.Tab.over (ht) (Bl.below_2 _ _ _)
    clear bel k6 ht
    have k6 := k6'; clear k6'
    have ht := ht'; clear ht'
    have bel := bel'; clear bel'
    have ⟨k6_0, k6_1, k6_2, k6_3, k6_4⟩ := k6
    go_wp2_with fail
    generalize (x4.alloc (.cells #[.int .u32 r, .int .i64 l] 24)).alloc (.cells #[.string ⟨#[]⟩, .bool false] 26) = X4 at *
    generalize x4.heap.size = g4 at *
    refine (Bl.right_any r l true HP.out _).mono ?_
    rintro e x5 ⟨rfl, hb⟩
    have belb := Bl.below_then bel hb bel.size; clear bel
    clear k6_0 k6_1 k6_2 k6_3 k6_4
    have k6b := k6.over hb; clear k6
    have k8b := k8.over hb; clear k8
    have k9b := k9.over hb; clear k9
    have htb := Bl.Tab.over ht hb; clear ht
    clear hb
    have k6 := k6b; clear k6b
    have k8 := k8b; clear k8b
    have k9 := k9b; clear k9b
    have ht := htb; clear htb
    have bel := belb; clear belb
    have ⟨k6_0, k6_1, k6_2, k6_3, k6_4⟩ := k6
    have ⟨k8_0, k8_1, k8_2, k8_3, k8_4⟩ := k8
    have ⟨k9_0, k9_1, k9_2, k9_3, k9_4⟩ := k9
    go_wp2
    go_ret
    exact ⟨rfl, bel⟩
  · have HG := Lib.hid (show Bl.getB s false = (0, 0, ⟨#[]⟩, true) by rw [hg, if_neg (fun h => by have := (Bl.rightB_iff _ _).1 h; (try simp only [beq_eq_false_iff_ne, ne_eq] at k1); (try simp only [beq_eq_false_iff_ne, ne_eq] at k2); (try simp only [decide_eq_false_iff_not] at k5); (try simp only [decide_eq_false_iff_not] at k4); omega)])
    obtain rfl : p = false := by rw [← ep, ← Bool.not_eq_true, Bl.rightB_iff]; (try simp only [beq_eq_false_iff_ne, ne_eq] at k1); (try simp only [beq_eq_false_iff_ne, ne_eq] at k2); (try simp only [decide_eq_false_iff_not] at k5); (try simp only [decide_eq_false_iff_not] at k4); omega
    have HP := Lib.hid ep
    clear hg ep
    go_enter Tryd.func8, Tryd.ntmps8
    go_wp2_with fail
    refine (Bl.examples_any _ ht).mono ?_
    rintro e x1 ⟨rfl, hb⟩
    have belb : Below w.heap.size w x1 := hb
    have htb := Bl.Tab.over ht hb; clear ht
    clear hb
    have ht := htb; clear htb
    have bel := belb; clear belb
    go_wp2_with fail
    have bel' : Below w.heap.size w (x1.alloc (.cells #[.int .u32 r, .int .i64 0] 24)) := Bl.below_then ((bel)) (Bl.below_1 _ _) bel.size
    have k6 := Bl.Pair.newAt (x1) (.int .u32 r) (.int .i64 0) 24 (x1.heap.size) (by simp)
    have ht' : Bl.Tab (x1.alloc (.cells #[.int .u32 r, .int .i64 0] 24)) := Bl.Tab.over (ht) (Bl.below_1 _ _)
    clear bel ht
    have ht := ht'; clear ht'
    have bel := bel'; clear bel'
    generalize x1.alloc (.cells #[.int .u32 r, .int .i64 0] 24) = X2 at *
    generalize x1.heap.size = g2 at *
    refine (Bl.put_any r 0 s HS.out (by omega) (by omega) _).mono ?_
    rintro e x3 ⟨rfl, hb⟩
    have belb := Bl.below_then bel hb bel.size; clear bel
    have k6b := k6.over hb; clear k6
    have htb := Bl.Tab.over ht hb; clear ht
    clear hb
    have k6 := k6b; clear k6b
    have ht := htb; clear htb
    have bel := belb; clear belb
    go_wp2_with fail
    refine (Bl.get_any s false 0 0 ⟨#[]⟩ true HG.out (by rw [HZ.out]; decide) _).mono ?_
    rintro e x4 ⟨rfl, hb⟩
    have belb := Bl.below_then bel hb bel.size; clear bel
    have k6b := k6.over hb; clear k6
    have htb := Bl.Tab.over ht hb; clear ht
    clear hb
    have k6 := k6b; clear k6b
    have ht := htb; clear htb
    have bel := belb; clear belb
    have bel' : Below w.heap.size w ((x4.alloc (.cells #[.int .u32 0, .int .i64 0] 24)).alloc (.cells #[.string ⟨#[]⟩, .bool true] 26)) := Bl.below_then (bel) (Bl.below_2 _ _ _) bel.size
    have k6' := ((k6).alloc (.cells #[.int .u32 0, .int .i64 0] 24)).alloc (.cells #[.string ⟨#[]⟩, .bool true] 26)
    have k8 := (Bl.Pair.newAt (x4) (.int .u32 0) (.int .i64 0) 24 (x4.heap.size) (by simp)).alloc (.cells #[.string ⟨#[]⟩, .bool true] 26)
    have k9 := Bl.Pair.newAt (x4.alloc (.cells #[.int .u32 0, .int .i64 0] 24)) (.string ⟨#[]⟩) (.bool true) 26 (x4.heap.size + 1) (by simp)
    have ht' : Bl.Tab ((x4.alloc (.cells #[.int .u32 0, .int .i64 0] 24)).alloc (.cells #[.string ⟨#[]⟩, .bool true] 26)) := Bl.Tab.over (ht) (Bl.below_2 _ _ _)
    clear bel k6 ht
    have k6 := k6'; clear k6'
    have ht := ht'; clear ht'
    have bel := bel'; clear bel'
    have ⟨k6_0, k6_1, k6_2, k6_3, k6_4⟩ := k6
    go_wp2_with fail
    generalize (x4.alloc (.cells #[.int .u32 0, .int .i64 0] 24)).alloc (.cells #[.string ⟨#[]⟩, .bool true] 26) = X4 at *
    generalize x4.heap.size = g4 at *
    refine (Bl.right_any r 0 false HP.out _).mono ?_
    rintro e x5 ⟨rfl, hb⟩
    have belb := Bl.below_then bel hb bel.size; clear bel
    clear k6_0 k6_1 k6_2 k6_3 k6_4
    have k6b := k6.over hb; clear k6
    have k8b := k8.over hb; clear k8
    have k9b := k9.over hb; clear k9
    have htb := Bl.Tab.over ht hb; clear ht
    clear hb
    have k6 := k6b; clear k6b
    have k8 := k8b; clear k8b
    have k9 := k9b; clear k9b
    have ht := htb; clear htb
    have bel := belb; clear belb
    have ⟨k6_0, k6_1, k6_2, k6_3, k6_4⟩ := k6
    have ⟨k8_0, k8_1, k8_2, k8_3, k8_4⟩ := k8
    have ⟨k9_0, k9_1, k9_2, k9_3, k9_4⟩ := k9
    go_wp2
    go_ret
    exact ⟨rfl, bel⟩
  · have HG := Lib.hid (show Bl.getB s false = (0, 0, ⟨#[]⟩, true) by rw [hg, if_neg (fun h => by have := (Bl.rightB_iff _ _).1 h; (try simp only [beq_eq_false_iff_ne, ne_eq] at k1); (try simp only [beq_eq_false_iff_ne, ne_eq] at k2); (try simp only [decide_eq_false_iff_not] at k5); (try simp only [decide_eq_false_iff_not] at k4); omega)])
    obtain rfl : p = false := by rw [← ep, ← Bool.not_eq_true, Bl.rightB_iff]; (try simp only [beq_eq_false_iff_ne, ne_eq] at k1); (try simp only [beq_eq_false_iff_ne, ne_eq] at k2); (try simp only [decide_eq_false_iff_not] at k5); (try simp only [decide_eq_false_iff_not] at k4); omega
    have HP := Lib.hid ep
    clear hg ep
    go_enter Tryd.func8, Tryd.ntmps8
    go_wp2_with fail
    refine (Bl.examples_any _ ht).mono ?_
    rintro e x1 ⟨rfl, hb⟩
    have belb : Below w.heap.size w x1 := hb
    have htb := Bl.Tab.over ht hb; clear ht
    clear hb
    have ht := htb; clear htb
    have bel := belb; clear belb
    go_wp2_with fail
    have bel' : Below w.heap.size w (x1.alloc (.cells #[.int .u32 r, .int .i64 v] 24)) := Bl.below_then ((bel)) (Bl.below_1 _ _) bel.size
    have k6 := Bl.Pair.newAt (x1) (.int .u32 r) (.int .i64 v) 24 (x1.heap.size) (by simp)
    have ht' : Bl.Tab (x1.alloc (.cells #[.int .u32 r, .int .i64 v] 24)) := Bl.Tab.over (ht) (Bl.below_1 _ _)
    clear bel ht
    have ht := ht'; clear ht'
    have bel := bel'; clear bel'
    generalize x1.alloc (.cells #[.int .u32 r, .int .i64 v] 24) = X2 at *
    generalize x1.heap.size = g2 at *
    refine (Bl.put_any r v s HS.out (by omega) (by omega) _).mono ?_
    rintro e x3 ⟨rfl, hb⟩
    have belb := Bl.below_then bel hb bel.size; clear bel
    have k6b := k6.over hb; clear k6
    have htb := Bl.Tab.over ht hb; clear ht
    clear hb
    have k6 := k6b; clear k6b
    have ht := htb; clear htb
    have bel := belb; clear belb
    go_wp2_with fail
    refine (Bl.get_any s false 0 0 ⟨#[]⟩ true HG.out (by rw [HZ.out]; decide) _).mono ?_
    rintro e x4 ⟨rfl, hb⟩
    have belb := Bl.below_then bel hb bel.size; clear bel
    have k6b := k6.over hb; clear k6
    have htb := Bl.Tab.over ht hb; clear ht
    clear hb
    have k6 := k6b; clear k6b
    have ht := htb; clear htb
    have bel := belb; clear belb
    have bel' : Below w.heap.size w ((x4.alloc (.cells #[.int .u32 0, .int .i64 0] 24)).alloc (.cells #[.string ⟨#[]⟩, .bool true] 26)) := Bl.below_then (bel) (Bl.below_2 _ _ _) bel.size
    have k6' := ((k6).alloc (.cells #[.int .u32 0, .int .i64 0] 24)).alloc (.cells #[.string ⟨#[]⟩, .bool true] 26)
    have k8 := (Bl.Pair.newAt (x4) (.int .u32 0) (.int .i64 0) 24 (x4.heap.size) (by simp)).alloc (.cells #[.string ⟨#[]⟩, .bool true] 26)
    have k9 := Bl.Pair.newAt (x4.alloc (.cells #[.int .u32 0, .int .i64 0] 24)) (.string ⟨#[]⟩) (.bool true) 26 (x4.heap.size + 1) (by simp)
    have ht' : Bl.Tab ((x4.alloc (.cells #[.int .u32 0, .int .i64 0] 24)).alloc (.cells #[.string ⟨#[]⟩, .bool true] 26)) := Bl.Tab.over (ht) (Bl.below_2 _ _ _)
    clear bel k6 ht
    have k6 := k6'; clear k6'
    have ht := ht'; clear ht'
    have bel := bel'; clear bel'
    have ⟨k6_0, k6_1, k6_2, k6_3, k6_4⟩ := k6
    go_wp2_with fail
    generalize (x4.alloc (.cells #[.int .u32 0, .int .i64 0] 24)).alloc (.cells #[.string ⟨#[]⟩, .bool true] 26) = X4 at *
    generalize x4.heap.size = g4 at *
    refine (Bl.right_any r v false HP.out _).mono ?_
    rintro e x5 ⟨rfl, hb⟩
    have belb := Bl.below_then bel hb bel.size; clear bel
    clear k6_0 k6_1 k6_2 k6_3 k6_4
    have k6b := k6.over hb; clear k6
    have k8b := k8.over hb; clear k8
    have k9b := k9.over hb; clear k9
    have htb := Bl.Tab.over ht hb; clear ht
    clear hb
    have k6 := k6b; clear k6b
    have k8 := k8b; clear k8b
    have k9 := k9b; clear k9b
    have ht := htb; clear htb
    have bel := belb; clear belb
    have ⟨k6_0, k6_1, k6_2, k6_3, k6_4⟩ := k6
    have ⟨k8_0, k8_1, k8_2, k8_3, k8_4⟩ := k8
    have ⟨k9_0, k9_1, k9_2, k9_3, k9_4⟩ := k9
    go_wp2
    go_ret
    exact ⟨rfl, bel⟩
  · have HG := Lib.hid (show Bl.getB s false = (0, 0, ⟨#[]⟩, true) by rw [hg, if_neg (fun h => by have := (Bl.rightB_iff _ _).1 h; (try simp only [beq_eq_false_iff_ne, ne_eq] at k1); (try simp only [beq_eq_false_iff_ne, ne_eq] at k2); (try simp only [decide_eq_false_iff_not] at k5); (try simp only [decide_eq_false_iff_not] at k4); omega)])
    obtain rfl : p = false := by rw [← ep, ← Bool.not_eq_true, Bl.rightB_iff]; (try simp only [beq_eq_false_iff_ne, ne_eq] at k1); (try simp only [beq_eq_false_iff_ne, ne_eq] at k2); (try simp only [decide_eq_false_iff_not] at k5); (try simp only [decide_eq_false_iff_not] at k4); omega
    have HP := Lib.hid ep
    clear hg ep
    go_enter Tryd.func8, Tryd.ntmps8
    go_wp2_with fail
    refine (Bl.examples_any _ ht).mono ?_
    rintro e x1 ⟨rfl, hb⟩
    have belb : Below w.heap.size w x1 := hb
    have htb := Bl.Tab.over ht hb; clear ht
    clear hb
    have ht := htb; clear htb
    have bel := belb; clear belb
    go_wp2_with fail
    have bel' : Below w.heap.size w (x1.alloc (.cells #[.int .u32 r, .int .i64 l] 24)) := Bl.below_then ((bel)) (Bl.below_1 _ _) bel.size
    have k6 := Bl.Pair.newAt (x1) (.int .u32 r) (.int .i64 l) 24 (x1.heap.size) (by simp)
    have ht' : Bl.Tab (x1.alloc (.cells #[.int .u32 r, .int .i64 l] 24)) := Bl.Tab.over (ht) (Bl.below_1 _ _)
    clear bel ht
    have ht := ht'; clear ht'
    have bel := bel'; clear bel'
    generalize x1.alloc (.cells #[.int .u32 r, .int .i64 l] 24) = X2 at *
    generalize x1.heap.size = g2 at *
    refine (Bl.put_any r l s HS.out (by omega) (by omega) _).mono ?_
    rintro e x3 ⟨rfl, hb⟩
    have belb := Bl.below_then bel hb bel.size; clear bel
    have k6b := k6.over hb; clear k6
    have htb := Bl.Tab.over ht hb; clear ht
    clear hb
    have k6 := k6b; clear k6b
    have ht := htb; clear htb
    have bel := belb; clear belb
    go_wp2_with fail
    refine (Bl.get_any s false 0 0 ⟨#[]⟩ true HG.out (by rw [HZ.out]; decide) _).mono ?_
    rintro e x4 ⟨rfl, hb⟩
    have belb := Bl.below_then bel hb bel.size; clear bel
    have k6b := k6.over hb; clear k6
    have htb := Bl.Tab.over ht hb; clear ht
    clear hb
    have k6 := k6b; clear k6b
    have ht := htb; clear htb
    have bel := belb; clear belb
    have bel' : Below w.heap.size w ((x4.alloc (.cells #[.int .u32 0, .int .i64 0] 24)).alloc (.cells #[.string ⟨#[]⟩, .bool true] 26)) := Bl.below_then (bel) (Bl.below_2 _ _ _) bel.size
    have k6' := ((k6).alloc (.cells #[.int .u32 0, .int .i64 0] 24)).alloc (.cells #[.string ⟨#[]⟩, .bool true] 26)
    have k8 := (Bl.Pair.newAt (x4) (.int .u32 0) (.int .i64 0) 24 (x4.heap.size) (by simp)).alloc (.cells #[.string ⟨#[]⟩, .bool true] 26)
    have k9 := Bl.Pair.newAt (x4.alloc (.cells #[.int .u32 0, .int .i64 0] 24)) (.string ⟨#[]⟩) (.bool true) 26 (x4.heap.size + 1) (by simp)
    have ht' : Bl.Tab ((x4.alloc (.cells #[.int .u32 0, .int .i64 0] 24)).alloc (.cells #[.string ⟨#[]⟩, .bool true] 26)) := Bl.Tab.over (ht) (Bl.below_2 _ _ _)
    clear bel k6 ht
    have k6 := k6'; clear k6'
    have ht := ht'; clear ht'
    have bel := bel'; clear bel'
    have ⟨k6_0, k6_1, k6_2, k6_3, k6_4⟩ := k6
    go_wp2_with fail
    generalize (x4.alloc (.cells #[.int .u32 0, .int .i64 0] 24)).alloc (.cells #[.string ⟨#[]⟩, .bool true] 26) = X4 at *
    generalize x4.heap.size = g4 at *
    refine (Bl.right_any r l false HP.out _).mono ?_
    rintro e x5 ⟨rfl, hb⟩
    have belb := Bl.below_then bel hb bel.size; clear bel
    clear k6_0 k6_1 k6_2 k6_3 k6_4
    have k6b := k6.over hb; clear k6
    have k8b := k8.over hb; clear k8
    have k9b := k9.over hb; clear k9
    have htb := Bl.Tab.over ht hb; clear ht
    clear hb
    have k6 := k6b; clear k6b
    have k8 := k8b; clear k8b
    have k9 := k9b; clear k9b
    have ht := htb; clear htb
    have bel := belb; clear belb
    have ⟨k6_0, k6_1, k6_2, k6_3, k6_4⟩ := k6
    have ⟨k8_0, k8_1, k8_2, k8_3, k8_4⟩ := k8
    have ⟨k9_0, k9_1, k9_2, k9_3, k9_4⟩ := k9
    go_wp2
    go_ret
    exact ⟨rfl, bel⟩

theorem laid_met (os : Os) : laidMet Tryd.prog Rows.ballotBoundsRow.laid ((World.doorLaid Tryd.prog 24 os).forCall (fun _ _ => 0) ⟨#[], #[.int .u8 0, .int .i8 0], []⟩).memory :=
  laidMet_of_run' 8 (by kernel_rfl) (by kernel_rfl)
theorem reads (os : Os) {H : Type} (enc : TypeId × Value → H) : ∃ places, DataW.whole enc Tryd.prog ((World.doorLaid Tryd.prog 24 os).forCall (fun _ _ => 0) ⟨#[], #[.int .u8 0, .int .i8 0], []⟩).memory Tryd.f8.params.toList Rows.ballotBoundsSpec.vars false (#[.int .u8 0, .int .i8 0] : Array Value).toList 8 = some ([.lit (.int .u8 0), .lit (.int .i8 0)], [], places) :=
  ⟨[], by kernel_rfl⟩

set_option maxRecDepth 100000 in
theorem lifted (os : Os) (started : os.Started) (H : Type) (enc : TypeId × Value → H) (F : Stop.Interp) :
    ReturnsInHanded {} Tryd.checked os 8 .any ((OpenSpec.ofChange Rows.ballotBoundsSpec).preRow enc Tryd.prog Tryd.f8 Rows.ballotBoundsRow.domain false Rows.ballotBoundsRow.laid) (((OpenSpec.ofChange Rows.ballotBoundsSpec).at F).post enc Tryd.prog Tryd.f8 false true false false) := by
  obtain ⟨places, hx⟩ := reads os enc
  refine returnsInHanded_of_row (C := Tryd.checked) (s := OpenSpec.ofChange Rows.ballotBoundsSpec) own started (by kernel_rfl) Tryd.func8
    (witness_row_at (enc := enc) (C := Tryd.checked) false (World.doorLaid Tryd.prog 24 os) #[.int .u8 0, .int .i8 0] rfl (by kernel_rfl) (by kernel_rfl) (by kernel_rfl)
      (OpenSpec.preRow_of_cond 8 hx (by kernel_rfl) (fun k hk => by cases hk) (by kernel_rfl) (laid_met os))) ?_
  intro W base args ds gs before hval0 hW _ _ hsz0 hL _ _
  have hval : ∀ (j : Nat) t v, Tryd.f8.params[j]? = some t → args[j]? = some v → Value.okWide Tryd.prog W .any base t v := hval0
  have hsz : (DataW.weightsEach Tryd.prog (Tryd.f8.params.toList ++ Rows.ballotBoundsSpec.plain.varTypes Tryd.prog) (ds ++ gs)).all (· ≤ reachBytes) = true := hsz0
  have hW' := hW
  obtain ⟨p, q, hA0, hV, rfl, hfz, hnd⟩ := hW
  have hA : DataW.TrodAll enc Tryd.prog W 0 (fun _ => true) true Tryd.f8.params.toList args.toList ds p := hA0
  rw [Tryd.params8] at hA hval hsz
  obtain ⟨v0, vs0, d0, ds0, p0, q0, hargs, rfl, rfl, h0, r0⟩ := trodAll_cons hA
  obtain ⟨v1, vs1, d1, ds1, p1, q1, rfl, rfl, rfl, h1, r1⟩ := trodAll_cons r0
  obtain ⟨rfl, rfl, rfl⟩ := trodAll_nil r1
  obtain rfl : args = #[v0, v1] := by cases args; simp_all
  obtain ⟨rfl, rfl⟩ := trodVars_none hV
  obtain ⟨a0, rfl, rfl, rfl, w0⟩ := open_int Tryd.underlying5 (hval 0 5 v0 rfl rfl) h0
  obtain ⟨a1, rfl, rfl, rfl, w1⟩ := open_int Tryd.underlying51 (hval 1 51 v1 rfl rfl) h1
  clear hA0 hval0
  refine (walk a0 a1 W w0 w1 (Bl.tab_of hL)).mono fun e W' ⟨he, bel⟩ => ?_
  subst he
  exact ⟨_, rfl, _, _, _, [], _, [], hW', trodAll_mk1 (shut_bool Tryd.underlying4 _), (trodAll_cons_mk (shut_int Tryd.underlying5 w0) (trodAll_cons_mk (shut_int Tryd.underlying51 w1) trodAll_mk0)), rfl, bel.frame _, fun h => by cases h⟩

theorem over : Rows.ballotBoundsRow.holds Tryd.pinned (OpenSpec.ofChange Rows.ballotBoundsSpec) :=
  OpenClaim.holds_of_cond 8 Tryd.f8 rfl rfl rfl rfl rfl rfl rfl ⟨rfl, rfl, rfl, rfl, rfl⟩ rfl rfl rfl rfl rfl (by kernel_rfl) Tryd.func8 (by kernel_rfl)
    (of_decide_eq_true (by kernel_rfl)) (by unfold Func.isWrapper; first | (rw [if_pos (by decide +kernel)]; kernel_rfl) | (rw [if_neg (by decide +kernel)]; exact ⟨rfl, rfl⟩))
    (fun os started H enc _ F => by rw [OpenClaim.pre_eq_preRow]; exact lifted os started H enc F)

/-- No parameter wants a stand-in. -/
theorem plain (f : FuncId) (fn : Func) (hf : Tryd.pinned.checked.prog.funcNamed "comitia/comitialaw06.BallotBounds" = some f) (hfn : Tryd.pinned.checked.prog.funcs[f]? = some fn) :
    false = Tryd.pinned.checked.prog.looks [] ∧ ∀ (j : Nat) t, fn.params[j]? = some t → Tryd.pinned.checked.prog.wantsStandIn t = false := by
  obtain rfl : f = 8 := Option.some.inj ((show Tryd.prog.funcNamed "comitia/comitialaw06.BallotBounds" = some 8 by kernel_rfl).symm.trans hf) |>.symm
  obtain rfl : fn = Tryd.f8 := (Option.some.inj (Tryd.func8.symm.trans hfn)).symm
  refine ⟨by kernel_rfl, fun j t ht => ?_⟩
  rw [Tryd.params8] at ht
  have hm : t ∈ [5, 51] := by simpa using Array.mem_of_getElem? ht
  have hall : ([5, 51].all fun u => !Tryd.prog.wantsStandIn u) = true := by kernel_rfl
  exact (show Tryd.prog.wantsStandIn t = false by simpa using List.all_eq_true.1 hall t hm)

theorem proved : Rows.BallotBoundsCardSaid :=
  Claim7.holds_tied_plain_at .later [] _ _ _ _ over (fun _ h => by cases h) (by kernel_rfl) (fun _ h => by cases h) ballotBounds_row_tie rfl ⟨rfl, rfl⟩ (by kernel_rfl) rfl plain (by kernel_rfl)
end Go.Proofs.YthmadcmoendndaaDoor.ballotBounds
