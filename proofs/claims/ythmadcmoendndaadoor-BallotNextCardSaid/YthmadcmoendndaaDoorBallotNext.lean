/-
  Proved: for every two numbers of 32 bits and every three numbers of 8 bits the law BallotNext returns true and leaves its inputs as they were; the card ties the three tables of the library that the row lists to the text of the program. No condition beyond the form itself (each text at most 2^47 - 4096 bytes; the listed tables start as that text lays them).
-/
import Derived.Test.YthmadcmoendndaaDoorBalK
import Derived.Deep.RegionHeld3
import Derived.Test.YthmadcmoendndaaDoorCards
import Derived.Test.YthmadcmoendndaaDoorTie
import Derived.Deep.DeepHandedRow
import Derived.LaidMore
import Derived.SevenTiedAt
import Derived.WalkKit
import Derived.ProofKit
import Derived.OpenShut
import Derived.ShutString
import Derived.SizedLaws
import Derived.ChangeOld
import Derived.Below
import Derived.Carry
import Derived.Lib.SmallJoins
import Derived.Deep.SlicePairs
import Derived.SliceStrings
namespace Go.Proofs.YthmadcmoendndaaDoor.ballotNext
open Go.ChangeShapes Go.WideShapes Go.ChangeAt Go.RowKit Go.Joins Go.Deep
open Go.ChangeMaps (open_string shut_string)
set_option linter.unusedVariables false

theorem own : ownKnob Tryd.prog.godebug = none := by kernel_rfl
theorem laidOut : laidOutB Tryd.prog = true := by kernel_rfl

set_option maxRecDepth 100000 in
set_option maxHeartbeats 4000000 in
theorem walk (a0 : Int) (a1 : Int) (a2 : Int) (a3 : Int) (a4 : Int) (w : World) (w0 : (Lit.int .u32 a0).wf = true) (w1 : (Lit.int .u32 a1).wf = true) (w2 : (Lit.int .u8 a2).wf = true) (w3 : (Lit.int .u8 a3).wf = true) (w4 : (Lit.int .u8 a4).wf = true) (ht : Bl.Tab w) :
    Calls Tryd.prog 4 #[.int .u32 a0, .int .u32 a1, .int .u8 a2, .int .u8 a3, .int .u8 a4] w fun e w' => e = .returned (.bool true) ∧ Below w.heap.size w w' := by
  have q0 : 0 ≤ a0 ∧ a0 ≤ 4294967295 := by simpa [Lit.wf, IntKind.min, IntKind.max, IntKind.signed, IntKind.bits] using w0
  have q1 : 0 ≤ a1 ∧ a1 ≤ 4294967295 := by simpa [Lit.wf, IntKind.min, IntKind.max, IntKind.signed, IntKind.bits] using w1
  have q2 : 0 ≤ a2 ∧ a2 ≤ 255 := by simpa [Lit.wf, IntKind.min, IntKind.max, IntKind.signed, IntKind.bits] using w2
  have q3 : 0 ≤ a3 ∧ a3 ≤ 255 := by simpa [Lit.wf, IntKind.min, IntKind.max, IntKind.signed, IntKind.bits] using w3
  have q4 : 0 ≤ a4 ∧ a4 ≤ 255 := by simpa [Lit.wf, IntKind.min, IntKind.max, IntKind.signed, IntKind.bits] using w4
  obtain ⟨q00, q01⟩ := q0
  obtain ⟨q10, q11⟩ := q1
  obtain ⟨q20, q21⟩ := q2
  obtain ⟨q30, q31⟩ := q3
  obtain ⟨q40, q41⟩ := q4
  clear w0 w1 w2 w3 w4
  have htw := ht
  obtain ⟨rx, erx⟩ : ∃ r, max a0 1 = r := ⟨_, rfl⟩
  obtain ⟨ry, ery⟩ : ∃ r, max a1 1 = r := ⟨_, rfl⟩
  have x0 : 1 ≤ rx := by omega
  have x1 : rx ≤ 4294967295 := by omega
  have y0 : 1 ≤ ry := by omega
  have y1 : ry ≤ 4294967295 := by omega
  obtain ⟨vx, evx⟩ : ∃ v, 1 + a2 % 7 = v := ⟨_, rfl⟩
  obtain ⟨vy, evy⟩ : ∃ v, 1 + a2 / 7 % 7 = v := ⟨_, rfl⟩
  obtain ⟨ka, eka⟩ : ∃ v, 1 + a3 % 7 = v := ⟨_, rfl⟩
  obtain ⟨kb, ekb⟩ : ∃ v, 1 + a4 % 7 = v := ⟨_, rfl⟩
  have vx1 : 1 ≤ vx := by omega
  have vx7 : vx ≤ 7 := by omega
  have vy1 : 1 ≤ vy := by omega
  have vy7 : vy ≤ 7 := by omega
  have ka1 : 1 ≤ ka := by omega
  have ka7 : ka ≤ 7 := by omega
  have kb1 : 1 ≤ kb := by omega
  have kb7 : kb ≤ 7 := by omega
  have nyes : ∀ r k : Int, 1 ≤ k → k ≤ 7 → r < 4294967295 → Bl.nextB r k = (r + 1, k, true) := by
    intro r k h1 h2 h3
    unfold Bl.nextB
    rw [if_pos ⟨Bl.repB_yes ⟨h1, h2⟩, by omega⟩]
  have nno : ∀ k : Int, Bl.nextB 4294967295 k = (0, 0, false) := by
    intro k
    unfold Bl.nextB
    rw [if_neg (fun c => c.2 rfl)]
  have NYES := Lib.hid nyes
  have NNO := Lib.hid nno
  clear nyes nno
  by_cases hx : rx = 4294967295
  · subst hx
    obtain ⟨qx, qk, qb, NY, hqb⟩ : ∃ x y b, Hid (Bl.nextB ry kb = (x, y, b)) ∧ decide (ry < 4294967295) = b := by
      by_cases h : ry < 4294967295
      · exact ⟨_, _, _, Lib.hid (NYES.out ry kb kb1 kb7 h), decide_eq_true h⟩
      · obtain rfl : ry = 4294967295 := by omega
        exact ⟨_, _, _, Lib.hid (NNO.out kb), rfl⟩
    go_enter Tryd.func4, Tryd.ntmps4
    go_wp2_with fail
    refine (Bl.examples_any _ ht).mono ?_
    rintro e x1 ⟨rfl, hb⟩
    have belb : Below w.heap.size w x1 := hb
    have htb := Bl.Tab.over ht hb; clear ht
    clear hb
    have ht := htb; clear htb
    have bel := belb; clear belb
    go_wp2_with fail
    have bel' : Below w.heap.size w ((x1.alloc (.cells #[.int .u32 4294967295, .int .i64 vx] 24)).alloc (.cells #[.int .u32 ry, .int .i64 vy] 24)) := Bl.below_then ((bel)) (Bl.below_2 _ _ _) bel.size
    have k12 := (Bl.Pair.newAt (x1) (.int .u32 4294967295) (.int .i64 vx) 24 (x1.heap.size) (by simp)).alloc (.cells #[.int .u32 ry, .int .i64 vy] 24)
    have k13 := Bl.Pair.newAt (x1.alloc (.cells #[.int .u32 4294967295, .int .i64 vx] 24)) (.int .u32 ry) (.int .i64 vy) 24 (x1.heap.size + 1) (by simp)
    have ht' : Bl.Tab ((x1.alloc (.cells #[.int .u32 4294967295, .int .i64 vx] 24)).alloc (.cells #[.int .u32 ry, .int .i64 vy] 24)) := Bl.Tab.over (ht) (Bl.below_2 _ _ _)
    clear bel ht
    have ht := ht'; clear ht'
    have bel := bel'; clear bel'
    generalize (x1.alloc (.cells #[.int .u32 4294967295, .int .i64 vx] 24)).alloc (.cells #[.int .u32 ry, .int .i64 vy] 24) = X2 at *
    generalize x1.heap.size = g2 at *
    refine (Bl.next_any 4294967295 vx ka 0 0 false (NNO.out ka) (by omega) (by omega) _).mono ?_
    rintro e x3 ⟨rfl, hb⟩
    have belb := Bl.below_then bel hb bel.size; clear bel
    have k12b := k12.over hb; clear k12
    have k13b := k13.over hb; clear k13
    have htb := Bl.Tab.over ht hb; clear ht
    clear hb
    have k12 := k12b; clear k12b
    have k13 := k13b; clear k13b
    have ht := htb; clear htb
    have bel := belb; clear belb
    have bel' : Below w.heap.size w (x3.alloc (.cells #[.int .u32 0, .int .i64 0] 24)) := Bl.below_then (bel) (Bl.below_1 _ _) bel.size
    have k12' := (k12).alloc (.cells #[.int .u32 0, .int .i64 0] 24)
    have k13' := (k13).alloc (.cells #[.int .u32 0, .int .i64 0] 24)
    have k14 := Bl.Pair.newAt (x3) (.int .u32 0) (.int .i64 0) 24 (x3.heap.size) (by simp)
    have ht' : Bl.Tab (x3.alloc (.cells #[.int .u32 0, .int .i64 0] 24)) := Bl.Tab.over (ht) (Bl.below_1 _ _)
    clear bel k12 k13 ht
    have k12 := k12'; clear k12'
    have k13 := k13'; clear k13'
    have ht := ht'; clear ht'
    have bel := bel'; clear bel'
    have ⟨k13_0, k13_1, k13_2, k13_3, k13_4⟩ := k13
    go_wp2_with fail
    generalize x3.alloc (.cells #[.int .u32 0, .int .i64 0] 24) = X3 at *
    generalize x3.heap.size = g3 at *
    refine (Bl.next_any ry vy kb qx qk qb NY.out (by omega) (by omega) _).mono ?_
    rintro e x4 ⟨rfl, hb⟩
    have belb := Bl.below_then bel hb bel.size; clear bel
    clear k13_0 k13_1 k13_2 k13_3 k13_4
    have k12b := k12.over hb; clear k12
    have k13b := k13.over hb; clear k13
    have k14b := k14.over hb; clear k14
    have htb := Bl.Tab.over ht hb; clear ht
    clear hb
    have k12 := k12b; clear k12b
    have k13 := k13b; clear k13b
    have k14 := k14b; clear k14b
    have ht := htb; clear htb
    have bel := belb; clear belb
    have bel' : Below w.heap.size w (x4.alloc (.cells #[.int .u32 qx, .int .i64 qk] 24)) := Bl.below_then (bel) (Bl.below_1 _ _) bel.size
    have k12' := (k12).alloc (.cells #[.int .u32 qx, .int .i64 qk] 24)
    have k13' := (k13).alloc (.cells #[.int .u32 qx, .int .i64 qk] 24)
    have k14' := (k14).alloc (.cells #[.int .u32 qx, .int .i64 qk] 24)
    have k16 := Bl.Pair.newAt (x4) (.int .u32 qx) (.int .i64 qk) 24 (x4.heap.size) (by simp)
    have ht' : Bl.Tab (x4.alloc (.cells #[.int .u32 qx, .int .i64 qk] 24)) := Bl.Tab.over (ht) (Bl.below_1 _ _)
    clear bel k12 k13 k14 ht
    have k12 := k12'; clear k12'
    have k13 := k13'; clear k13'
    have k14 := k14'; clear k14'
    have ht := ht'; clear ht'
    have bel := bel'; clear bel'
    have ⟨k12_0, k12_1, k12_2, k12_3, k12_4⟩ := k12
    have ⟨k13_0, k13_1, k13_2, k13_3, k13_4⟩ := k13
    go_wp2
    generalize x4.alloc (.cells #[.int .u32 qx, .int .i64 qk] 24) = X4 at *
    generalize x4.heap.size = g4 at *
    go_ret
    exact ⟨rfl, bel⟩
  · have hx1 : rx < 4294967295 := by omega
    have hx2 : decide (rx < 4294967295) = true := decide_eq_true hx1
    have NX := Lib.hid (NYES.out rx ka ka1 ka7 hx1)
    clear hx
    by_cases hy : ry < 4294967295
    rotate_left
    · obtain hy : ry = 4294967295 := by omega
      subst hy
      go_enter Tryd.func4, Tryd.ntmps4
      go_wp2_with fail
      refine (Bl.examples_any _ ht).mono ?_
      rintro e x1 ⟨rfl, hb⟩
      have belb : Below w.heap.size w x1 := hb
      have htb := Bl.Tab.over ht hb; clear ht
      clear hb
      have ht := htb; clear htb
      have bel := belb; clear belb
      go_wp2_with fail
      have bel' : Below w.heap.size w ((x1.alloc (.cells #[.int .u32 rx, .int .i64 vx] 24)).alloc (.cells #[.int .u32 4294967295, .int .i64 vy] 24)) := Bl.below_then ((bel)) (Bl.below_2 _ _ _) bel.size
      have k12 := (Bl.Pair.newAt (x1) (.int .u32 rx) (.int .i64 vx) 24 (x1.heap.size) (by simp)).alloc (.cells #[.int .u32 4294967295, .int .i64 vy] 24)
      have k13 := Bl.Pair.newAt (x1.alloc (.cells #[.int .u32 rx, .int .i64 vx] 24)) (.int .u32 4294967295) (.int .i64 vy) 24 (x1.heap.size + 1) (by simp)
      have ht' : Bl.Tab ((x1.alloc (.cells #[.int .u32 rx, .int .i64 vx] 24)).alloc (.cells #[.int .u32 4294967295, .int .i64 vy] 24)) := Bl.Tab.over (ht) (Bl.below_2 _ _ _)
      clear bel ht
      have ht := ht'; clear ht'
      have bel := bel'; clear bel'
      generalize (x1.alloc (.cells #[.int .u32 rx, .int .i64 vx] 24)).alloc (.cells #[.int .u32 4294967295, .int .i64 vy] 24) = X2 at *
      generalize x1.heap.size = g2 at *
      refine (Bl.next_any rx vx ka (rx + 1) ka true NX.out (by omega) (by omega) _).mono ?_
      rintro e x3 ⟨rfl, hb⟩
      have belb := Bl.below_then bel hb bel.size; clear bel
      have k12b := k12.over hb; clear k12
      have k13b := k13.over hb; clear k13
      have htb := Bl.Tab.over ht hb; clear ht
      clear hb
      have k12 := k12b; clear k12b
      have k13 := k13b; clear k13b
      have ht := htb; clear htb
      have bel := belb; clear belb
      have bel' : Below w.heap.size w (x3.alloc (.cells #[.int .u32 (rx + 1), .int .i64 ka] 24)) := Bl.below_then (bel) (Bl.below_1 _ _) bel.size
      have k12' := (k12).alloc (.cells #[.int .u32 (rx + 1), .int .i64 ka] 24)
      have k13' := (k13).alloc (.cells #[.int .u32 (rx + 1), .int .i64 ka] 24)
      have k14 := Bl.Pair.newAt (x3) (.int .u32 (rx + 1)) (.int .i64 ka) 24 (x3.heap.size) (by simp)
      have ht' : Bl.Tab (x3.alloc (.cells #[.int .u32 (rx + 1), .int .i64 ka] 24)) := Bl.Tab.over (ht) (Bl.below_1 _ _)
      clear bel k12 k13 ht
      have k12 := k12'; clear k12'
      have k13 := k13'; clear k13'
      have ht := ht'; clear ht'
      have bel := bel'; clear bel'
      have ⟨k13_0, k13_1, k13_2, k13_3, k13_4⟩ := k13
      go_wp2_with fail
      generalize x3.alloc (.cells #[.int .u32 (rx + 1), .int .i64 ka] 24) = X3 at *
      generalize x3.heap.size = g3 at *
      refine (Bl.next_any 4294967295 vy kb 0 0 false (NNO.out kb) (by omega) (by omega) _).mono ?_
      rintro e x4 ⟨rfl, hb⟩
      have belb := Bl.below_then bel hb bel.size; clear bel
      clear k13_0 k13_1 k13_2 k13_3 k13_4
      have k12b := k12.over hb; clear k12
      have k13b := k13.over hb; clear k13
      have k14b := k14.over hb; clear k14
      have htb := Bl.Tab.over ht hb; clear ht
      clear hb
      have k12 := k12b; clear k12b
      have k13 := k13b; clear k13b
      have k14 := k14b; clear k14b
      have ht := htb; clear htb
      have bel := belb; clear belb
      have bel' : Below w.heap.size w (x4.alloc (.cells #[.int .u32 0, .int .i64 0] 24)) := Bl.below_then (bel) (Bl.below_1 _ _) bel.size
      have k12' := (k12).alloc (.cells #[.int .u32 0, .int .i64 0] 24)
      have k13' := (k13).alloc (.cells #[.int .u32 0, .int .i64 0] 24)
      have k14' := (k14).alloc (.cells #[.int .u32 0, .int .i64 0] 24)
      have k16 := Bl.Pair.newAt (x4) (.int .u32 0) (.int .i64 0) 24 (x4.heap.size) (by simp)
      have ht' : Bl.Tab (x4.alloc (.cells #[.int .u32 0, .int .i64 0] 24)) := Bl.Tab.over (ht) (Bl.below_1 _ _)
      clear bel k12 k13 k14 ht
      have k12 := k12'; clear k12'
      have k13 := k13'; clear k13'
      have k14 := k14'; clear k14'
      have ht := ht'; clear ht'
      have bel := bel'; clear bel'
      have ⟨k12_0, k12_1, k12_2, k12_3, k12_4⟩ := k12
      have ⟨k13_0, k13_1, k13_2, k13_3, k13_4⟩ := k13
      go_wp2
      generalize x4.alloc (.cells #[.int .u32 0, .int .i64 0] 24) = X4 at *
      generalize x4.heap.size = g4 at *
      go_ret
      exact ⟨rfl, bel⟩
    · have NY := Lib.hid (NYES.out ry kb kb1 kb7 hy)
      have hy2 : decide (ry < 4294967295) = true := decide_eq_true hy
      go_enter Tryd.func4, Tryd.ntmps4
      go_wp2_with fail
      refine (Bl.examples_any _ ht).mono ?_
      rintro e x1 ⟨rfl, hb⟩
      have belb : Below w.heap.size w x1 := hb
      have htb := Bl.Tab.over ht hb; clear ht
      clear hb
      have ht := htb; clear htb
      have bel := belb; clear belb
      go_wp2_with fail
      have bel' : Below w.heap.size w ((x1.alloc (.cells #[.int .u32 rx, .int .i64 vx] 24)).alloc (.cells #[.int .u32 ry, .int .i64 vy] 24)) := Bl.below_then ((bel)) (Bl.below_2 _ _ _) bel.size
      have k12 := (Bl.Pair.newAt (x1) (.int .u32 rx) (.int .i64 vx) 24 (x1.heap.size) (by simp)).alloc (.cells #[.int .u32 ry, .int .i64 vy] 24)
      have k13 := Bl.Pair.newAt (x1.alloc (.cells #[.int .u32 rx, .int .i64 vx] 24)) (.int .u32 ry) (.int .i64 vy) 24 (x1.heap.size + 1) (by simp)
      have ht' : Bl.Tab ((x1.alloc (.cells #[.int .u32 rx, .int .i64 vx] 24)).alloc (.cells #[.int .u32 ry, .int .i64 vy] 24)) := Bl.Tab.over (ht) (Bl.below_2 _ _ _)
      clear bel ht
      have ht := ht'; clear ht'
      have bel := bel'; clear bel'
      generalize (x1.alloc (.cells #[.int .u32 rx, .int .i64 vx] 24)).alloc (.cells #[.int .u32 ry, .int .i64 vy] 24) = X2 at *
      generalize x1.heap.size = g2 at *
      refine (Bl.next_any rx vx ka (rx + 1) ka true NX.out (by omega) (by omega) _).mono ?_
      rintro e x3 ⟨rfl, hb⟩
      have belb := Bl.below_then bel hb bel.size; clear bel
      have k12b := k12.over hb; clear k12
      have k13b := k13.over hb; clear k13
      have htb := Bl.Tab.over ht hb; clear ht
      clear hb
      have k12 := k12b; clear k12b
      have k13 := k13b; clear k13b
      have ht := htb; clear htb
      have bel := belb; clear belb
      have bel' : Below w.heap.size w (x3.alloc (.cells #[.int .u32 (rx + 1), .int .i64 ka] 24)) := Bl.below_then (bel) (Bl.below_1 _ _) bel.size
      have k12' := (k12).alloc (.cells #[.int .u32 (rx + 1), .int .i64 ka] 24)
      have k13' := (k13).alloc (.cells #[.int .u32 (rx + 1), .int .i64 ka] 24)
      have k14 := Bl.Pair.newAt (x3) (.int .u32 (rx + 1)) (.int .i64 ka) 24 (x3.heap.size) (by simp)
      have ht' : Bl.Tab (x3.alloc (.cells #[.int .u32 (rx + 1), .int .i64 ka] 24)) := Bl.Tab.over (ht) (Bl.below_1 _ _)
      clear bel k12 k13 ht
      have k12 := k12'; clear k12'
      have k13 := k13'; clear k13'
      have ht := ht'; clear ht'
      have bel := bel'; clear bel'
      have ⟨k13_0, k13_1, k13_2, k13_3, k13_4⟩ := k13
      go_wp2_with fail
      generalize x3.alloc (.cells #[.int .u32 (rx + 1), .int .i64 ka] 24) = X3 at *
      generalize x3.heap.size = g3 at *
      refine (Bl.next_any ry vy kb (ry + 1) kb true NY.out (by omega) (by omega) _).mono ?_
      rintro e x4 ⟨rfl, hb⟩
      have belb := Bl.below_then bel hb bel.size; clear bel
      clear k13_0 k13_1 k13_2 k13_3 k13_4
      have k12b := k12.over hb; clear k12
      have k13b := k13.over hb; clear k13
      have k14b := k14.over hb; clear k14
      have htb := Bl.Tab.over ht hb; clear ht
      clear hb
      have k12 := k12b; clear k12b
      have k13 := k13b; clear k13b
      have k14 := k14b; clear k14b
      have ht := htb; clear htb
      have bel := belb; clear belb
      have bel' : Below w.heap.size w (x4.alloc (.cells #[.int .u32 (ry + 1), .int .i64 kb] 24)) := Bl.below_then (bel) (Bl.below_1 _ _) bel.size
      have k12' := (k12).alloc (.cells #[.int .u32 (ry + 1), .int .i64 kb] 24)
      have k13' := (k13).alloc (.cells #[.int .u32 (ry + 1), .int .i64 kb] 24)
      have k14' := (k14).alloc (.cells #[.int .u32 (ry + 1), .int .i64 kb] 24)
      have k16 := Bl.Pair.newAt (x4) (.int .u32 (ry + 1)) (.int .i64 kb) 24 (x4.heap.size) (by simp)
      have ht' : Bl.Tab (x4.alloc (.cells #[.int .u32 (ry + 1), .int .i64 kb] 24)) := Bl.Tab.over (ht) (Bl.below_1 _ _)
      clear bel k12 k13 k14 ht
      have k12 := k12'; clear k12'
      have k13 := k13'; clear k13'
      have k14 := k14'; clear k14'
      have ht := ht'; clear ht'
      have bel := bel'; clear bel'
      have ⟨k12_0, k12_1, k12_2, k12_3, k12_4⟩ := k12
      have ⟨k13_0, k13_1, k13_2, k13_3, k13_4⟩ := k13
      go_wp2
      generalize x4.alloc (.cells #[.int .u32 (ry + 1), .int .i64 kb] 24) = X4 at *
      generalize x4.heap.size = g4 at *
      clear k12_0 k12_1 k12_2 k12_3 k12_4 k13_0 k13_1 k13_2 k13_3 k13_4
      have hd : Bl.Rows4 w w.heap.size [(g2, .int .u32 rx, .int .i64 vx), (g2 + 1, .int .u32 ry, .int .i64 vy), (g3, .int .u32 (rx + 1), .int .i64 ka), (g4, .int .u32 (ry + 1), .int .i64 kb)] X4.drew := ⟨bel.drew, bel.size, by simp only [List.forall_mem_cons, List.not_mem_nil, false_imp_iff, implies_true, and_true]; exact ⟨k12.drew, k13.drew, k14.drew, k16.drew⟩⟩
      clear k12 k13 k14 k16 bel ht htw
      obtain ⟨k, k2, OK, OK2, hk⟩ : ∃ k k2, Hid (Bl.orderB rx vx ry vy = k) ∧ Hid (Bl.orderB ry vy rx vx = k2) ∧ (k == IntKind.i64.wrap (-k2)) = true := ⟨_, _, Lib.hid rfl, Lib.hid rfl, by have h := Bl.order_lo rx vx ry vy; rw [beq_iff_eq, Bl.order_neg rx vx ry vy, Int.neg_neg, Go.IntWalk.i64_in _ (by omega)]⟩
      have OP := Lib.hid (show Bl.orderB (rx + 1) ka rx vx = 1 by have := (Bl.order_pos_iff (rx + 1) ka rx vx).2 (by omega); have := Bl.order_lo (rx + 1) ka rx vx; omega)
      have RP := Lib.hid (show Bl.rightB (rx + 1) ka = true by rw [Bl.rightB_iff]; omega)
      by_cases he : a3 % 7 = a4 % 7
      · obtain ⟨m3, e3⟩ : ∃ m, a3.tmod 7 = m := ⟨_, rfl⟩
        have e4 : a4.tmod 7 = m3 := by rw [← e3, Int.tmod_eq_emod_of_nonneg (by omega), Int.tmod_eq_emod_of_nonneg (by omega), he]
        obtain rfl : ka = kb := by omega
        obtain ⟨q, hq1⟩ : ∃ q, (rx == ry) = q := ⟨_, rfl⟩
        have hq : ∀ W, (binOp .eql 24 (.agg #[.int .u32 (rx + 1), .int .i64 ka]) (.agg #[.int .u32 (ry + 1), .int .i64 ka])).run Tryd.prog W = Result.ok (Value.bool q) W := by
          intro W
          rw [Bl.run_eql 24 (.inl rfl), ← hq1]
          congr 2
          rw [Bool.eq_iff_iff]
          simp
        clear he
        refine wp_region_held_drew (S := fun w' => w'.cell? ⟨g2, 0, none⟩ = some (.int .u32 rx) ∧ w'.cell? ⟨g2, 1, none⟩ = some (.int .i64 vx) ∧ w'.cell? ⟨g2 + 1, 0, none⟩ = some (.int .u32 ry) ∧ w'.cell? ⟨g2 + 1, 1, none⟩ = some (.int .i64 vy) ∧ w'.cell? ⟨g3, 0, none⟩ = some (.int .u32 (rx + 1)) ∧ w'.cell? ⟨g3, 1, none⟩ = some (.int .i64 ka) ∧ w'.cell? ⟨g4, 0, none⟩ = some (.int .u32 (ry + 1)) ∧ w'.cell? ⟨g4, 1, none⟩ = some (.int .i64 ka)) (by kernel_rfl) (Bl.Rows4.cells hd) (fun hHeld => ?_)
        refine Bl.take_yes (i := 0) (oi := ⟨some 73, _, _, _, _, _⟩) (v := ?_) rfl (by kernel_rfl) (by kernel_rfl) (by kernel_rfl) (fun _ _ _ h => h) (by kernel_rfl) ?_ (by assumption) ?_
        rotate_left
        · (intro w' hSw; (try dsimp only at hSw); first | (go_simp; done) | (go_simp; with_reducible rfl))
        (try simp only [Act.put]); (try simp only [List.setIfInBounds_toArray]); (try simp only [List.set_cons_succ]); (try simp only [List.set_cons_zero])
        refine Bl.take_yes (i := 1) (oi := ⟨some 74, _, _, _, _, _⟩) (v := ?_) rfl (by kernel_rfl) (by kernel_rfl) (by kernel_rfl) (fun _ _ _ h => h) (by kernel_rfl) ?_ (by assumption) ?_
        rotate_left
        · (intro w' hSw; (try dsimp only at hSw); first | (go_simp; done) | (go_simp; with_reducible rfl))
        (try simp only [Act.put]); (try simp only [List.setIfInBounds_toArray]); (try simp only [List.set_cons_succ]); (try simp only [List.set_cons_zero])
        refine Bl.take_yes (i := 2) (oi := ⟨some 75, _, _, _, _, _⟩) (v := ?_) rfl (by kernel_rfl) (by kernel_rfl) (by kernel_rfl) (fun _ _ _ h => h) (by kernel_rfl) ?_ (by assumption) ?_
        rotate_left
        · (intro w' hSw; (try dsimp only at hSw); first | (go_simp; done) | (go_simp; with_reducible rfl))
        (try simp only [Act.put]); (try simp only [List.setIfInBounds_toArray]); (try simp only [List.set_cons_succ]); (try simp only [List.set_cons_zero])
        refine Bl.take_yes (i := 3) (oi := ⟨some 76, _, _, _, _, _⟩) (v := ?_) rfl (by kernel_rfl) (by kernel_rfl) (by kernel_rfl) (fun _ _ _ h => h) (by kernel_rfl) ?_ (by assumption) ?_
        rotate_left
        · (intro w' hSw; (try dsimp only at hSw); first | (go_simp; done) | (go_simp; with_reducible rfl))
        (try simp only [Act.put]); (try simp only [List.setIfInBounds_toArray]); (try simp only [List.set_cons_succ]); (try simp only [List.set_cons_zero])
        refine wpAnyH_ready (rs := [4]) (by kernel_rfl) (by simp) ?_
        refine AllReadyH.cons (o := ⟨some 77, _, _, _, _, _⟩) rfl (fun K hK => ?_) AllReadyH.nil
        go_simp
        go_at_call 18
        refine (Bl.order_any (rx + 1) ka rx vx 1 OP.out _).mono ?_
        rintro e y4 ⟨rfl, hb⟩
        have hd2 := Bl.Rows4.keep hb hd; clear hd; have hd := hd2; clear hd2 hb
        (try go_wp2_with fail)
        refine hK.out _ _ (Bl.Rows4.cells hd) (fun hHeld => ?_)
        clear hK
        (try simp only [Act.put]); (try simp only [List.setIfInBounds_toArray]); (try simp only [List.set_cons_succ]); (try simp only [List.set_cons_zero])
        refine Bl.take_yes (i := 5) (oi := ⟨some 78, _, _, _, _, _⟩) (v := ?_) rfl (by kernel_rfl) (by kernel_rfl) (by kernel_rfl) (fun _ _ _ h => h) (by kernel_rfl) ?_ (by assumption) ?_
        rotate_left
        · (intro w' hSw; (try dsimp only at hSw); first | (go_simp; done) | (go_simp; with_reducible rfl))
        (try simp only [Act.put]); (try simp only [List.setIfInBounds_toArray]); (try simp only [List.set_cons_succ]); (try simp only [List.set_cons_zero])
        refine Bl.take_yes (i := 6) (oi := ⟨some 79, _, _, _, _, _⟩) (v := ?_) rfl (by kernel_rfl) (by kernel_rfl) (by kernel_rfl) (fun _ _ _ h => h) (by kernel_rfl) ?_ (by assumption) ?_
        rotate_left
        · (intro w' hSw; (try dsimp only at hSw); first | (go_simp; done) | (go_simp; with_reducible rfl))
        (try simp only [Act.put]); (try simp only [List.setIfInBounds_toArray]); (try simp only [List.set_cons_succ]); (try simp only [List.set_cons_zero])
        refine Bl.take_yes (i := 7) (oi := ⟨some 80, _, _, _, _, _⟩) (v := ?_) rfl (by kernel_rfl) (by kernel_rfl) (by kernel_rfl) (fun _ _ _ h => h) (by kernel_rfl) ?_ (by assumption) ?_
        rotate_left
        · (intro w' hSw; (try dsimp only at hSw); first | (go_simp; done) | (go_simp; with_reducible rfl))
        (try simp only [Act.put]); (try simp only [List.setIfInBounds_toArray]); (try simp only [List.set_cons_succ]); (try simp only [List.set_cons_zero])
        refine Bl.take_yes (i := 8) (oi := ⟨some 81, _, _, _, _, _⟩) (v := ?_) rfl (by kernel_rfl) (by kernel_rfl) (by kernel_rfl) (fun _ _ _ h => h) (by kernel_rfl) ?_ (by assumption) ?_
        rotate_left
        · (intro w' hSw; (try dsimp only at hSw); first | (go_simp; done) | (go_simp; with_reducible rfl))
        (try simp only [Act.put]); (try simp only [List.setIfInBounds_toArray]); (try simp only [List.set_cons_succ]); (try simp only [List.set_cons_zero])
        refine wpAnyH_ready (rs := [9]) (by kernel_rfl) (by simp) ?_
        refine AllReadyH.cons (o := ⟨some 82, _, _, _, _, _⟩) rfl (fun K hK => ?_) AllReadyH.nil
        go_simp
        go_at_call 15
        refine (Bl.right_any (rx + 1) ka true RP.out _).mono ?_
        rintro e y9 ⟨rfl, hb⟩
        have hd2 := Bl.Rows4.keep hb hd; clear hd; have hd := hd2; clear hd2 hb
        (try go_wp2_with fail)
        refine hK.out _ _ (Bl.Rows4.cells hd) (fun hHeld => ?_)
        clear hK
        (try simp only [Act.put]); (try simp only [List.setIfInBounds_toArray]); (try simp only [List.set_cons_succ]); (try simp only [List.set_cons_zero])
        refine Bl.take_yes (i := 10) (oi := ⟨some 83, _, _, _, _, _⟩) (v := ?_) rfl (by kernel_rfl) (by kernel_rfl) (by kernel_rfl) (fun _ _ _ h => h) (by kernel_rfl) ?_ (by assumption) ?_
        rotate_left
        · (intro w' hSw; (try dsimp only at hSw); first | (go_simp; done) | (go_simp; with_reducible rfl))
        (try simp only [Act.put]); (try simp only [List.setIfInBounds_toArray]); (try simp only [List.set_cons_succ]); (try simp only [List.set_cons_zero])
        refine Bl.take_yes (i := 11) (oi := ⟨some 84, _, _, _, _, _⟩) (v := ?_) rfl (by kernel_rfl) (by kernel_rfl) (by kernel_rfl) (fun _ _ _ h => h) (by kernel_rfl) ?_ (by assumption) ?_
        rotate_left
        · (intro w' hSw; (try dsimp only at hSw); first | (go_simp; done) | (go_simp; with_reducible rfl))
        (try simp only [Act.put]); (try simp only [List.setIfInBounds_toArray]); (try simp only [List.set_cons_succ]); (try simp only [List.set_cons_zero])
        refine Bl.take_yes (i := 12) (oi := ⟨some 85, _, _, _, _, _⟩) (v := ?_) rfl (by kernel_rfl) (by kernel_rfl) (by kernel_rfl) (fun _ _ _ h => h) (by kernel_rfl) ?_ (by assumption) ?_
        rotate_left
        · (intro w' hSw; (try dsimp only at hSw); first | (go_simp; done) | (go_simp; with_reducible rfl))
        (try simp only [Act.put]); (try simp only [List.setIfInBounds_toArray]); (try simp only [List.set_cons_succ]); (try simp only [List.set_cons_zero])
        refine Bl.take_yes (i := 13) (oi := ⟨some 86, _, _, _, _, _⟩) (v := ?_) rfl (by kernel_rfl) (by kernel_rfl) (by kernel_rfl) (fun _ _ _ h => h) (by kernel_rfl) ?_ (by assumption) ?_
        rotate_left
        · (intro w' hSw; (try dsimp only at hSw); first | (go_simp; done) | (go_simp; with_reducible rfl))
        (try simp only [Act.put]); (try simp only [List.setIfInBounds_toArray]); (try simp only [List.set_cons_succ]); (try simp only [List.set_cons_zero])
        refine Bl.take_yes (i := 14) (oi := ⟨some 87, _, _, _, _, _⟩) (v := ?_) rfl (by kernel_rfl) (by kernel_rfl) (by kernel_rfl) (fun _ _ _ h => h) (by kernel_rfl) ?_ (by assumption) ?_
        rotate_left
        · (intro w' hSw; (try dsimp only at hSw); first | (go_simp; done) | (go_simp; with_reducible rfl))
        (try simp only [Act.put]); (try simp only [List.setIfInBounds_toArray]); (try simp only [List.set_cons_succ]); (try simp only [List.set_cons_zero])
        refine Bl.take_yes (i := 15) (oi := ⟨some 88, _, _, _, _, _⟩) (v := ?_) rfl (by kernel_rfl) (by kernel_rfl) (by kernel_rfl) (fun _ _ _ h => h) (by kernel_rfl) ?_ (by assumption) ?_
        rotate_left
        · (intro w' hSw; (try dsimp only at hSw); first | (go_simp; done) | (go_simp; with_reducible rfl))
        (try simp only [Act.put]); (try simp only [List.setIfInBounds_toArray]); (try simp only [List.set_cons_succ]); (try simp only [List.set_cons_zero])
        refine Bl.take_yes (i := 16) (oi := ⟨some 89, _, _, _, _, _⟩) (v := ?_) rfl (by kernel_rfl) (by kernel_rfl) (by kernel_rfl) (fun _ _ _ h => h) (by kernel_rfl) ?_ (by assumption) ?_
        rotate_left
        · (intro w' hSw; (try dsimp only at hSw); first | (go_simp; done) | (go_simp; with_reducible rfl))
        (try simp only [Act.put]); (try simp only [List.setIfInBounds_toArray]); (try simp only [List.set_cons_succ]); (try simp only [List.set_cons_zero])
        refine Bl.take_yes (i := 17) (oi := ⟨some 90, _, _, _, _, _⟩) (v := ?_) rfl (by kernel_rfl) (by kernel_rfl) (by kernel_rfl) (fun _ _ _ h => h) (by kernel_rfl) ?_ (by assumption) ?_
        rotate_left
        · (intro w' hSw; (try dsimp only at hSw); first | (go_simp; done) | (go_simp; with_reducible rfl))
        (try simp only [Act.put]); (try simp only [List.setIfInBounds_toArray]); (try simp only [List.set_cons_succ]); (try simp only [List.set_cons_zero])
        refine Bl.take_no (i := 18) (oi := ⟨some 91, _, _, _, _, _⟩) rfl (by kernel_rfl) (by kernel_rfl) (by kernel_rfl) (fun _ _ _ h => h) (by kernel_rfl) (by assumption) ?_
        (try simp only [Act.put]); (try simp only [List.setIfInBounds_toArray]); (try simp only [List.set_cons_succ]); (try simp only [List.set_cons_zero])
        refine Bl.take_no (i := 19) (oi := ⟨some 92, _, _, _, _, _⟩) rfl (by kernel_rfl) (by kernel_rfl) (by kernel_rfl) (fun _ _ _ h => h) (by kernel_rfl) (by assumption) ?_
        (try simp only [Act.put]); (try simp only [List.setIfInBounds_toArray]); (try simp only [List.set_cons_succ]); (try simp only [List.set_cons_zero])
        refine Bl.take_no (i := 20) (oi := ⟨some 93, _, _, _, _, _⟩) rfl (by kernel_rfl) (by kernel_rfl) (by kernel_rfl) (fun _ _ _ h => h) (by kernel_rfl) (by assumption) ?_
        (try simp only [Act.put]); (try simp only [List.setIfInBounds_toArray]); (try simp only [List.set_cons_succ]); (try simp only [List.set_cons_zero])
        refine Bl.take_yes (i := 21) (oi := ⟨some 94, _, _, _, _, _⟩) (v := ?_) rfl (by kernel_rfl) (by kernel_rfl) (by kernel_rfl) (fun _ _ _ h => h) (by kernel_rfl) ?_ (by assumption) ?_
        rotate_left
        · (intro w' hSw; (try dsimp only at hSw); first | (go_simp; done) | (go_simp; with_reducible rfl))
        (try simp only [Act.put]); (try simp only [List.setIfInBounds_toArray]); (try simp only [List.set_cons_succ]); (try simp only [List.set_cons_zero])
        refine Bl.take_yes (i := 22) (oi := ⟨some 95, _, _, _, _, _⟩) (v := ?_) rfl (by kernel_rfl) (by kernel_rfl) (by kernel_rfl) (fun _ _ _ h => h) (by kernel_rfl) ?_ (by assumption) ?_
        rotate_left
        · (intro w' hSw; (try dsimp only at hSw); first | (go_simp; done) | (go_simp; with_reducible rfl))
        (try simp only [Act.put]); (try simp only [List.setIfInBounds_toArray]); (try simp only [List.set_cons_succ]); (try simp only [List.set_cons_zero])
        refine Bl.take_yes (i := 23) (oi := ⟨some 96, _, _, _, _, _⟩) (v := ?_) rfl (by kernel_rfl) (by kernel_rfl) (by kernel_rfl) (fun _ _ _ h => h) (by kernel_rfl) ?_ (by assumption) ?_
        rotate_left
        · (intro w' hSw; (try dsimp only at hSw); first | (go_simp; done) | (go_simp; with_reducible rfl))
        (try simp only [Act.put]); (try simp only [List.setIfInBounds_toArray]); (try simp only [List.set_cons_succ]); (try simp only [List.set_cons_zero])
        refine Bl.take_yes (i := 24) (oi := ⟨some 97, _, _, _, _, _⟩) (v := ?_) rfl (by kernel_rfl) (by kernel_rfl) (by kernel_rfl) (fun _ _ _ h => h) (by kernel_rfl) ?_ (by assumption) ?_
        rotate_left
        · (intro w' hSw; (try dsimp only at hSw); first | (go_simp; done) | (go_simp; with_reducible rfl))
        (try simp only [Act.put]); (try simp only [List.setIfInBounds_toArray]); (try simp only [List.set_cons_succ]); (try simp only [List.set_cons_zero])
        refine Bl.take_yes (i := 25) (oi := ⟨some 98, _, _, _, _, _⟩) (v := ?_) rfl (by kernel_rfl) (by kernel_rfl) (by kernel_rfl) (fun _ _ _ h => h) (by kernel_rfl) ?_ (by assumption) ?_
        rotate_left
        · (intro w' hSw; (try dsimp only at hSw); first | (go_simp; done) | (go_simp; with_reducible rfl))
        (try simp only [Act.put]); (try simp only [List.setIfInBounds_toArray]); (try simp only [List.set_cons_succ]); (try simp only [List.set_cons_zero])
        refine Bl.take_yes (i := 26) (oi := ⟨some 99, _, _, _, _, _⟩) (v := ?_) rfl (by kernel_rfl) (by kernel_rfl) (by kernel_rfl) (fun _ _ _ h => h) (by kernel_rfl) ?_ (by assumption) ?_
        rotate_left
        · (intro w' hSw; (try dsimp only at hSw); first | (go_simp; done) | (go_simp; with_reducible rfl))
        (try simp only [Act.put]); (try simp only [List.setIfInBounds_toArray]); (try simp only [List.set_cons_succ]); (try simp only [List.set_cons_zero])
        refine Bl.take_yes (i := 27) (oi := ⟨some 100, _, _, _, _, _⟩) (v := ?_) rfl (by kernel_rfl) (by kernel_rfl) (by kernel_rfl) (fun _ _ _ h => h) (by kernel_rfl) ?_ (by assumption) ?_
        rotate_left
        · (intro w' hSw; (try dsimp only at hSw); first | (go_simp; done) | (go_simp; with_reducible rfl))
        (try simp only [Act.put]); (try simp only [List.setIfInBounds_toArray]); (try simp only [List.set_cons_succ]); (try simp only [List.set_cons_zero])
        refine Bl.take_yes (i := 28) (oi := ⟨some 101, _, _, _, _, _⟩) (v := ?_) rfl (by kernel_rfl) (by kernel_rfl) (by kernel_rfl) (fun _ _ _ h => h) (by kernel_rfl) ?_ (by assumption) ?_
        rotate_left
        · (intro w' hSw; (try dsimp only at hSw); first | (go_simp; done) | (go_simp; with_reducible rfl))
        (try simp only [Act.put]); (try simp only [List.setIfInBounds_toArray]); (try simp only [List.set_cons_succ]); (try simp only [List.set_cons_zero])
        refine Bl.take_yes (i := 29) (oi := ⟨some 102, _, _, _, _, _⟩) (v := ?_) rfl (by kernel_rfl) (by kernel_rfl) (by kernel_rfl) (fun _ _ _ h => h) (by kernel_rfl) ?_ (by assumption) ?_
        rotate_left
        · (intro w' hSw; (try dsimp only at hSw); first | (go_simp; done) | (go_simp; with_reducible rfl))
        (try simp only [Act.put]); (try simp only [List.setIfInBounds_toArray]); (try simp only [List.set_cons_succ]); (try simp only [List.set_cons_zero])
        refine Bl.take_yes (i := 30) (oi := ⟨some 103, _, _, _, _, _⟩) (v := ?_) rfl (by kernel_rfl) (by kernel_rfl) (by kernel_rfl) (fun _ _ _ h => h) (by kernel_rfl) ?_ (by assumption) ?_
        rotate_left
        · (intro w' hSw; (try dsimp only at hSw); first | (go_simp; done) | (go_simp; with_reducible rfl))
        (try simp only [Act.put]); (try simp only [List.setIfInBounds_toArray]); (try simp only [List.set_cons_succ]); (try simp only [List.set_cons_zero])
        refine Bl.take_yes (i := 31) (oi := ⟨some 104, _, _, _, _, _⟩) (v := ?_) rfl (by kernel_rfl) (by kernel_rfl) (by kernel_rfl) (fun _ _ _ h => h) (by kernel_rfl) ?_ (by assumption) ?_
        rotate_left
        · (intro w' hSw; (try dsimp only at hSw); first | (go_simp; done) | (go_simp; with_reducible rfl))
        (try simp only [Act.put]); (try simp only [List.setIfInBounds_toArray]); (try simp only [List.set_cons_succ]); (try simp only [List.set_cons_zero])
        refine Bl.take_yes (i := 32) (oi := ⟨some 105, _, _, _, _, _⟩) (v := ?_) rfl (by kernel_rfl) (by kernel_rfl) (by kernel_rfl) (fun _ _ _ h => h) (by kernel_rfl) ?_ (by assumption) ?_
        rotate_left
        · (intro w' hSw; (try dsimp only at hSw); first | (go_simp; done) | (go_simp; with_reducible rfl))
        (try simp only [Act.put]); (try simp only [List.setIfInBounds_toArray]); (try simp only [List.set_cons_succ]); (try simp only [List.set_cons_zero])
        refine Bl.take_yes (i := 33) (oi := ⟨some 106, _, _, _, _, _⟩) (v := ?_) rfl (by kernel_rfl) (by kernel_rfl) (by kernel_rfl) (fun _ _ _ h => h) (by kernel_rfl) ?_ (by assumption) ?_
        rotate_left
        · (intro w' hSw; (try dsimp only at hSw); first | (go_simp; done) | (go_simp; with_reducible rfl))
        (try simp only [Act.put]); (try simp only [List.setIfInBounds_toArray]); (try simp only [List.set_cons_succ]); (try simp only [List.set_cons_zero])
        refine Bl.take_yes (i := 34) (oi := ⟨some 107, _, _, _, _, _⟩) (v := ?_) rfl (by kernel_rfl) (by kernel_rfl) (by kernel_rfl) (fun _ _ _ h => h) (by kernel_rfl) ?_ (by assumption) ?_
        rotate_left
        · (intro w' hSw; (try dsimp only at hSw); first | (go_simp; done) | (go_simp; with_reducible rfl))
        (try simp only [Act.put]); (try simp only [List.setIfInBounds_toArray]); (try simp only [List.set_cons_succ]); (try simp only [List.set_cons_zero])
        refine Bl.take_yes (i := 35) (oi := ⟨some 108, _, _, _, _, _⟩) (v := ?_) rfl (by kernel_rfl) (by kernel_rfl) (by kernel_rfl) (fun _ _ _ h => h) (by kernel_rfl) ?_ (by assumption) ?_
        rotate_left
        · (intro w' hSw; (try dsimp only at hSw); first | (go_simp; done) | (go_simp; with_reducible rfl))
        (try simp only [Act.put]); (try simp only [List.setIfInBounds_toArray]); (try simp only [List.set_cons_succ]); (try simp only [List.set_cons_zero])
        refine Bl.take_yes (i := 36) (oi := ⟨some 109, _, _, _, _, _⟩) (v := ?_) rfl (by kernel_rfl) (by kernel_rfl) (by kernel_rfl) (fun _ _ _ h => h) (by kernel_rfl) ?_ (by assumption) ?_
        rotate_left
        · (intro w' hSw; (try dsimp only at hSw); first | (go_simp; done) | (go_simp; with_reducible rfl))
        (try simp only [Act.put]); (try simp only [List.setIfInBounds_toArray]); (try simp only [List.set_cons_succ]); (try simp only [List.set_cons_zero])
        refine Bl.take_yes (i := 37) (oi := ⟨some 110, _, _, _, _, _⟩) (v := ?_) rfl (by kernel_rfl) (by kernel_rfl) (by kernel_rfl) (fun _ _ _ h => h) (by kernel_rfl) ?_ (by assumption) ?_
        rotate_left
        · (intro w' hSw; (try dsimp only at hSw); first | (go_simp; done) | (go_simp; with_reducible rfl))
        (try simp only [Act.put]); (try simp only [List.setIfInBounds_toArray]); (try simp only [List.set_cons_succ]); (try simp only [List.set_cons_zero])
        refine Bl.take_yes (i := 38) (oi := ⟨some 111, _, _, _, _, _⟩) (v := ?_) rfl (by kernel_rfl) (by kernel_rfl) (by kernel_rfl) (fun _ _ _ h => h) (by kernel_rfl) ?_ (by assumption) ?_
        rotate_left
        · (intro w' hSw; (try dsimp only at hSw); first | (go_simp; done) | (go_simp; with_reducible rfl))
        (try simp only [Act.put]); (try simp only [List.setIfInBounds_toArray]); (try simp only [List.set_cons_succ]); (try simp only [List.set_cons_zero])
        refine Bl.take_yes (i := 39) (oi := ⟨some 112, _, _, _, _, _⟩) (v := ?_) rfl (by kernel_rfl) (by kernel_rfl) (by kernel_rfl) (fun _ _ _ h => h) (by kernel_rfl) ?_ (by assumption) ?_
        rotate_left
        · (intro w' hSw; (try dsimp only at hSw); first | (go_simp; done) | (go_simp; with_reducible rfl))
        (try simp only [Act.put]); (try simp only [List.setIfInBounds_toArray]); (try simp only [List.set_cons_succ]); (try simp only [List.set_cons_zero])
        refine Bl.take_yes (i := 40) (oi := ⟨some 113, _, _, _, _, _⟩) (v := ?_) rfl (by kernel_rfl) (by kernel_rfl) (by kernel_rfl) (fun _ _ _ h => h) (by kernel_rfl) ?_ (by assumption) ?_
        rotate_left
        · (intro w' hSw; (try dsimp only at hSw); first | (go_simp; done) | (go_simp; with_reducible rfl))
        (try simp only [Act.put]); (try simp only [List.setIfInBounds_toArray]); (try simp only [List.set_cons_succ]); (try simp only [List.set_cons_zero])
        refine Bl.take_yes (i := 41) (oi := ⟨some 114, _, _, _, _, _⟩) (v := ?_) rfl (by kernel_rfl) (by kernel_rfl) (by kernel_rfl) (fun _ _ _ h => h) (by kernel_rfl) ?_ (by assumption) ?_
        rotate_left
        · (intro w' hSw; (try dsimp only at hSw); first | (go_simp; done) | (go_simp; with_reducible rfl))
        (try simp only [Act.put]); (try simp only [List.setIfInBounds_toArray]); (try simp only [List.set_cons_succ]); (try simp only [List.set_cons_zero])
        refine Bl.take_yes (i := 42) (oi := ⟨some 115, _, _, _, _, _⟩) (v := ?_) rfl (by kernel_rfl) (by kernel_rfl) (by kernel_rfl) (fun _ _ _ h => h) (by kernel_rfl) ?_ (by assumption) ?_
        rotate_left
        · (intro w' hSw; (try dsimp only at hSw); first | (go_simp; done) | (go_simp; with_reducible rfl))
        (try simp only [Act.put]); (try simp only [List.setIfInBounds_toArray]); (try simp only [List.set_cons_succ]); (try simp only [List.set_cons_zero])
        refine Bl.take_yes (i := 43) (oi := ⟨some 116, _, _, _, _, _⟩) (v := ?_) rfl (by kernel_rfl) (by kernel_rfl) (by kernel_rfl) (fun _ _ _ h => h) (by kernel_rfl) ?_ (by assumption) ?_
        rotate_left
        · (intro w' hSw; (try dsimp only at hSw); first | (go_simp; done) | (go_simp; with_reducible rfl))
        (try simp only [Act.put]); (try simp only [List.setIfInBounds_toArray]); (try simp only [List.set_cons_succ]); (try simp only [List.set_cons_zero])
        refine Bl.take_yes (i := 45) (oi := ⟨some 118, _, _, _, _, _⟩) (v := ?_) rfl (by kernel_rfl) (by kernel_rfl) (by kernel_rfl) (fun _ _ _ h => h) (by kernel_rfl) ?_ (by assumption) ?_
        rotate_left
        · (intro w' hSw; (try dsimp only at hSw); first | (go_simp; done) | (go_simp; with_reducible rfl))
        (try simp only [Act.put]); (try simp only [List.setIfInBounds_toArray]); (try simp only [List.set_cons_succ]); (try simp only [List.set_cons_zero])
        refine Bl.take_yes (i := 46) (oi := ⟨some 119, _, _, _, _, _⟩) (v := ?_) rfl (by kernel_rfl) (by kernel_rfl) (by kernel_rfl) (fun _ _ _ h => h) (by kernel_rfl) ?_ (by assumption) ?_
        rotate_left
        · (intro w' hSw; (try dsimp only at hSw); first | (go_simp; done) | (go_simp; with_reducible rfl))
        (try simp only [Act.put]); (try simp only [List.setIfInBounds_toArray]); (try simp only [List.set_cons_succ]); (try simp only [List.set_cons_zero])
        refine wpAnyH_ready (rs := [44]) (by kernel_rfl) (by simp) ?_
        refine AllReadyH.cons (o := ⟨some 117, _, _, _, _, _⟩) rfl (fun K hK => ?_) AllReadyH.nil
        go_simp
        go_at_call 18
        refine (Bl.order_any rx vx ry vy k OK.out _).mono ?_
        rintro e y44 ⟨rfl, hb⟩
        have hd2 := Bl.Rows4.keep hb hd; clear hd; have hd := hd2; clear hd2 hb
        (try go_wp2_with fail)
        refine hK.out _ _ (Bl.Rows4.cells hd) (fun hHeld => ?_)
        clear hK
        (try simp only [Act.put]); (try simp only [List.setIfInBounds_toArray]); (try simp only [List.set_cons_succ]); (try simp only [List.set_cons_zero])
        refine wpAnyH_ready (rs := [47]) (by kernel_rfl) (by simp) ?_
        refine AllReadyH.cons (o := ⟨some 120, _, _, _, _, _⟩) rfl (fun K hK => ?_) AllReadyH.nil
        go_simp
        go_at_call 18
        refine (Bl.order_any ry vy rx vx k2 OK2.out _).mono ?_
        rintro e y47 ⟨rfl, hb⟩
        have hd2 := Bl.Rows4.keep hb hd; clear hd; have hd := hd2; clear hd2 hb
        (try go_wp2_with fail)
        refine hK.out _ _ (Bl.Rows4.cells hd) (fun hHeld => ?_)
        clear hK
        (try simp only [Act.put]); (try simp only [List.setIfInBounds_toArray]); (try simp only [List.set_cons_succ]); (try simp only [List.set_cons_zero])
        refine Bl.take_yes (i := 48) (oi := ⟨some 121, _, _, _, _, _⟩) (v := ?_) rfl (by kernel_rfl) (by kernel_rfl) (by kernel_rfl) (fun _ _ _ h => h) (by kernel_rfl) ?_ (by assumption) ?_
        rotate_left
        · (intro w' hSw; (try dsimp only at hSw); first | (go_simp; done) | (go_simp; with_reducible rfl))
        (try simp only [Act.put]); (try simp only [List.setIfInBounds_toArray]); (try simp only [List.set_cons_succ]); (try simp only [List.set_cons_zero])
        refine Bl.take_yes (i := 49) (oi := ⟨some 122, _, _, _, _, _⟩) (v := ?_) rfl (by kernel_rfl) (by kernel_rfl) (by kernel_rfl) (fun _ _ _ h => h) (by kernel_rfl) ?_ (by assumption) ?_
        rotate_left
        · (intro w' hSw; (try dsimp only at hSw); first | (go_simp; done) | (go_simp; with_reducible rfl))
        (try simp only [Act.put]); (try simp only [List.setIfInBounds_toArray]); (try simp only [List.set_cons_succ]); (try simp only [List.set_cons_zero])
        refine Bl.take_yes (i := 50) (oi := ⟨some 123, _, _, _, _, _⟩) (v := ?_) rfl (by kernel_rfl) (by kernel_rfl) (by kernel_rfl) (fun _ _ _ h => h) (by kernel_rfl) ?_ (by assumption) ?_
        rotate_left
        · (intro w' hSw; (try dsimp only at hSw); first | (go_simp; done) | (go_simp; with_reducible rfl))
        (try simp only [Act.put]); (try simp only [List.setIfInBounds_toArray]); (try simp only [List.set_cons_succ]); (try simp only [List.set_cons_zero])
        refine Bl.take_yes (i := 51) (oi := ⟨some 10, _, _, _, _, _⟩) (v := ?_) rfl (by kernel_rfl) (by kernel_rfl) (by kernel_rfl) (fun _ _ _ h => h) (by kernel_rfl) ?_ (by assumption) ?_
        rotate_left
        · (intro w' hSw; (try dsimp only at hSw); first | (go_simp; done) | (go_simp; with_reducible rfl))
        (try simp only [Act.put]); (try simp only [List.setIfInBounds_toArray]); (try simp only [List.set_cons_succ]); (try simp only [List.set_cons_zero])
        refine wpAnyH_done (by kernel_rfl) ?_ _
        go_wp2
        go_ret
        exact ⟨rfl, hd.1⟩
      · obtain ⟨m3, e3⟩ : ∃ m, a3.tmod 7 = m := ⟨_, rfl⟩
        obtain ⟨m4, e4⟩ : ∃ m, a4.tmod 7 = m := ⟨_, rfl⟩
        have hm : ¬ m3 = m4 := by rw [← e3, ← e4, Int.tmod_eq_emod_of_nonneg (by omega), Int.tmod_eq_emod_of_nonneg (by omega)]; exact he
        have hmb : (m3 == m4) = false := by rw [beq_eq_false_iff_ne]; exact hm
        have hk2 : (ka == kb) = false := by rw [beq_eq_false_iff_ne]; omega
        have hq : ∀ W, (binOp .eql 24 (.agg #[.int .u32 (rx + 1), .int .i64 ka]) (.agg #[.int .u32 (ry + 1), .int .i64 kb])).run Tryd.prog W = Result.ok (Value.bool false) W := by
          intro W
          rw [Bl.run_eql 24 (.inl rfl), hk2, Bool.and_false]
        have hn : ∀ W, (binOp .neq 24 (.agg #[.int .u32 (rx + 1), .int .i64 ka]) (.agg #[.int .u32 (ry + 1), .int .i64 kb])).run Tryd.prog W = Result.ok (Value.bool true) W := by
          intro W
          by_cases h1 : rx + 1 = ry + 1 <;> go_simp <;> simp [h1, hk2]
        clear he
        refine wp_region_held_drew (S := fun w' => w'.cell? ⟨g2, 0, none⟩ = some (.int .u32 rx) ∧ w'.cell? ⟨g2, 1, none⟩ = some (.int .i64 vx) ∧ w'.cell? ⟨g2 + 1, 0, none⟩ = some (.int .u32 ry) ∧ w'.cell? ⟨g2 + 1, 1, none⟩ = some (.int .i64 vy) ∧ w'.cell? ⟨g3, 0, none⟩ = some (.int .u32 (rx + 1)) ∧ w'.cell? ⟨g3, 1, none⟩ = some (.int .i64 ka) ∧ w'.cell? ⟨g4, 0, none⟩ = some (.int .u32 (ry + 1)) ∧ w'.cell? ⟨g4, 1, none⟩ = some (.int .i64 kb)) (by kernel_rfl) (Bl.Rows4.cells hd) (fun hHeld => ?_)
        refine Bl.take_yes (i := 0) (oi := ⟨some 73, _, _, _, _, _⟩) (v := ?_) rfl (by kernel_rfl) (by kernel_rfl) (by kernel_rfl) (fun _ _ _ h => h) (by kernel_rfl) ?_ (by assumption) ?_
        rotate_left
        · (intro w' hSw; (try dsimp only at hSw); first | (go_simp; done) | (go_simp; with_reducible rfl))
        (try simp only [Act.put]); (try simp only [List.setIfInBounds_toArray]); (try simp only [List.set_cons_succ]); (try simp only [List.set_cons_zero])
        refine Bl.take_yes (i := 1) (oi := ⟨some 74, _, _, _, _, _⟩) (v := ?_) rfl (by kernel_rfl) (by kernel_rfl) (by kernel_rfl) (fun _ _ _ h => h) (by kernel_rfl) ?_ (by assumption) ?_
        rotate_left
        · (intro w' hSw; (try dsimp only at hSw); first | (go_simp; done) | (go_simp; with_reducible rfl))
        (try simp only [Act.put]); (try simp only [List.setIfInBounds_toArray]); (try simp only [List.set_cons_succ]); (try simp only [List.set_cons_zero])
        refine Bl.take_yes (i := 2) (oi := ⟨some 75, _, _, _, _, _⟩) (v := ?_) rfl (by kernel_rfl) (by kernel_rfl) (by kernel_rfl) (fun _ _ _ h => h) (by kernel_rfl) ?_ (by assumption) ?_
        rotate_left
        · (intro w' hSw; (try dsimp only at hSw); first | (go_simp; done) | (go_simp; with_reducible rfl))
        (try simp only [Act.put]); (try simp only [List.setIfInBounds_toArray]); (try simp only [List.set_cons_succ]); (try simp only [List.set_cons_zero])
        refine Bl.take_yes (i := 3) (oi := ⟨some 76, _, _, _, _, _⟩) (v := ?_) rfl (by kernel_rfl) (by kernel_rfl) (by kernel_rfl) (fun _ _ _ h => h) (by kernel_rfl) ?_ (by assumption) ?_
        rotate_left
        · (intro w' hSw; (try dsimp only at hSw); first | (go_simp; done) | (go_simp; with_reducible rfl))
        (try simp only [Act.put]); (try simp only [List.setIfInBounds_toArray]); (try simp only [List.set_cons_succ]); (try simp only [List.set_cons_zero])
        refine wpAnyH_ready (rs := [4]) (by kernel_rfl) (by simp) ?_
        refine AllReadyH.cons (o := ⟨some 77, _, _, _, _, _⟩) rfl (fun K hK => ?_) AllReadyH.nil
        go_simp
        go_at_call 18
        refine (Bl.order_any (rx + 1) ka rx vx 1 OP.out _).mono ?_
        rintro e y4 ⟨rfl, hb⟩
        have hd2 := Bl.Rows4.keep hb hd; clear hd; have hd := hd2; clear hd2 hb
        (try go_wp2_with fail)
        refine hK.out _ _ (Bl.Rows4.cells hd) (fun hHeld => ?_)
        clear hK
        (try simp only [Act.put]); (try simp only [List.setIfInBounds_toArray]); (try simp only [List.set_cons_succ]); (try simp only [List.set_cons_zero])
        refine Bl.take_yes (i := 5) (oi := ⟨some 78, _, _, _, _, _⟩) (v := ?_) rfl (by kernel_rfl) (by kernel_rfl) (by kernel_rfl) (fun _ _ _ h => h) (by kernel_rfl) ?_ (by assumption) ?_
        rotate_left
        · (intro w' hSw; (try dsimp only at hSw); first | (go_simp; done) | (go_simp; with_reducible rfl))
        (try simp only [Act.put]); (try simp only [List.setIfInBounds_toArray]); (try simp only [List.set_cons_succ]); (try simp only [List.set_cons_zero])
        refine Bl.take_yes (i := 6) (oi := ⟨some 79, _, _, _, _, _⟩) (v := ?_) rfl (by kernel_rfl) (by kernel_rfl) (by kernel_rfl) (fun _ _ _ h => h) (by kernel_rfl) ?_ (by assumption) ?_
        rotate_left
        · (intro w' hSw; (try dsimp only at hSw); first | (go_simp; done) | (go_simp; with_reducible rfl))
        (try simp only [Act.put]); (try simp only [List.setIfInBounds_toArray]); (try simp only [List.set_cons_succ]); (try simp only [List.set_cons_zero])
        refine Bl.take_yes (i := 7) (oi := ⟨some 80, _, _, _, _, _⟩) (v := ?_) rfl (by kernel_rfl) (by kernel_rfl) (by kernel_rfl) (fun _ _ _ h => h) (by kernel_rfl) ?_ (by assumption) ?_
        rotate_left
        · (intro w' hSw; (try dsimp only at hSw); first | (go_simp; done) | (go_simp; with_reducible rfl))
        (try simp only [Act.put]); (try simp only [List.setIfInBounds_toArray]); (try simp only [List.set_cons_succ]); (try simp only [List.set_cons_zero])
        refine Bl.take_yes (i := 8) (oi := ⟨some 81, _, _, _, _, _⟩) (v := ?_) rfl (by kernel_rfl) (by kernel_rfl) (by kernel_rfl) (fun _ _ _ h => h) (by kernel_rfl) ?_ (by assumption) ?_
        rotate_left
        · (intro w' hSw; (try dsimp only at hSw); first | (go_simp; done) | (go_simp; with_reducible rfl))
        (try simp only [Act.put]); (try simp only [List.setIfInBounds_toArray]); (try simp only [List.set_cons_succ]); (try simp only [List.set_cons_zero])
        refine wpAnyH_ready (rs := [9]) (by kernel_rfl) (by simp) ?_
        refine AllReadyH.cons (o := ⟨some 82, _, _, _, _, _⟩) rfl (fun K hK => ?_) AllReadyH.nil
        go_simp
        go_at_call 15
        refine (Bl.right_any (rx + 1) ka true RP.out _).mono ?_
        rintro e y9 ⟨rfl, hb⟩
        have hd2 := Bl.Rows4.keep hb hd; clear hd; have hd := hd2; clear hd2 hb
        (try go_wp2_with fail)
        refine hK.out _ _ (Bl.Rows4.cells hd) (fun hHeld => ?_)
        clear hK
        (try simp only [Act.put]); (try simp only [List.setIfInBounds_toArray]); (try simp only [List.set_cons_succ]); (try simp only [List.set_cons_zero])
        refine Bl.take_yes (i := 10) (oi := ⟨some 83, _, _, _, _, _⟩) (v := ?_) rfl (by kernel_rfl) (by kernel_rfl) (by kernel_rfl) (fun _ _ _ h => h) (by kernel_rfl) ?_ (by assumption) ?_
        rotate_left
        · (intro w' hSw; (try dsimp only at hSw); first | (go_simp; done) | (go_simp; with_reducible rfl))
        (try simp only [Act.put]); (try simp only [List.setIfInBounds_toArray]); (try simp only [List.set_cons_succ]); (try simp only [List.set_cons_zero])
        refine Bl.take_yes (i := 11) (oi := ⟨some 84, _, _, _, _, _⟩) (v := ?_) rfl (by kernel_rfl) (by kernel_rfl) (by kernel_rfl) (fun _ _ _ h => h) (by kernel_rfl) ?_ (by assumption) ?_
        rotate_left
        · (intro w' hSw; (try dsimp only at hSw); first | (go_simp; done) | (go_simp; with_reducible rfl))
        (try simp only [Act.put]); (try simp only [List.setIfInBounds_toArray]); (try simp only [List.set_cons_succ]); (try simp only [List.set_cons_zero])
        refine Bl.take_yes (i := 12) (oi := ⟨some 85, _, _, _, _, _⟩) (v := ?_) rfl (by kernel_rfl) (by kernel_rfl) (by kernel_rfl) (fun _ _ _ h => h) (by kernel_rfl) ?_ (by assumption) ?_
        rotate_left
        · (intro w' hSw; (try dsimp only at hSw); first | (go_simp; done) | (go_simp; with_reducible rfl))
        (try simp only [Act.put]); (try simp only [List.setIfInBounds_toArray]); (try simp only [List.set_cons_succ]); (try simp only [List.set_cons_zero])
        refine Bl.take_yes (i := 13) (oi := ⟨some 86, _, _, _, _, _⟩) (v := ?_) rfl (by kernel_rfl) (by kernel_rfl) (by kernel_rfl) (fun _ _ _ h => h) (by kernel_rfl) ?_ (by assumption) ?_
        rotate_left
        · (intro w' hSw; (try dsimp only at hSw); first | (go_simp; done) | (go_simp; with_reducible rfl))
        (try simp only [Act.put]); (try simp only [List.setIfInBounds_toArray]); (try simp only [List.set_cons_succ]); (try simp only [List.set_cons_zero])
        refine Bl.take_yes (i := 14) (oi := ⟨some 87, _, _, _, _, _⟩) (v := ?_) rfl (by kernel_rfl) (by kernel_rfl) (by kernel_rfl) (fun _ _ _ h => h) (by kernel_rfl) ?_ (by assumption) ?_
        rotate_left
        · (intro w' hSw; (try dsimp only at hSw); first | (go_simp; done) | (go_simp; with_reducible rfl))
        (try simp only [Act.put]); (try simp only [List.setIfInBounds_toArray]); (try simp only [List.set_cons_succ]); (try simp only [List.set_cons_zero])
        refine Bl.take_yes (i := 15) (oi := ⟨some 88, _, _, _, _, _⟩) (v := ?_) rfl (by kernel_rfl) (by kernel_rfl) (by kernel_rfl) (fun _ _ _ h => h) (by kernel_rfl) ?_ (by assumption) ?_
        rotate_left
        · (intro w' hSw; (try dsimp only at hSw); first | (go_simp; done) | (go_simp; with_reducible rfl))
        (try simp only [Act.put]); (try simp only [List.setIfInBounds_toArray]); (try simp only [List.set_cons_succ]); (try simp only [List.set_cons_zero])
        refine Bl.take_yes (i := 16) (oi := ⟨some 89, _, _, _, _, _⟩) (v := ?_) rfl (by kernel_rfl) (by kernel_rfl) (by kernel_rfl) (fun _ _ _ h => h) (by kernel_rfl) ?_ (by assumption) ?_
        rotate_left
        · (intro w' hSw; (try dsimp only at hSw); first | (go_simp; done) | (go_simp; with_reducible rfl))
        (try simp only [Act.put]); (try simp only [List.setIfInBounds_toArray]); (try simp only [List.set_cons_succ]); (try simp only [List.set_cons_zero])
        refine Bl.take_yes (i := 17) (oi := ⟨some 90, _, _, _, _, _⟩) (v := ?_) rfl (by kernel_rfl) (by kernel_rfl) (by kernel_rfl) (fun _ _ _ h => h) (by kernel_rfl) ?_ (by assumption) ?_
        rotate_left
        · (intro w' hSw; (try dsimp only at hSw); first | (go_simp; done) | (go_simp; with_reducible rfl))
        (try simp only [Act.put]); (try simp only [List.setIfInBounds_toArray]); (try simp only [List.set_cons_succ]); (try simp only [List.set_cons_zero])
        refine Bl.take_yes (i := 18) (oi := ⟨some 91, _, _, _, _, _⟩) (v := ?_) rfl (by kernel_rfl) (by kernel_rfl) (by kernel_rfl) (fun _ _ _ h => h) (by kernel_rfl) ?_ (by assumption) ?_
        rotate_left
        · (intro w' hSw; (try dsimp only at hSw); first | (go_simp; done) | (go_simp; with_reducible rfl))
        (try simp only [Act.put]); (try simp only [List.setIfInBounds_toArray]); (try simp only [List.set_cons_succ]); (try simp only [List.set_cons_zero])
        refine Bl.take_yes (i := 19) (oi := ⟨some 92, _, _, _, _, _⟩) (v := ?_) rfl (by kernel_rfl) (by kernel_rfl) (by kernel_rfl) (fun _ _ _ h => h) (by kernel_rfl) ?_ (by assumption) ?_
        rotate_left
        · (intro w' hSw; (try dsimp only at hSw); first | (go_simp; done) | (go_simp; with_reducible rfl))
        (try simp only [Act.put]); (try simp only [List.setIfInBounds_toArray]); (try simp only [List.set_cons_succ]); (try simp only [List.set_cons_zero])
        refine Bl.take_yes (i := 20) (oi := ⟨some 93, _, _, _, _, _⟩) (v := ?_) rfl (by kernel_rfl) (by kernel_rfl) (by kernel_rfl) (fun _ _ _ h => h) (by kernel_rfl) ?_ (by assumption) ?_
        rotate_left
        · (intro w' hSw; (try dsimp only at hSw); first | (go_simp; done) | (go_simp; with_reducible rfl))
        (try simp only [Act.put]); (try simp only [List.setIfInBounds_toArray]); (try simp only [List.set_cons_succ]); (try simp only [List.set_cons_zero])
        refine Bl.take_yes (i := 21) (oi := ⟨some 94, _, _, _, _, _⟩) (v := ?_) rfl (by kernel_rfl) (by kernel_rfl) (by kernel_rfl) (fun _ _ _ h => h) (by kernel_rfl) ?_ (by assumption) ?_
        rotate_left
        · (intro w' hSw; (try dsimp only at hSw); first | (go_simp; done) | (go_simp; with_reducible rfl))
        (try simp only [Act.put]); (try simp only [List.setIfInBounds_toArray]); (try simp only [List.set_cons_succ]); (try simp only [List.set_cons_zero])
        refine Bl.take_yes (i := 22) (oi := ⟨some 95, _, _, _, _, _⟩) (v := ?_) rfl (by kernel_rfl) (by kernel_rfl) (by kernel_rfl) (fun _ _ _ h => h) (by kernel_rfl) ?_ (by assumption) ?_
        rotate_left
        · (intro w' hSw; (try dsimp only at hSw); first | (go_simp; done) | (go_simp; with_reducible rfl))
        (try simp only [Act.put]); (try simp only [List.setIfInBounds_toArray]); (try simp only [List.set_cons_succ]); (try simp only [List.set_cons_zero])
        refine Bl.take_yes (i := 23) (oi := ⟨some 96, _, _, _, _, _⟩) (v := ?_) rfl (by kernel_rfl) (by kernel_rfl) (by kernel_rfl) (fun _ _ _ h => h) (by kernel_rfl) ?_ (by assumption) ?_
        rotate_left
        · (intro w' hSw; (try dsimp only at hSw); first | (go_simp; done) | (go_simp; with_reducible rfl))
        (try simp only [Act.put]); (try simp only [List.setIfInBounds_toArray]); (try simp only [List.set_cons_succ]); (try simp only [List.set_cons_zero])
        refine Bl.take_yes (i := 24) (oi := ⟨some 97, _, _, _, _, _⟩) (v := ?_) rfl (by kernel_rfl) (by kernel_rfl) (by kernel_rfl) (fun _ _ _ h => h) (by kernel_rfl) ?_ (by assumption) ?_
        rotate_left
        · (intro w' hSw; (try dsimp only at hSw); first | (go_simp; done) | (go_simp; with_reducible rfl))
        (try simp only [Act.put]); (try simp only [List.setIfInBounds_toArray]); (try simp only [List.set_cons_succ]); (try simp only [List.set_cons_zero])
        refine Bl.take_yes (i := 25) (oi := ⟨some 98, _, _, _, _, _⟩) (v := ?_) rfl (by kernel_rfl) (by kernel_rfl) (by kernel_rfl) (fun _ _ _ h => h) (by kernel_rfl) ?_ (by assumption) ?_
        rotate_left
        · (intro w' hSw; (try dsimp only at hSw); first | (go_simp; done) | (go_simp; with_reducible rfl))
        (try simp only [Act.put]); (try simp only [List.setIfInBounds_toArray]); (try simp only [List.set_cons_succ]); (try simp only [List.set_cons_zero])
        refine Bl.take_yes (i := 26) (oi := ⟨some 99, _, _, _, _, _⟩) (v := ?_) rfl (by kernel_rfl) (by kernel_rfl) (by kernel_rfl) (fun _ _ _ h => h) (by kernel_rfl) ?_ (by assumption) ?_
        rotate_left
        · (intro w' hSw; (try dsimp only at hSw); first | (go_simp; done) | (go_simp; with_reducible rfl))
        (try simp only [Act.put]); (try simp only [List.setIfInBounds_toArray]); (try simp only [List.set_cons_succ]); (try simp only [List.set_cons_zero])
        refine Bl.take_yes (i := 27) (oi := ⟨some 100, _, _, _, _, _⟩) (v := ?_) rfl (by kernel_rfl) (by kernel_rfl) (by kernel_rfl) (fun _ _ _ h => h) (by kernel_rfl) ?_ (by assumption) ?_
        rotate_left
        · (intro w' hSw; (try dsimp only at hSw); first | (go_simp; done) | (go_simp; with_reducible rfl))
        (try simp only [Act.put]); (try simp only [List.setIfInBounds_toArray]); (try simp only [List.set_cons_succ]); (try simp only [List.set_cons_zero])
        refine Bl.take_yes (i := 28) (oi := ⟨some 101, _, _, _, _, _⟩) (v := ?_) rfl (by kernel_rfl) (by kernel_rfl) (by kernel_rfl) (fun _ _ _ h => h) (by kernel_rfl) ?_ (by assumption) ?_
        rotate_left
        · (intro w' hSw; (try dsimp only at hSw); first | (go_simp; done) | (go_simp; with_reducible rfl))
        (try simp only [Act.put]); (try simp only [List.setIfInBounds_toArray]); (try simp only [List.set_cons_succ]); (try simp only [List.set_cons_zero])
        refine Bl.take_yes (i := 29) (oi := ⟨some 102, _, _, _, _, _⟩) (v := ?_) rfl (by kernel_rfl) (by kernel_rfl) (by kernel_rfl) (fun _ _ _ h => h) (by kernel_rfl) ?_ (by assumption) ?_
        rotate_left
        · (intro w' hSw; (try dsimp only at hSw); first | (go_simp; done) | (go_simp; with_reducible rfl))
        (try simp only [Act.put]); (try simp only [List.setIfInBounds_toArray]); (try simp only [List.set_cons_succ]); (try simp only [List.set_cons_zero])
        refine Bl.take_yes (i := 30) (oi := ⟨some 103, _, _, _, _, _⟩) (v := ?_) rfl (by kernel_rfl) (by kernel_rfl) (by kernel_rfl) (fun _ _ _ h => h) (by kernel_rfl) ?_ (by assumption) ?_
        rotate_left
        · (intro w' hSw; (try dsimp only at hSw); first | (go_simp; done) | (go_simp; with_reducible rfl))
        (try simp only [Act.put]); (try simp only [List.setIfInBounds_toArray]); (try simp only [List.set_cons_succ]); (try simp only [List.set_cons_zero])
        refine Bl.take_yes (i := 31) (oi := ⟨some 104, _, _, _, _, _⟩) (v := ?_) rfl (by kernel_rfl) (by kernel_rfl) (by kernel_rfl) (fun _ _ _ h => h) (by kernel_rfl) ?_ (by assumption) ?_
        rotate_left
        · (intro w' hSw; (try dsimp only at hSw); first | (go_simp; done) | (go_simp; with_reducible rfl))
        (try simp only [Act.put]); (try simp only [List.setIfInBounds_toArray]); (try simp only [List.set_cons_succ]); (try simp only [List.set_cons_zero])
        refine Bl.take_yes (i := 32) (oi := ⟨some 105, _, _, _, _, _⟩) (v := ?_) rfl (by kernel_rfl) (by kernel_rfl) (by kernel_rfl) (fun _ _ _ h => h) (by kernel_rfl) ?_ (by assumption) ?_
        rotate_left
        · (intro w' hSw; (try dsimp only at hSw); first | (go_simp; done) | (go_simp; with_reducible rfl))
        (try simp only [Act.put]); (try simp only [List.setIfInBounds_toArray]); (try simp only [List.set_cons_succ]); (try simp only [List.set_cons_zero])
        refine Bl.take_no (i := 33) (oi := ⟨some 106, _, _, _, _, _⟩) rfl (by kernel_rfl) (by kernel_rfl) (by kernel_rfl) (fun _ _ _ h => h) (by kernel_rfl) (by assumption) ?_
        (try simp only [Act.put]); (try simp only [List.setIfInBounds_toArray]); (try simp only [List.set_cons_succ]); (try simp only [List.set_cons_zero])
        refine Bl.take_no (i := 34) (oi := ⟨some 107, _, _, _, _, _⟩) rfl (by kernel_rfl) (by kernel_rfl) (by kernel_rfl) (fun _ _ _ h => h) (by kernel_rfl) (by assumption) ?_
        (try simp only [Act.put]); (try simp only [List.setIfInBounds_toArray]); (try simp only [List.set_cons_succ]); (try simp only [List.set_cons_zero])
        refine Bl.take_no (i := 35) (oi := ⟨some 108, _, _, _, _, _⟩) rfl (by kernel_rfl) (by kernel_rfl) (by kernel_rfl) (fun _ _ _ h => h) (by kernel_rfl) (by assumption) ?_
        (try simp only [Act.put]); (try simp only [List.setIfInBounds_toArray]); (try simp only [List.set_cons_succ]); (try simp only [List.set_cons_zero])
        refine Bl.take_no (i := 36) (oi := ⟨some 109, _, _, _, _, _⟩) rfl (by kernel_rfl) (by kernel_rfl) (by kernel_rfl) (fun _ _ _ h => h) (by kernel_rfl) (by assumption) ?_
        (try simp only [Act.put]); (try simp only [List.setIfInBounds_toArray]); (try simp only [List.set_cons_succ]); (try simp only [List.set_cons_zero])
        refine Bl.take_no (i := 37) (oi := ⟨some 110, _, _, _, _, _⟩) rfl (by kernel_rfl) (by kernel_rfl) (by kernel_rfl) (fun _ _ _ h => h) (by kernel_rfl) (by assumption) ?_
        (try simp only [Act.put]); (try simp only [List.setIfInBounds_toArray]); (try simp only [List.set_cons_succ]); (try simp only [List.set_cons_zero])
        refine Bl.take_yes (i := 38) (oi := ⟨some 111, _, _, _, _, _⟩) (v := ?_) rfl (by kernel_rfl) (by kernel_rfl) (by kernel_rfl) (fun _ _ _ h => h) (by kernel_rfl) ?_ (by assumption) ?_
        rotate_left
        · (intro w' hSw; (try dsimp only at hSw); first | (go_simp; done) | (go_simp; with_reducible rfl))
        (try simp only [Act.put]); (try simp only [List.setIfInBounds_toArray]); (try simp only [List.set_cons_succ]); (try simp only [List.set_cons_zero])
        refine Bl.take_yes (i := 39) (oi := ⟨some 112, _, _, _, _, _⟩) (v := ?_) rfl (by kernel_rfl) (by kernel_rfl) (by kernel_rfl) (fun _ _ _ h => h) (by kernel_rfl) ?_ (by assumption) ?_
        rotate_left
        · (intro w' hSw; (try dsimp only at hSw); first | (go_simp; done) | (go_simp; with_reducible rfl))
        (try simp only [Act.put]); (try simp only [List.setIfInBounds_toArray]); (try simp only [List.set_cons_succ]); (try simp only [List.set_cons_zero])
        refine Bl.take_yes (i := 40) (oi := ⟨some 113, _, _, _, _, _⟩) (v := ?_) rfl (by kernel_rfl) (by kernel_rfl) (by kernel_rfl) (fun _ _ _ h => h) (by kernel_rfl) ?_ (by assumption) ?_
        rotate_left
        · (intro w' hSw; (try dsimp only at hSw); first | (go_simp; done) | (go_simp; with_reducible rfl))
        (try simp only [Act.put]); (try simp only [List.setIfInBounds_toArray]); (try simp only [List.set_cons_succ]); (try simp only [List.set_cons_zero])
        refine Bl.take_yes (i := 41) (oi := ⟨some 114, _, _, _, _, _⟩) (v := ?_) rfl (by kernel_rfl) (by kernel_rfl) (by kernel_rfl) (fun _ _ _ h => h) (by kernel_rfl) ?_ (by assumption) ?_
        rotate_left
        · (intro w' hSw; (try dsimp only at hSw); first | (go_simp; done) | (go_simp; with_reducible rfl))
        (try simp only [Act.put]); (try simp only [List.setIfInBounds_toArray]); (try simp only [List.set_cons_succ]); (try simp only [List.set_cons_zero])
        refine Bl.take_yes (i := 42) (oi := ⟨some 115, _, _, _, _, _⟩) (v := ?_) rfl (by kernel_rfl) (by kernel_rfl) (by kernel_rfl) (fun _ _ _ h => h) (by kernel_rfl) ?_ (by assumption) ?_
        rotate_left
        · (intro w' hSw; (try dsimp only at hSw); first | (go_simp; done) | (go_simp; with_reducible rfl))
        (try simp only [Act.put]); (try simp only [List.setIfInBounds_toArray]); (try simp only [List.set_cons_succ]); (try simp only [List.set_cons_zero])
        refine Bl.take_yes (i := 43) (oi := ⟨some 116, _, _, _, _, _⟩) (v := ?_) rfl (by kernel_rfl) (by kernel_rfl) (by kernel_rfl) (fun _ _ _ h => h) (by kernel_rfl) ?_ (by assumption) ?_
        rotate_left
        · (intro w' hSw; (try dsimp only at hSw); first | (go_simp; done) | (go_simp; with_reducible rfl))
        (try simp only [Act.put]); (try simp only [List.setIfInBounds_toArray]); (try simp only [List.set_cons_succ]); (try simp only [List.set_cons_zero])
        refine Bl.take_yes (i := 45) (oi := ⟨some 118, _, _, _, _, _⟩) (v := ?_) rfl (by kernel_rfl) (by kernel_rfl) (by kernel_rfl) (fun _ _ _ h => h) (by kernel_rfl) ?_ (by assumption) ?_
        rotate_left
        · (intro w' hSw; (try dsimp only at hSw); first | (go_simp; done) | (go_simp; with_reducible rfl))
        (try simp only [Act.put]); (try simp only [List.setIfInBounds_toArray]); (try simp only [List.set_cons_succ]); (try simp only [List.set_cons_zero])
        refine Bl.take_yes (i := 46) (oi := ⟨some 119, _, _, _, _, _⟩) (v := ?_) rfl (by kernel_rfl) (by kernel_rfl) (by kernel_rfl) (fun _ _ _ h => h) (by kernel_rfl) ?_ (by assumption) ?_
        rotate_left
        · (intro w' hSw; (try dsimp only at hSw); first | (go_simp; done) | (go_simp; with_reducible rfl))
        (try simp only [Act.put]); (try simp only [List.setIfInBounds_toArray]); (try simp only [List.set_cons_succ]); (try simp only [List.set_cons_zero])
        refine wpAnyH_ready (rs := [44]) (by kernel_rfl) (by simp) ?_
        refine AllReadyH.cons (o := ⟨some 117, _, _, _, _, _⟩) rfl (fun K hK => ?_) AllReadyH.nil
        go_simp
        go_at_call 18
        refine (Bl.order_any rx vx ry vy k OK.out _).mono ?_
        rintro e y44 ⟨rfl, hb⟩
        have hd2 := Bl.Rows4.keep hb hd; clear hd; have hd := hd2; clear hd2 hb
        (try go_wp2_with fail)
        refine hK.out _ _ (Bl.Rows4.cells hd) (fun hHeld => ?_)
        clear hK
        (try simp only [Act.put]); (try simp only [List.setIfInBounds_toArray]); (try simp only [List.set_cons_succ]); (try simp only [List.set_cons_zero])
        refine wpAnyH_ready (rs := [47]) (by kernel_rfl) (by simp) ?_
        refine AllReadyH.cons (o := ⟨some 120, _, _, _, _, _⟩) rfl (fun K hK => ?_) AllReadyH.nil
        go_simp
        go_at_call 18
        refine (Bl.order_any ry vy rx vx k2 OK2.out _).mono ?_
        rintro e y47 ⟨rfl, hb⟩
        have hd2 := Bl.Rows4.keep hb hd; clear hd; have hd := hd2; clear hd2 hb
        (try go_wp2_with fail)
        refine hK.out _ _ (Bl.Rows4.cells hd) (fun hHeld => ?_)
        clear hK
        (try simp only [Act.put]); (try simp only [List.setIfInBounds_toArray]); (try simp only [List.set_cons_succ]); (try simp only [List.set_cons_zero])
        refine Bl.take_yes (i := 48) (oi := ⟨some 121, _, _, _, _, _⟩) (v := ?_) rfl (by kernel_rfl) (by kernel_rfl) (by kernel_rfl) (fun _ _ _ h => h) (by kernel_rfl) ?_ (by assumption) ?_
        rotate_left
        · (intro w' hSw; (try dsimp only at hSw); first | (go_simp; done) | (go_simp; with_reducible rfl))
        (try simp only [Act.put]); (try simp only [List.setIfInBounds_toArray]); (try simp only [List.set_cons_succ]); (try simp only [List.set_cons_zero])
        refine Bl.take_yes (i := 49) (oi := ⟨some 122, _, _, _, _, _⟩) (v := ?_) rfl (by kernel_rfl) (by kernel_rfl) (by kernel_rfl) (fun _ _ _ h => h) (by kernel_rfl) ?_ (by assumption) ?_
        rotate_left
        · (intro w' hSw; (try dsimp only at hSw); first | (go_simp; done) | (go_simp; with_reducible rfl))
        (try simp only [Act.put]); (try simp only [List.setIfInBounds_toArray]); (try simp only [List.set_cons_succ]); (try simp only [List.set_cons_zero])
        refine Bl.take_yes (i := 50) (oi := ⟨some 123, _, _, _, _, _⟩) (v := ?_) rfl (by kernel_rfl) (by kernel_rfl) (by kernel_rfl) (fun _ _ _ h => h) (by kernel_rfl) ?_ (by assumption) ?_
        rotate_left
        · (intro w' hSw; (try dsimp only at hSw); first | (go_simp; done) | (go_simp; with_reducible rfl))
        (try simp only [Act.put]); (try simp only [List.setIfInBounds_toArray]); (try simp only [List.set_cons_succ]); (try simp only [List.set_cons_zero])
        refine Bl.take_yes (i := 51) (oi := ⟨some 10, _, _, _, _, _⟩) (v := ?_) rfl (by kernel_rfl) (by kernel_rfl) (by kernel_rfl) (fun _ _ _ h => h) (by kernel_rfl) ?_ (by assumption) ?_
        rotate_left
        · (intro w' hSw; (try dsimp only at hSw); first | (go_simp; done) | (go_simp; with_reducible rfl))
        (try simp only [Act.put]); (try simp only [List.setIfInBounds_toArray]); (try simp only [List.set_cons_succ]); (try simp only [List.set_cons_zero])
        refine wpAnyH_done (by kernel_rfl) ?_ _
        go_wp2
        go_ret
        exact ⟨rfl, hd.1⟩

theorem laid_met (os : Os) : laidMet Tryd.prog Rows.ballotNextRow.laid ((World.doorLaid Tryd.prog 24 os).forCall (fun _ _ => 0) ⟨#[], #[.int .u32 0, .int .u32 0, .int .u8 0, .int .u8 0, .int .u8 0], []⟩).memory :=
  laidMet_of_run' 8 (by kernel_rfl) (by kernel_rfl)
theorem reads (os : Os) {H : Type} (enc : TypeId × Value → H) : ∃ places, DataW.whole enc Tryd.prog ((World.doorLaid Tryd.prog 24 os).forCall (fun _ _ => 0) ⟨#[], #[.int .u32 0, .int .u32 0, .int .u8 0, .int .u8 0, .int .u8 0], []⟩).memory Tryd.f4.params.toList Rows.ballotNextSpec.vars false (#[.int .u32 0, .int .u32 0, .int .u8 0, .int .u8 0, .int .u8 0] : Array Value).toList 8 = some ([.lit (.int .u32 0), .lit (.int .u32 0), .lit (.int .u8 0), .lit (.int .u8 0), .lit (.int .u8 0)], [], places) :=
  ⟨[], by kernel_rfl⟩

set_option maxRecDepth 100000 in
theorem lifted (os : Os) (started : os.Started) (H : Type) (enc : TypeId × Value → H) (F : Stop.Interp) :
    ReturnsInHanded {} Tryd.checked os 4 .any ((OpenSpec.ofChange Rows.ballotNextSpec).preRow enc Tryd.prog Tryd.f4 Rows.ballotNextRow.domain false Rows.ballotNextRow.laid) (((OpenSpec.ofChange Rows.ballotNextSpec).at F).post enc Tryd.prog Tryd.f4 false true false false) := by
  obtain ⟨places, hx⟩ := reads os enc
  refine returnsInHanded_of_row (C := Tryd.checked) (s := OpenSpec.ofChange Rows.ballotNextSpec) own started (by kernel_rfl) Tryd.func4
    (witness_row_at (enc := enc) (C := Tryd.checked) false (World.doorLaid Tryd.prog 24 os) #[.int .u32 0, .int .u32 0, .int .u8 0, .int .u8 0, .int .u8 0] rfl (by kernel_rfl) (by kernel_rfl) (by kernel_rfl)
      (OpenSpec.preRow_of_cond 8 hx (by kernel_rfl) (fun k hk => by cases hk) (by kernel_rfl) (laid_met os))) ?_
  intro W base args ds gs before hval0 hW _ _ hsz0 hL _ _
  have hval : ∀ (j : Nat) t v, Tryd.f4.params[j]? = some t → args[j]? = some v → Value.okWide Tryd.prog W .any base t v := hval0
  have hsz : (DataW.weightsEach Tryd.prog (Tryd.f4.params.toList ++ Rows.ballotNextSpec.plain.varTypes Tryd.prog) (ds ++ gs)).all (· ≤ reachBytes) = true := hsz0
  have hW' := hW
  obtain ⟨p, q, hA0, hV, rfl, hfz, hnd⟩ := hW
  have hA : DataW.TrodAll enc Tryd.prog W 0 (fun _ => true) true Tryd.f4.params.toList args.toList ds p := hA0
  rw [Tryd.params4] at hA hval hsz
  obtain ⟨v0, vs0, d0, ds0, p0, q0, hargs, rfl, rfl, h0, r0⟩ := trodAll_cons hA
  obtain ⟨v1, vs1, d1, ds1, p1, q1, rfl, rfl, rfl, h1, r1⟩ := trodAll_cons r0
  obtain ⟨v2, vs2, d2, ds2, p2, q2, rfl, rfl, rfl, h2, r2⟩ := trodAll_cons r1
  obtain ⟨v3, vs3, d3, ds3, p3, q3, rfl, rfl, rfl, h3, r3⟩ := trodAll_cons r2
  obtain ⟨v4, vs4, d4, ds4, p4, q4, rfl, rfl, rfl, h4, r4⟩ := trodAll_cons r3
  obtain ⟨rfl, rfl, rfl⟩ := trodAll_nil r4
  obtain rfl : args = #[v0, v1, v2, v3, v4] := by cases args; simp_all
  obtain ⟨rfl, rfl⟩ := trodVars_none hV
  obtain ⟨a0, rfl, rfl, rfl, w0⟩ := open_int Tryd.underlying22 (hval 0 22 v0 rfl rfl) h0
  obtain ⟨a1, rfl, rfl, rfl, w1⟩ := open_int Tryd.underlying22 (hval 1 22 v1 rfl rfl) h1
  obtain ⟨a2, rfl, rfl, rfl, w2⟩ := open_int Tryd.underlying5 (hval 2 5 v2 rfl rfl) h2
  obtain ⟨a3, rfl, rfl, rfl, w3⟩ := open_int Tryd.underlying5 (hval 3 5 v3 rfl rfl) h3
  obtain ⟨a4, rfl, rfl, rfl, w4⟩ := open_int Tryd.underlying5 (hval 4 5 v4 rfl rfl) h4
  clear hA0 hval0
  refine (walk a0 a1 a2 a3 a4 W w0 w1 w2 w3 w4 (Bl.tab_of hL)).mono fun e W' ⟨he, bel⟩ => ?_
  subst he
  exact ⟨_, rfl, _, _, _, [], _, [], hW', trodAll_mk1 (shut_bool Tryd.underlying4 _), (trodAll_cons_mk (shut_int Tryd.underlying22 w0) (trodAll_cons_mk (shut_int Tryd.underlying22 w1) (trodAll_cons_mk (shut_int Tryd.underlying5 w2) (trodAll_cons_mk (shut_int Tryd.underlying5 w3) (trodAll_cons_mk (shut_int Tryd.underlying5 w4) trodAll_mk0))))), rfl, bel.frame _, fun h => by cases h⟩

theorem over : Rows.ballotNextRow.holds Tryd.pinned (OpenSpec.ofChange Rows.ballotNextSpec) :=
  OpenClaim.holds_of_cond 4 Tryd.f4 rfl rfl rfl rfl rfl rfl rfl ⟨rfl, rfl, rfl, rfl, rfl⟩ rfl rfl rfl rfl rfl (by kernel_rfl) Tryd.func4 (by kernel_rfl)
    (of_decide_eq_true (by kernel_rfl)) (by unfold Func.isWrapper; first | (rw [if_pos (by decide +kernel)]; kernel_rfl) | (rw [if_neg (by decide +kernel)]; exact ⟨rfl, rfl⟩))
    (fun os started H enc _ F => by rw [OpenClaim.pre_eq_preRow]; exact lifted os started H enc F)

/-- No parameter wants a stand-in. -/
theorem plain (f : FuncId) (fn : Func) (hf : Tryd.pinned.checked.prog.funcNamed "comitia/comitialaw06.BallotNext" = some f) (hfn : Tryd.pinned.checked.prog.funcs[f]? = some fn) :
    false = Tryd.pinned.checked.prog.looks [] ∧ ∀ (j : Nat) t, fn.params[j]? = some t → Tryd.pinned.checked.prog.wantsStandIn t = false := by
  obtain rfl : f = 4 := Option.some.inj ((show Tryd.prog.funcNamed "comitia/comitialaw06.BallotNext" = some 4 by kernel_rfl).symm.trans hf) |>.symm
  obtain rfl : fn = Tryd.f4 := (Option.some.inj (Tryd.func4.symm.trans hfn)).symm
  refine ⟨by kernel_rfl, fun j t ht => ?_⟩
  rw [Tryd.params4] at ht
  have hm : t ∈ [22, 22, 5, 5, 5] := by simpa using Array.mem_of_getElem? ht
  have hall : ([22, 22, 5, 5, 5].all fun u => !Tryd.prog.wantsStandIn u) = true := by kernel_rfl
  exact (show Tryd.prog.wantsStandIn t = false by simpa using List.all_eq_true.1 hall t hm)

theorem proved : Rows.BallotNextCardSaid :=
  Claim7.holds_tied_plain_at .later [] _ _ _ _ over (fun _ h => by cases h) (by kernel_rfl) (fun _ h => by cases h) ballotNext_row_tie rfl ⟨rfl, rfl⟩ (by kernel_rfl) rfl plain (by kernel_rfl)
end Go.Proofs.YthmadcmoendndaaDoor.ballotNext
