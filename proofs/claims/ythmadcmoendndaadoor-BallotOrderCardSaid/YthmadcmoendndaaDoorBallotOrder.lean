/-
  Proved: for every three ballots and every bool the law BallotOrder returns true and leaves its inputs as they were; the card ties the three tables of the library that the row lists to the text of the program. No condition beyond the form itself (each text at most 2^47 - 4096 bytes; the listed tables start as that text lays them).
-/
import Derived.Test.YthmadcmoendndaaDoorBalL
import Derived.Test.YthmadcmoendndaaDoorCards
import Derived.Test.YthmadcmoendndaaDoorTie
import Derived.Deep.DeepHandedRow
import Derived.LaidMore
import Derived.SevenTiedAt
import Derived.WalkKit
import Derived.ProofKit
import Derived.OpenShut
import Derived.ShutString
import Derived.SizedLaws
import Derived.ChangeOld
import Derived.Below
import Derived.Carry
import Derived.Lib.SmallJoins
import Derived.Deep.SlicePairs
import Derived.SliceStrings
namespace Go.Proofs.YthmadcmoendndaaDoor.ballotOrder
open Go.ChangeShapes Go.WideShapes Go.ChangeAt Go.RowKit Go.Joins Go.Deep
open Go.ChangeMaps (open_string shut_string)
set_option linter.unusedVariables false

theorem own : ownKnob Tryd.prog.godebug = none := by kernel_rfl
theorem laidOut : laidOutB Tryd.prog = true := by kernel_rfl

set_option maxRecDepth 100000 in
set_option maxHeartbeats 4000000 in
theorem walk (a0_0 : Int) (a0_1 : Int) (a1_0 : Int) (a1_1 : Int) (a2_0 : Int) (a2_1 : Int) (a3 : Bool) (w : World) (w0_0 : (Lit.int .u32 a0_0).wf = true) (w0_1 : (Lit.int .i64 a0_1).wf = true) (w1_0 : (Lit.int .u32 a1_0).wf = true) (w1_1 : (Lit.int .i64 a1_1).wf = true) (w2_0 : (Lit.int .u32 a2_0).wf = true) (w2_1 : (Lit.int .i64 a2_1).wf = true) (ht : Bl.Tab w) :
    Calls Tryd.prog 6 #[.agg #[.int .u32 a0_0, .int .i64 a0_1], .agg #[.int .u32 a1_0, .int .i64 a1_1], .agg #[.int .u32 a2_0, .int .i64 a2_1], .bool a3] w fun e w' => e = .returned (.bool true) ∧ Below w.heap.size w w' := by
  have q0 : 0 ≤ a0_0 ∧ a0_0 ≤ 4294967295 := by simpa [Lit.wf, IntKind.min, IntKind.max, IntKind.signed, IntKind.bits] using w0_0
  have q1 : 0 ≤ a1_0 ∧ a1_0 ≤ 4294967295 := by simpa [Lit.wf, IntKind.min, IntKind.max, IntKind.signed, IntKind.bits] using w1_0
  have q2 : 0 ≤ a2_0 ∧ a2_0 ≤ 4294967295 := by simpa [Lit.wf, IntKind.min, IntKind.max, IntKind.signed, IntKind.bits] using w2_0
  obtain ⟨q00, q01⟩ := q0
  obtain ⟨q10, q11⟩ := q1
  obtain ⟨q20, q21⟩ := q2
  clear w0_0 w0_1 w1_0 w1_1 w2_0 w2_1
  have htw := ht
  obtain ⟨r1, e1⟩ : ∃ r, (if a3 then a0_0 % 3 else a0_0) = r := ⟨_, rfl⟩
  obtain ⟨r2, e2⟩ : ∃ r, (if a3 then a1_0 % 3 else a1_0) = r := ⟨_, rfl⟩
  obtain ⟨r3, e3⟩ : ∃ r, (if a3 then a2_0 % 3 else a2_0) = r := ⟨_, rfl⟩
  obtain ⟨k, ek⟩ : ∃ k, Bl.orderB r1 a0_1 r2 a1_1 = k := ⟨_, rfl⟩
  obtain ⟨kb, ekb⟩ : ∃ k, Bl.orderB r2 a1_1 r1 a0_1 = k := ⟨_, rfl⟩
  obtain ⟨m, em⟩ : ∃ m, Bl.orderB r2 a1_1 r3 a2_1 = m := ⟨_, rfl⟩
  obtain ⟨n, en⟩ : ∃ n, Bl.orderB r1 a0_1 r3 a2_1 = n := ⟨_, rfl⟩
  obtain ⟨p, ep⟩ : ∃ p, Bl.rightB r1 a0_1 = p := ⟨_, rfl⟩
  obtain ⟨z, ez⟩ : ∃ z, Bl.zeroB r1 a0_1 = z := ⟨_, rfl⟩
  obtain ⟨q, eq⟩ : ∃ q, (k == 0) = q := ⟨_, rfl⟩
  have hneg : (k == -kb) = true := by rw [beq_iff_eq, ← ek, ← ekb, Bl.order_neg r1 a0_1 r2 a1_1]; omega
  have hl := Bl.order_lo r2 a1_1 r1 a0_1
  rw [ekb] at hl
  obtain ⟨hl1, hl2⟩ := hl
  have hq : ∀ W, (binOp .eql 24 (.agg #[.int .u32 r1, .int .i64 a0_1]) (.agg #[.int .u32 r2, .int .i64 a1_1])).run Tryd.prog W = Result.ok (Value.bool q) W := by
    intro W
    rw [Bl.run_eql 24 (.inl rfl), ← eq]
    congr 2
    rw [Bool.eq_iff_iff, beq_iff_eq, ← ek, Bl.order_zero_iff]
    simp
  have hn : decide (0 < k) = false → decide (0 < m) = false → decide (n ≤ 0) = true := by
    intro h1 h2
    rw [decide_eq_false_iff_not] at h1 h2
    rw [decide_eq_true_iff, ← en]
    exact Bl.order_trans r1 a0_1 r2 a1_1 r3 a2_1 (by omega) (by omega)
  have ho : p = true → z = false → Bl.orderB r1 a0_1 0 0 = 1 := by
    intro h1 h2
    exact Bl.order_right _ _ (by rw [ep, h1]) (by rw [ez, h2])
  have K := Lib.hid ek
  have KB := Lib.hid ekb
  have M := Lib.hid em
  have N := Lib.hid en
  have P := Lib.hid ep
  have Z := Lib.hid ez
  have Z0 := Lib.hid (show Bl.zeroB 0 0 = true by decide)
  have HN := Lib.hid hn
  have HO := Lib.hid ho
  clear ek ekb em en ep ez hn ho
  have kways : decide (0 < k) = true ∨ (decide (0 < k) = false ∧ decide (0 < m) = true) ∨ (decide (0 < k) = false ∧ decide (0 < m) = false) := by
    cases decide (0 < k) <;> cases decide (0 < m) <;> simp
  have pways : p = false ∨ (p = true ∧ z = true) ∨ (p = true ∧ z = false) := by
    cases p <;> cases z <;> simp
  have KW := Lib.hid kways
  have PW := Lib.hid pways
  clear kways pways
  cases a3
  · replace e1 : a0_0 = r1 := e1
    replace e2 : a1_0 = r2 := e2
    replace e3 : a2_0 = r3 := e3
    subst e1 e2 e3
    go_enter Tryd.func6, Tryd.ntmps6
    go_wp2_with fail
    have bel' : Below w.heap.size w (((w.alloc (.cells #[.int .u32 a0_0, .int .i64 a0_1] 24)).alloc (.cells #[.int .u32 a1_0, .int .i64 a1_1] 24)).alloc (.cells #[.int .u32 a2_0, .int .i64 a2_1] 24)) := Bl.below_then ((Below.refl _ _)) (Bl.below_3 _ _ _ _) (Nat.le_refl _)
    have k4 := ((Bl.Pair.newAt (w) (.int .u32 a0_0) (.int .i64 a0_1) 24 (w.heap.size) (by simp)).alloc (.cells #[.int .u32 a1_0, .int .i64 a1_1] 24)).alloc (.cells #[.int .u32 a2_0, .int .i64 a2_1] 24)
    have k5 := (Bl.Pair.newAt (w.alloc (.cells #[.int .u32 a0_0, .int .i64 a0_1] 24)) (.int .u32 a1_0) (.int .i64 a1_1) 24 (w.heap.size + 1) (by simp)).alloc (.cells #[.int .u32 a2_0, .int .i64 a2_1] 24)
    have k6 := Bl.Pair.newAt ((w.alloc (.cells #[.int .u32 a0_0, .int .i64 a0_1] 24)).alloc (.cells #[.int .u32 a1_0, .int .i64 a1_1] 24)) (.int .u32 a2_0) (.int .i64 a2_1) 24 (w.heap.size + 1 + 1) (by simp)
    have ht' : Bl.Tab (((w.alloc (.cells #[.int .u32 a0_0, .int .i64 a0_1] 24)).alloc (.cells #[.int .u32 a1_0, .int .i64 a1_1] 24)).alloc (.cells #[.int .u32 a2_0, .int .i64 a2_1] 24)) := Bl.Tab.over (ht) (Bl.below_3 _ _ _ _)
    clear ht
    have ht := ht'; clear ht'
    have bel := bel'; clear bel'
    generalize ((w.alloc (.cells #[.int .u32 a0_0, .int .i64 a0_1] 24)).alloc (.cells #[.int .u32 a1_0, .int .i64 a1_1] 24)).alloc (.cells #[.int .u32 a2_0, .int .i64 a2_1] 24) = X1 at *
    refine (Bl.examples_any _ ht).mono ?_
    rintro e x2 ⟨rfl, hb⟩
    have belb := Bl.below_then bel hb bel.size; clear bel
    have k4b := k4.over hb; clear k4
    have k5b := k5.over hb; clear k5
    have k6b := k6.over hb; clear k6
    have htb := Bl.Tab.over ht hb; clear ht
    clear hb
    have k4 := k4b; clear k4b
    have k5 := k5b; clear k5b
    have k6 := k6b; clear k6b
    have ht := htb; clear htb
    have bel := belb; clear belb
    have ⟨k4_0, k4_1, k4_2, k4_3, k4_4⟩ := k4
    have ⟨k5_0, k5_1, k5_2, k5_3, k5_4⟩ := k5
    have ⟨k6_0, k6_1, k6_2, k6_3, k6_4⟩ := k6
    go_wp2_with fail
    refine (Bl.order_any a0_0 a0_1 a1_0 a1_1 k K.out _).mono ?_
    rintro e x3 ⟨rfl, hb⟩
    have belb := Bl.below_then bel hb bel.size; clear bel
    clear k4_0 k4_1 k4_2 k4_3 k4_4 k5_0 k5_1 k5_2 k5_3 k5_4 k6_0 k6_1 k6_2 k6_3 k6_4
    have k4b := k4.over hb; clear k4
    have k5b := k5.over hb; clear k5
    have k6b := k6.over hb; clear k6
    have htb := Bl.Tab.over ht hb; clear ht
    clear hb
    have k4 := k4b; clear k4b
    have k5 := k5b; clear k5b
    have k6 := k6b; clear k6b
    have ht := htb; clear htb
    have bel := belb; clear belb
    have ⟨k4_0, k4_1, k4_2, k4_3, k4_4⟩ := k4
    have ⟨k5_0, k5_1, k5_2, k5_3, k5_4⟩ := k5
    have ⟨k6_0, k6_1, k6_2, k6_3, k6_4⟩ := k6
    go_wp2_with fail
    have bel' : Below w.heap.size w (x3.alloc (.cells #[.int .u32 0, .int .i64 0] 24)) := Bl.below_then ((bel)) (Bl.below_1 _ _) bel.size
    have k4' := (k4).alloc (.cells #[.int .u32 0, .int .i64 0] 24)
    have k5' := (k5).alloc (.cells #[.int .u32 0, .int .i64 0] 24)
    have k6' := (k6).alloc (.cells #[.int .u32 0, .int .i64 0] 24)
    have k11 := Bl.Pair.newAt (x3) (.int .u32 0) (.int .i64 0) 24 (x3.heap.size) (by simp)
    have ht' : Bl.Tab (x3.alloc (.cells #[.int .u32 0, .int .i64 0] 24)) := Bl.Tab.over (ht) (Bl.below_1 _ _)
    clear k4_0 k4_1 k4_2 k4_3 k4_4 k5_0 k5_1 k5_2 k5_3 k5_4 k6_0 k6_1 k6_2 k6_3 k6_4
    clear bel k4 k5 k6 ht
    have k4 := k4'; clear k4'
    have k5 := k5'; clear k5'
    have k6 := k6'; clear k6'
    have ht := ht'; clear ht'
    have bel := bel'; clear bel'
    generalize x3.alloc (.cells #[.int .u32 0, .int .i64 0] 24) = X4 at *
    generalize x3.heap.size = g4 at *
    refine (Bl.right_any a0_0 a0_1 p P.out _).mono ?_
    rintro e x5 ⟨rfl, hb⟩
    have belb := Bl.below_then bel hb bel.size; clear bel
    have k4b := k4.over hb; clear k4
    have k5b := k5.over hb; clear k5
    have k6b := k6.over hb; clear k6
    have k11b := k11.over hb; clear k11
    have htb := Bl.Tab.over ht hb; clear ht
    clear hb
    have k4 := k4b; clear k4b
    have k5 := k5b; clear k5b
    have k6 := k6b; clear k6b
    have k11 := k11b; clear k11b
    have ht := htb; clear htb
    have bel := belb; clear belb
    have ⟨k4_0, k4_1, k4_2, k4_3, k4_4⟩ := k4
    have ⟨k5_0, k5_1, k5_2, k5_3, k5_4⟩ := k5
    have ⟨k6_0, k6_1, k6_2, k6_3, k6_4⟩ := k6
    have ⟨k11_0, k11_1, k11_2, k11_3, k11_4⟩ := k11
    go_wp2_with fail
    rcases KW.out with k1 | ⟨k1, k2⟩ | ⟨k1, k2⟩
    · refine (Bl.order_any a1_0 a1_1 a0_0 a0_1 kb KB.out _).mono ?_
      rintro e x6 ⟨rfl, hb⟩
      have belb := Bl.below_then bel hb bel.size; clear bel
      clear k4_0 k4_1 k4_2 k4_3 k4_4 k5_0 k5_1 k5_2 k5_3 k5_4 k6_0 k6_1 k6_2 k6_3 k6_4 k11_0 k11_1 k11_2 k11_3 k11_4
      have k4b := k4.over hb; clear k4
      have k5b := k5.over hb; clear k5
      have k6b := k6.over hb; clear k6
      have k11b := k11.over hb; clear k11
      have htb := Bl.Tab.over ht hb; clear ht
      clear hb
      have k4 := k4b; clear k4b
      have k5 := k5b; clear k5b
      have k6 := k6b; clear k6b
      have k11 := k11b; clear k11b
      have ht := htb; clear htb
      have bel := belb; clear belb
      have ⟨k4_0, k4_1, k4_2, k4_3, k4_4⟩ := k4
      have ⟨k5_0, k5_1, k5_2, k5_3, k5_4⟩ := k5
      have ⟨k6_0, k6_1, k6_2, k6_3, k6_4⟩ := k6
      have ⟨k11_0, k11_1, k11_2, k11_3, k11_4⟩ := k11
      rcases PW.out with rfl | ⟨rfl, rfl⟩ | ⟨rfl, rfl⟩
      · go_wp2_with fail
        refine (Bl.zero_any 0 0 true Z0.out _).mono ?_
        rintro e x7 ⟨rfl, hb⟩
        have belb := Bl.below_then bel hb bel.size; clear bel
        clear k4_0 k4_1 k4_2 k4_3 k4_4 k5_0 k5_1 k5_2 k5_3 k5_4 k6_0 k6_1 k6_2 k6_3 k6_4 k11_0 k11_1 k11_2 k11_3 k11_4
        have k4b := k4.over hb; clear k4
        have k5b := k5.over hb; clear k5
        have k6b := k6.over hb; clear k6
        have k11b := k11.over hb; clear k11
        have htb := Bl.Tab.over ht hb; clear ht
        clear hb
        have k4 := k4b; clear k4b
        have k5 := k5b; clear k5b
        have k6 := k6b; clear k6b
        have k11 := k11b; clear k11b
        have ht := htb; clear htb
        have bel := belb; clear belb
        go_wp2
        go_ret
        exact ⟨rfl, bel⟩
      · go_wp2_with fail
        refine (Bl.zero_any a0_0 a0_1 true Z.out _).mono ?_
        rintro e x7 ⟨rfl, hb⟩
        have belb := Bl.below_then bel hb bel.size; clear bel
        clear k4_0 k4_1 k4_2 k4_3 k4_4 k5_0 k5_1 k5_2 k5_3 k5_4 k6_0 k6_1 k6_2 k6_3 k6_4 k11_0 k11_1 k11_2 k11_3 k11_4
        have k4b := k4.over hb; clear k4
        have k5b := k5.over hb; clear k5
        have k6b := k6.over hb; clear k6
        have k11b := k11.over hb; clear k11
        have htb := Bl.Tab.over ht hb; clear ht
        clear hb
        have k4 := k4b; clear k4b
        have k5 := k5b; clear k5b
        have k6 := k6b; clear k6b
        have k11 := k11b; clear k11b
        have ht := htb; clear htb
        have bel := belb; clear belb
        have ⟨k4_0, k4_1, k4_2, k4_3, k4_4⟩ := k4
        have ⟨k5_0, k5_1, k5_2, k5_3, k5_4⟩ := k5
        have ⟨k6_0, k6_1, k6_2, k6_3, k6_4⟩ := k6
        have ⟨k11_0, k11_1, k11_2, k11_3, k11_4⟩ := k11
        go_wp2_with fail
        refine (Bl.zero_any 0 0 true Z0.out _).mono ?_
        rintro e x8 ⟨rfl, hb⟩
        have belb := Bl.below_then bel hb bel.size; clear bel
        clear k4_0 k4_1 k4_2 k4_3 k4_4 k5_0 k5_1 k5_2 k5_3 k5_4 k6_0 k6_1 k6_2 k6_3 k6_4 k11_0 k11_1 k11_2 k11_3 k11_4
        have k4b := k4.over hb; clear k4
        have k5b := k5.over hb; clear k5
        have k6b := k6.over hb; clear k6
        have k11b := k11.over hb; clear k11
        have htb := Bl.Tab.over ht hb; clear ht
        clear hb
        have k4 := k4b; clear k4b
        have k5 := k5b; clear k5b
        have k6 := k6b; clear k6b
        have k11 := k11b; clear k11b
        have ht := htb; clear htb
        have bel := belb; clear belb
        go_wp2
        go_ret
        exact ⟨rfl, bel⟩
      · have k4e := HO.out rfl rfl; have KO := Lib.hid k4e; clear k4e
        go_wp2_with fail
        refine (Bl.zero_any a0_0 a0_1 false Z.out _).mono ?_
        rintro e x7 ⟨rfl, hb⟩
        have belb := Bl.below_then bel hb bel.size; clear bel
        clear k4_0 k4_1 k4_2 k4_3 k4_4 k5_0 k5_1 k5_2 k5_3 k5_4 k6_0 k6_1 k6_2 k6_3 k6_4 k11_0 k11_1 k11_2 k11_3 k11_4
        have k4b := k4.over hb; clear k4
        have k5b := k5.over hb; clear k5
        have k6b := k6.over hb; clear k6
        have k11b := k11.over hb; clear k11
        have htb := Bl.Tab.over ht hb; clear ht
        clear hb
        have k4 := k4b; clear k4b
        have k5 := k5b; clear k5b
        have k6 := k6b; clear k6b
        have k11 := k11b; clear k11b
        have ht := htb; clear htb
        have bel := belb; clear belb
        have ⟨k4_0, k4_1, k4_2, k4_3, k4_4⟩ := k4
        have ⟨k5_0, k5_1, k5_2, k5_3, k5_4⟩ := k5
        have ⟨k6_0, k6_1, k6_2, k6_3, k6_4⟩ := k6
        have ⟨k11_0, k11_1, k11_2, k11_3, k11_4⟩ := k11
        go_wp2_with fail
        refine (Bl.order_any a0_0 a0_1 0 0 1 KO.out _).mono ?_
        rintro e x8 ⟨rfl, hb⟩
        have belb := Bl.below_then bel hb bel.size; clear bel
        clear k4_0 k4_1 k4_2 k4_3 k4_4 k5_0 k5_1 k5_2 k5_3 k5_4 k6_0 k6_1 k6_2 k6_3 k6_4 k11_0 k11_1 k11_2 k11_3 k11_4
        have k4b := k4.over hb; clear k4
        have k5b := k5.over hb; clear k5
        have k6b := k6.over hb; clear k6
        have k11b := k11.over hb; clear k11
        have htb := Bl.Tab.over ht hb; clear ht
        clear hb
        have k4 := k4b; clear k4b
        have k5 := k5b; clear k5b
        have k6 := k6b; clear k6b
        have k11 := k11b; clear k11b
        have ht := htb; clear htb
        have bel := belb; clear belb
        have ⟨k4_0, k4_1, k4_2, k4_3, k4_4⟩ := k4
        have ⟨k5_0, k5_1, k5_2, k5_3, k5_4⟩ := k5
        have ⟨k6_0, k6_1, k6_2, k6_3, k6_4⟩ := k6
        have ⟨k11_0, k11_1, k11_2, k11_3, k11_4⟩ := k11
        go_wp2_with fail
        refine (Bl.zero_any 0 0 true Z0.out _).mono ?_
        rintro e x9 ⟨rfl, hb⟩
        have belb := Bl.below_then bel hb bel.size; clear bel
        clear k4_0 k4_1 k4_2 k4_3 k4_4 k5_0 k5_1 k5_2 k5_3 k5_4 k6_0 k6_1 k6_2 k6_3 k6_4 k11_0 k11_1 k11_2 k11_3 k11_4
        have k4b := k4.over hb; clear k4
        have k5b := k5.over hb; clear k5
        have k6b := k6.over hb; clear k6
        have k11b := k11.over hb; clear k11
        have htb := Bl.Tab.over ht hb; clear ht
        clear hb
        have k4 := k4b; clear k4b
        have k5 := k5b; clear k5b
        have k6 := k6b; clear k6b
        have k11 := k11b; clear k11b
        have ht := htb; clear htb
        have bel := belb; clear belb
        go_wp2
        go_ret
        exact ⟨rfl, bel⟩
    · refine (Bl.order_any a1_0 a1_1 a0_0 a0_1 kb KB.out _).mono ?_
      rintro e x6 ⟨rfl, hb⟩
      have belb := Bl.below_then bel hb bel.size; clear bel
      clear k4_0 k4_1 k4_2 k4_3 k4_4 k5_0 k5_1 k5_2 k5_3 k5_4 k6_0 k6_1 k6_2 k6_3 k6_4 k11_0 k11_1 k11_2 k11_3 k11_4
      have k4b := k4.over hb; clear k4
      have k5b := k5.over hb; clear k5
      have k6b := k6.over hb; clear k6
      have k11b := k11.over hb; clear k11
      have htb := Bl.Tab.over ht hb; clear ht
      clear hb
      have k4 := k4b; clear k4b
      have k5 := k5b; clear k5b
      have k6 := k6b; clear k6b
      have k11 := k11b; clear k11b
      have ht := htb; clear htb
      have bel := belb; clear belb
      have ⟨k4_0, k4_1, k4_2, k4_3, k4_4⟩ := k4
      have ⟨k5_0, k5_1, k5_2, k5_3, k5_4⟩ := k5
      have ⟨k6_0, k6_1, k6_2, k6_3, k6_4⟩ := k6
      have ⟨k11_0, k11_1, k11_2, k11_3, k11_4⟩ := k11
      rcases PW.out with rfl | ⟨rfl, rfl⟩ | ⟨rfl, rfl⟩
      · go_wp2_with fail
        refine (Bl.order_any a1_0 a1_1 a2_0 a2_1 m M.out _).mono ?_
        rintro e x7 ⟨rfl, hb⟩
        have belb := Bl.below_then bel hb bel.size; clear bel
        clear k4_0 k4_1 k4_2 k4_3 k4_4 k5_0 k5_1 k5_2 k5_3 k5_4 k6_0 k6_1 k6_2 k6_3 k6_4 k11_0 k11_1 k11_2 k11_3 k11_4
        have k4b := k4.over hb; clear k4
        have k5b := k5.over hb; clear k5
        have k6b := k6.over hb; clear k6
        have k11b := k11.over hb; clear k11
        have htb := Bl.Tab.over ht hb; clear ht
        clear hb
        have k4 := k4b; clear k4b
        have k5 := k5b; clear k5b
        have k6 := k6b; clear k6b
        have k11 := k11b; clear k11b
        have ht := htb; clear htb
        have bel := belb; clear belb
        have ⟨k4_0, k4_1, k4_2, k4_3, k4_4⟩ := k4
        have ⟨k5_0, k5_1, k5_2, k5_3, k5_4⟩ := k5
        have ⟨k6_0, k6_1, k6_2, k6_3, k6_4⟩ := k6
        have ⟨k11_0, k11_1, k11_2, k11_3, k11_4⟩ := k11
        go_wp2_with fail
        refine (Bl.zero_any 0 0 true Z0.out _).mono ?_
        rintro e x8 ⟨rfl, hb⟩
        have belb := Bl.below_then bel hb bel.size; clear bel
        clear k4_0 k4_1 k4_2 k4_3 k4_4 k5_0 k5_1 k5_2 k5_3 k5_4 k6_0 k6_1 k6_2 k6_3 k6_4 k11_0 k11_1 k11_2 k11_3 k11_4
        have k4b := k4.over hb; clear k4
        have k5b := k5.over hb; clear k5
        have k6b := k6.over hb; clear k6
        have k11b := k11.over hb; clear k11
        have htb := Bl.Tab.over ht hb; clear ht
        clear hb
        have k4 := k4b; clear k4b
        have k5 := k5b; clear k5b
        have k6 := k6b; clear k6b
        have k11 := k11b; clear k11b
        have ht := htb; clear htb
        have bel := belb; clear belb
        go_wp2
        go_ret
        exact ⟨rfl, bel⟩
      · go_wp2_with fail
        refine (Bl.order_any a1_0 a1_1 a2_0 a2_1 m M.out _).mono ?_
        rintro e x7 ⟨rfl, hb⟩
        have belb := Bl.below_then bel hb bel.size; clear bel
        clear k4_0 k4_1 k4_2 k4_3 k4_4 k5_0 k5_1 k5_2 k5_3 k5_4 k6_0 k6_1 k6_2 k6_3 k6_4 k11_0 k11_1 k11_2 k11_3 k11_4
        have k4b := k4.over hb; clear k4
        have k5b := k5.over hb; clear k5
        have k6b := k6.over hb; clear k6
        have k11b := k11.over hb; clear k11
        have htb := Bl.Tab.over ht hb; clear ht
        clear hb
        have k4 := k4b; clear k4b
        have k5 := k5b; clear k5b
        have k6 := k6b; clear k6b
        have k11 := k11b; clear k11b
        have ht := htb; clear htb
        have bel := belb; clear belb
        have ⟨k4_0, k4_1, k4_2, k4_3, k4_4⟩ := k4
        have ⟨k5_0, k5_1, k5_2, k5_3, k5_4⟩ := k5
        have ⟨k6_0, k6_1, k6_2, k6_3, k6_4⟩ := k6
        have ⟨k11_0, k11_1, k11_2, k11_3, k11_4⟩ := k11
        go_wp2_with fail
        refine (Bl.zero_any a0_0 a0_1 true Z.out _).mono ?_
        rintro e x8 ⟨rfl, hb⟩
        have belb := Bl.below_then bel hb bel.size; clear bel
        clear k4_0 k4_1 k4_2 k4_3 k4_4 k5_0 k5_1 k5_2 k5_3 k5_4 k6_0 k6_1 k6_2 k6_3 k6_4 k11_0 k11_1 k11_2 k11_3 k11_4
        have k4b := k4.over hb; clear k4
        have k5b := k5.over hb; clear k5
        have k6b := k6.over hb; clear k6
        have k11b := k11.over hb; clear k11
        have htb := Bl.Tab.over ht hb; clear ht
        clear hb
        have k4 := k4b; clear k4b
        have k5 := k5b; clear k5b
        have k6 := k6b; clear k6b
        have k11 := k11b; clear k11b
        have ht := htb; clear htb
        have bel := belb; clear belb
        have ⟨k4_0, k4_1, k4_2, k4_3, k4_4⟩ := k4
        have ⟨k5_0, k5_1, k5_2, k5_3, k5_4⟩ := k5
        have ⟨k6_0, k6_1, k6_2, k6_3, k6_4⟩ := k6
        have ⟨k11_0, k11_1, k11_2, k11_3, k11_4⟩ := k11
        go_wp2_with fail
        refine (Bl.zero_any 0 0 true Z0.out _).mono ?_
        rintro e x9 ⟨rfl, hb⟩
        have belb := Bl.below_then bel hb bel.size; clear bel
        clear k4_0 k4_1 k4_2 k4_3 k4_4 k5_0 k5_1 k5_2 k5_3 k5_4 k6_0 k6_1 k6_2 k6_3 k6_4 k11_0 k11_1 k11_2 k11_3 k11_4
        have k4b := k4.over hb; clear k4
        have k5b := k5.over hb; clear k5
        have k6b := k6.over hb; clear k6
        have k11b := k11.over hb; clear k11
        have htb := Bl.Tab.over ht hb; clear ht
        clear hb
        have k4 := k4b; clear k4b
        have k5 := k5b; clear k5b
        have k6 := k6b; clear k6b
        have k11 := k11b; clear k11b
        have ht := htb; clear htb
        have bel := belb; clear belb
        go_wp2
        go_ret
        exact ⟨rfl, bel⟩
      · have k4e := HO.out rfl rfl; have KO := Lib.hid k4e; clear k4e
        go_wp2_with fail
        refine (Bl.order_any a1_0 a1_1 a2_0 a2_1 m M.out _).mono ?_
        rintro e x7 ⟨rfl, hb⟩
        have belb := Bl.below_then bel hb bel.size; clear bel
        clear k4_0 k4_1 k4_2 k4_3 k4_4 k5_0 k5_1 k5_2 k5_3 k5_4 k6_0 k6_1 k6_2 k6_3 k6_4 k11_0 k11_1 k11_2 k11_3 k11_4
        have k4b := k4.over hb; clear k4
        have k5b := k5.over hb; clear k5
        have k6b := k6.over hb; clear k6
        have k11b := k11.over hb; clear k11
        have htb := Bl.Tab.over ht hb; clear ht
        clear hb
        have k4 := k4b; clear k4b
        have k5 := k5b; clear k5b
        have k6 := k6b; clear k6b
        have k11 := k11b; clear k11b
        have ht := htb; clear htb
        have bel := belb; clear belb
        have ⟨k4_0, k4_1, k4_2, k4_3, k4_4⟩ := k4
        have ⟨k5_0, k5_1, k5_2, k5_3, k5_4⟩ := k5
        have ⟨k6_0, k6_1, k6_2, k6_3, k6_4⟩ := k6
        have ⟨k11_0, k11_1, k11_2, k11_3, k11_4⟩ := k11
        go_wp2_with fail
        refine (Bl.zero_any a0_0 a0_1 false Z.out _).mono ?_
        rintro e x8 ⟨rfl, hb⟩
        have belb := Bl.below_then bel hb bel.size; clear bel
        clear k4_0 k4_1 k4_2 k4_3 k4_4 k5_0 k5_1 k5_2 k5_3 k5_4 k6_0 k6_1 k6_2 k6_3 k6_4 k11_0 k11_1 k11_2 k11_3 k11_4
        have k4b := k4.over hb; clear k4
        have k5b := k5.over hb; clear k5
        have k6b := k6.over hb; clear k6
        have k11b := k11.over hb; clear k11
        have htb := Bl.Tab.over ht hb; clear ht
        clear hb
        have k4 := k4b; clear k4b
        have k5 := k5b; clear k5b
        have k6 := k6b; clear k6b
        have k11 := k11b; clear k11b
        have ht := htb; clear htb
        have bel := belb; clear belb
        have ⟨k4_0, k4_1, k4_2, k4_3, k4_4⟩ := k4
        have ⟨k5_0, k5_1, k5_2, k5_3, k5_4⟩ := k5
        have ⟨k6_0, k6_1, k6_2, k6_3, k6_4⟩ := k6
        have ⟨k11_0, k11_1, k11_2, k11_3, k11_4⟩ := k11
        go_wp2_with fail
        refine (Bl.order_any a0_0 a0_1 0 0 1 KO.out _).mono ?_
        rintro e x9 ⟨rfl, hb⟩
        have belb := Bl.below_then bel hb bel.size; clear bel
        clear k4_0 k4_1 k4_2 k4_3 k4_4 k5_0 k5_1 k5_2 k5_3 k5_4 k6_0 k6_1 k6_2 k6_3 k6_4 k11_0 k11_1 k11_2 k11_3 k11_4
        have k4b := k4.over hb; clear k4
        have k5b := k5.over hb; clear k5
        have k6b := k6.over hb; clear k6
        have k11b := k11.over hb; clear k11
        have htb := Bl.Tab.over ht hb; clear ht
        clear hb
        have k4 := k4b; clear k4b
        have k5 := k5b; clear k5b
        have k6 := k6b; clear k6b
        have k11 := k11b; clear k11b
        have ht := htb; clear htb
        have bel := belb; clear belb
        have ⟨k4_0, k4_1, k4_2, k4_3, k4_4⟩ := k4
        have ⟨k5_0, k5_1, k5_2, k5_3, k5_4⟩ := k5
        have ⟨k6_0, k6_1, k6_2, k6_3, k6_4⟩ := k6
        have ⟨k11_0, k11_1, k11_2, k11_3, k11_4⟩ := k11
        go_wp2_with fail
        refine (Bl.zero_any 0 0 true Z0.out _).mono ?_
        rintro e x10 ⟨rfl, hb⟩
        have belb := Bl.below_then bel hb bel.size; clear bel
        clear k4_0 k4_1 k4_2 k4_3 k4_4 k5_0 k5_1 k5_2 k5_3 k5_4 k6_0 k6_1 k6_2 k6_3 k6_4 k11_0 k11_1 k11_2 k11_3 k11_4
        have k4b := k4.over hb; clear k4
        have k5b := k5.over hb; clear k5
        have k6b := k6.over hb; clear k6
        have k11b := k11.over hb; clear k11
        have htb := Bl.Tab.over ht hb; clear ht
        clear hb
        have k4 := k4b; clear k4b
        have k5 := k5b; clear k5b
        have k6 := k6b; clear k6b
        have k11 := k11b; clear k11b
        have ht := htb; clear htb
        have bel := belb; clear belb
        go_wp2
        go_ret
        exact ⟨rfl, bel⟩
    · have k3 := HN.out k1 k2
      refine (Bl.order_any a1_0 a1_1 a0_0 a0_1 kb KB.out _).mono ?_
      rintro e x6 ⟨rfl, hb⟩
      have belb := Bl.below_then bel hb bel.size; clear bel
      clear k4_0 k4_1 k4_2 k4_3 k4_4 k5_0 k5_1 k5_2 k5_3 k5_4 k6_0 k6_1 k6_2 k6_3 k6_4 k11_0 k11_1 k11_2 k11_3 k11_4
      have k4b := k4.over hb; clear k4
      have k5b := k5.over hb; clear k5
      have k6b := k6.over hb; clear k6
      have k11b := k11.over hb; clear k11
      have htb := Bl.Tab.over ht hb; clear ht
      clear hb
      have k4 := k4b; clear k4b
      have k5 := k5b; clear k5b
      have k6 := k6b; clear k6b
      have k11 := k11b; clear k11b
      have ht := htb; clear htb
      have bel := belb; clear belb
      have ⟨k4_0, k4_1, k4_2, k4_3, k4_4⟩ := k4
      have ⟨k5_0, k5_1, k5_2, k5_3, k5_4⟩ := k5
      have ⟨k6_0, k6_1, k6_2, k6_3, k6_4⟩ := k6
      have ⟨k11_0, k11_1, k11_2, k11_3, k11_4⟩ := k11
      rcases PW.out with rfl | ⟨rfl, rfl⟩ | ⟨rfl, rfl⟩
      · go_wp2_with fail
        refine (Bl.order_any a1_0 a1_1 a2_0 a2_1 m M.out _).mono ?_
        rintro e x7 ⟨rfl, hb⟩
        have belb := Bl.below_then bel hb bel.size; clear bel
        clear k4_0 k4_1 k4_2 k4_3 k4_4 k5_0 k5_1 k5_2 k5_3 k5_4 k6_0 k6_1 k6_2 k6_3 k6_4 k11_0 k11_1 k11_2 k11_3 k11_4
        have k4b := k4.over hb; clear k4
        have k5b := k5.over hb; clear k5
        have k6b := k6.over hb; clear k6
        have k11b := k11.over hb; clear k11
        have htb := Bl.Tab.over ht hb; clear ht
        clear hb
        have k4 := k4b; clear k4b
        have k5 := k5b; clear k5b
        have k6 := k6b; clear k6b
        have k11 := k11b; clear k11b
        have ht := htb; clear htb
        have bel := belb; clear belb
        have ⟨k4_0, k4_1, k4_2, k4_3, k4_4⟩ := k4
        have ⟨k5_0, k5_1, k5_2, k5_3, k5_4⟩ := k5
        have ⟨k6_0, k6_1, k6_2, k6_3, k6_4⟩ := k6
        have ⟨k11_0, k11_1, k11_2, k11_3, k11_4⟩ := k11
        go_wp2_with fail
        refine (Bl.order_any a0_0 a0_1 a2_0 a2_1 n N.out _).mono ?_
        rintro e x8 ⟨rfl, hb⟩
        have belb := Bl.below_then bel hb bel.size; clear bel
        clear k4_0 k4_1 k4_2 k4_3 k4_4 k5_0 k5_1 k5_2 k5_3 k5_4 k6_0 k6_1 k6_2 k6_3 k6_4 k11_0 k11_1 k11_2 k11_3 k11_4
        have k4b := k4.over hb; clear k4
        have k5b := k5.over hb; clear k5
        have k6b := k6.over hb; clear k6
        have k11b := k11.over hb; clear k11
        have htb := Bl.Tab.over ht hb; clear ht
        clear hb
        have k4 := k4b; clear k4b
        have k5 := k5b; clear k5b
        have k6 := k6b; clear k6b
        have k11 := k11b; clear k11b
        have ht := htb; clear htb
        have bel := belb; clear belb
        have ⟨k4_0, k4_1, k4_2, k4_3, k4_4⟩ := k4
        have ⟨k5_0, k5_1, k5_2, k5_3, k5_4⟩ := k5
        have ⟨k6_0, k6_1, k6_2, k6_3, k6_4⟩ := k6
        have ⟨k11_0, k11_1, k11_2, k11_3, k11_4⟩ := k11
        go_wp2_with fail
        refine (Bl.zero_any 0 0 true Z0.out _).mono ?_
        rintro e x9 ⟨rfl, hb⟩
        have belb := Bl.below_then bel hb bel.size; clear bel
        clear k4_0 k4_1 k4_2 k4_3 k4_4 k5_0 k5_1 k5_2 k5_3 k5_4 k6_0 k6_1 k6_2 k6_3 k6_4 k11_0 k11_1 k11_2 k11_3 k11_4
        have k4b := k4.over hb; clear k4
        have k5b := k5.over hb; clear k5
        have k6b := k6.over hb; clear k6
        have k11b := k11.over hb; clear k11
        have htb := Bl.Tab.over ht hb; clear ht
        clear hb
        have k4 := k4b; clear k4b
        have k5 := k5b; clear k5b
        have k6 := k6b; clear k6b
        have k11 := k11b; clear k11b
        have ht := htb; clear htb
        have bel := belb; clear belb
        go_wp2
        go_ret
        exact ⟨rfl, bel⟩
      · go_wp2_with fail
        refine (Bl.order_any a1_0 a1_1 a2_0 a2_1 m M.out _).mono ?_
        rintro e x7 ⟨rfl, hb⟩
        have belb := Bl.below_then bel hb bel.size; clear bel
        clear k4_0 k4_1 k4_2 k4_3 k4_4 k5_0 k5_1 k5_2 k5_3 k5_4 k6_0 k6_1 k6_2 k6_3 k6_4 k11_0 k11_1 k11_2 k11_3 k11_4
        have k4b := k4.over hb; clear k4
        have k5b := k5.over hb; clear k5
        have k6b := k6.over hb; clear k6
        have k11b := k11.over hb; clear k11
        have htb := Bl.Tab.over ht hb; clear ht
        clear hb
        have k4 := k4b; clear k4b
        have k5 := k5b; clear k5b
        have k6 := k6b; clear k6b
        have k11 := k11b; clear k11b
        have ht := htb; clear htb
        have bel := belb; clear belb
        have ⟨k4_0, k4_1, k4_2, k4_3, k4_4⟩ := k4
        have ⟨k5_0, k5_1, k5_2, k5_3, k5_4⟩ := k5
        have ⟨k6_0, k6_1, k6_2, k6_3, k6_4⟩ := k6
        have ⟨k11_0, k11_1, k11_2, k11_3, k11_4⟩ := k11
        go_wp2_with fail
        refine (Bl.order_any a0_0 a0_1 a2_0 a2_1 n N.out _).mono ?_
        rintro e x8 ⟨rfl, hb⟩
        have belb := Bl.below_then bel hb bel.size; clear bel
        clear k4_0 k4_1 k4_2 k4_3 k4_4 k5_0 k5_1 k5_2 k5_3 k5_4 k6_0 k6_1 k6_2 k6_3 k6_4 k11_0 k11_1 k11_2 k11_3 k11_4
        have k4b := k4.over hb; clear k4
        have k5b := k5.over hb; clear k5
        have k6b := k6.over hb; clear k6
        have k11b := k11.over hb; clear k11
        have htb := Bl.Tab.over ht hb; clear ht
        clear hb
        have k4 := k4b; clear k4b
        have k5 := k5b; clear k5b
        have k6 := k6b; clear k6b
        have k11 := k11b; clear k11b
        have ht := htb; clear htb
        have bel := belb; clear belb
        have ⟨k4_0, k4_1, k4_2, k4_3, k4_4⟩ := k4
        have ⟨k5_0, k5_1, k5_2, k5_3, k5_4⟩ := k5
        have ⟨k6_0, k6_1, k6_2, k6_3, k6_4⟩ := k6
        have ⟨k11_0, k11_1, k11_2, k11_3, k11_4⟩ := k11
        go_wp2_with fail
        refine (Bl.zero_any a0_0 a0_1 true Z.out _).mono ?_
        rintro e x9 ⟨rfl, hb⟩
        have belb := Bl.below_then bel hb bel.size; clear bel
        clear k4_0 k4_1 k4_2 k4_3 k4_4 k5_0 k5_1 k5_2 k5_3 k5_4 k6_0 k6_1 k6_2 k6_3 k6_4 k11_0 k11_1 k11_2 k11_3 k11_4
        have k4b := k4.over hb; clear k4
        have k5b := k5.over hb; clear k5
        have k6b := k6.over hb; clear k6
        have k11b := k11.over hb; clear k11
        have htb := Bl.Tab.over ht hb; clear ht
        clear hb
        have k4 := k4b; clear k4b
        have k5 := k5b; clear k5b
        have k6 := k6b; clear k6b
        have k11 := k11b; clear k11b
        have ht := htb; clear htb
        have bel := belb; clear belb
        have ⟨k4_0, k4_1, k4_2, k4_3, k4_4⟩ := k4
        have ⟨k5_0, k5_1, k5_2, k5_3, k5_4⟩ := k5
        have ⟨k6_0, k6_1, k6_2, k6_3, k6_4⟩ := k6
        have ⟨k11_0, k11_1, k11_2, k11_3, k11_4⟩ := k11
        go_wp2_with fail
        refine (Bl.zero_any 0 0 true Z0.out _).mono ?_
        rintro e x10 ⟨rfl, hb⟩
        have belb := Bl.below_then bel hb bel.size; clear bel
        clear k4_0 k4_1 k4_2 k4_3 k4_4 k5_0 k5_1 k5_2 k5_3 k5_4 k6_0 k6_1 k6_2 k6_3 k6_4 k11_0 k11_1 k11_2 k11_3 k11_4
        have k4b := k4.over hb; clear k4
        have k5b := k5.over hb; clear k5
        have k6b := k6.over hb; clear k6
        have k11b := k11.over hb; clear k11
        have htb := Bl.Tab.over ht hb; clear ht
        clear hb
        have k4 := k4b; clear k4b
        have k5 := k5b; clear k5b
        have k6 := k6b; clear k6b
        have k11 := k11b; clear k11b
        have ht := htb; clear htb
        have bel := belb; clear belb
        go_wp2
        go_ret
        exact ⟨rfl, bel⟩
      · have k4e := HO.out rfl rfl; have KO := Lib.hid k4e; clear k4e
        go_wp2_with fail
        refine (Bl.order_any a1_0 a1_1 a2_0 a2_1 m M.out _).mono ?_
        rintro e x7 ⟨rfl, hb⟩
        have belb := Bl.below_then bel hb bel.size; clear bel
        clear k4_0 k4_1 k4_2 k4_3 k4_4 k5_0 k5_1 k5_2 k5_3 k5_4 k6_0 k6_1 k6_2 k6_3 k6_4 k11_0 k11_1 k11_2 k11_3 k11_4
        have k4b := k4.over hb; clear k4
        have k5b := k5.over hb; clear k5
        have k6b := k6.over hb; clear k6
        have k11b := k11.over hb; clear k11
        have htb := Bl.Tab.over ht hb; clear ht
        clear hb
        have k4 := k4b; clear k4b
        have k5 := k5b; clear k5b
        have k6 := k6b; clear k6b
        have k11 := k11b; clear k11b
        have ht := htb; clear htb
        have bel := belb; clear belb
        have ⟨k4_0, k4_1, k4_2, k4_3, k4_4⟩ := k4
        have ⟨k5_0, k5_1, k5_2, k5_3, k5_4⟩ := k5
        have ⟨k6_0, k6_1, k6_2, k6_3, k6_4⟩ := k6
        have ⟨k11_0, k11_1, k11_2, k11_3, k11_4⟩ := k11
        go_wp2_with fail
        refine (Bl.order_any a0_0 a0_1 a2_0 a2_1 n N.out _).mono ?_
        rintro e x8 ⟨rfl, hb⟩
        have belb := Bl.below_then bel hb bel.size; clear bel
        clear k4_0 k4_1 k4_2 k4_3 k4_4 k5_0 k5_1 k5_2 k5_3 k5_4 k6_0 k6_1 k6_2 k6_3 k6_4 k11_0 k11_1 k11_2 k11_3 k11_4
        have k4b := k4.over hb; clear k4
        have k5b := k5.over hb; clear k5
        have k6b := k6.over hb; clear k6
        have k11b := k11.over hb; clear k11
        have htb := Bl.Tab.over ht hb; clear ht
        clear hb
        have k4 := k4b; clear k4b
        have k5 := k5b; clear k5b
        have k6 := k6b; clear k6b
        have k11 := k11b; clear k11b
        have ht := htb; clear htb
        have bel := belb; clear belb
        have ⟨k4_0, k4_1, k4_2, k4_3, k4_4⟩ := k4
        have ⟨k5_0, k5_1, k5_2, k5_3, k5_4⟩ := k5
        have ⟨k6_0, k6_1, k6_2, k6_3, k6_4⟩ := k6
        have ⟨k11_0, k11_1, k11_2, k11_3, k11_4⟩ := k11
        go_wp2_with fail
        refine (Bl.zero_any a0_0 a0_1 false Z.out _).mono ?_
        rintro e x9 ⟨rfl, hb⟩
        have belb := Bl.below_then bel hb bel.size; clear bel
        clear k4_0 k4_1 k4_2 k4_3 k4_4 k5_0 k5_1 k5_2 k5_3 k5_4 k6_0 k6_1 k6_2 k6_3 k6_4 k11_0 k11_1 k11_2 k11_3 k11_4
        have k4b := k4.over hb; clear k4
        have k5b := k5.over hb; clear k5
        have k6b := k6.over hb; clear k6
        have k11b := k11.over hb; clear k11
        have htb := Bl.Tab.over ht hb; clear ht
        clear hb
        have k4 := k4b; clear k4b
        have k5 := k5b; clear k5b
        have k6 := k6b; clear k6b
        have k11 := k11b; clear k11b
        have ht := htb; clear htb
        have bel := belb; clear belb
        have ⟨k4_0, k4_1, k4_2, k4_3, k4_4⟩ := k4
        have ⟨k5_0, k5_1, k5_2, k5_3, k5_4⟩ := k5
        have ⟨k6_0, k6_1, k6_2, k6_3, k6_4⟩ := k6
        have ⟨k11_0, k11_1, k11_2, k11_3, k11_4⟩ := k11
        go_wp2_with fail
        refine (Bl.order_any a0_0 a0_1 0 0 1 KO.out _).mono ?_
        rintro e x10 ⟨rfl, hb⟩
        have belb := Bl.below_then bel hb bel.size; clear bel
        clear k4_0 k4_1 k4_2 k4_3 k4_4 k5_0 k5_1 k5_2 k5_3 k5_4 k6_0 k6_1 k6_2 k6_3 k6_4 k11_0 k11_1 k11_2 k11_3 k11_4
        have k4b := k4.over hb; clear k4
        have k5b := k5.over hb; clear k5
        have k6b := k6.over hb; clear k6
        have k11b := k11.over hb; clear k11
        have htb := Bl.Tab.over ht hb; clear ht
        clear hb
        have k4 := k4b; clear k4b
        have k5 := k5b; clear k5b
        have k6 := k6b; clear k6b
        have k11 := k11b; clear k11b
        have ht := htb; clear htb
        have bel := belb; clear belb
        have ⟨k4_0, k4_1, k4_2, k4_3, k4_4⟩ := k4
        have ⟨k5_0, k5_1, k5_2, k5_3, k5_4⟩ := k5
        have ⟨k6_0, k6_1, k6_2, k6_3, k6_4⟩ := k6
        have ⟨k11_0, k11_1, k11_2, k11_3, k11_4⟩ := k11
        go_wp2_with fail
        refine (Bl.zero_any 0 0 true Z0.out _).mono ?_
        rintro e x11 ⟨rfl, hb⟩
        have belb := Bl.below_then bel hb bel.size; clear bel
        clear k4_0 k4_1 k4_2 k4_3 k4_4 k5_0 k5_1 k5_2 k5_3 k5_4 k6_0 k6_1 k6_2 k6_3 k6_4 k11_0 k11_1 k11_2 k11_3 k11_4
        have k4b := k4.over hb; clear k4
        have k5b := k5.over hb; clear k5
        have k6b := k6.over hb; clear k6
        have k11b := k11.over hb; clear k11
        have htb := Bl.Tab.over ht hb; clear ht
        clear hb
        have k4 := k4b; clear k4b
        have k5 := k5b; clear k5b
        have k6 := k6b; clear k6b
        have k11 := k11b; clear k11b
        have ht := htb; clear htb
        have bel := belb; clear belb
        go_wp2
        go_ret
        exact ⟨rfl, bel⟩
  · replace e1 : a0_0 % 3 = r1 := e1
    replace e2 : a1_0 % 3 = r2 := e2
    replace e3 : a2_0 % 3 = r3 := e3
    go_enter Tryd.func6, Tryd.ntmps6
    go_wp2_with fail
    have bel' : Below w.heap.size w (((w.alloc (.cells #[.int .u32 a0_0, .int .i64 a0_1] 24)).alloc (.cells #[.int .u32 a1_0, .int .i64 a1_1] 24)).alloc (.cells #[.int .u32 a2_0, .int .i64 a2_1] 24)) := Bl.below_then ((Below.refl _ _)) (Bl.below_3 _ _ _ _) (Nat.le_refl _)
    have k4 := ((Bl.Pair.newAt (w) (.int .u32 a0_0) (.int .i64 a0_1) 24 (w.heap.size) (by simp)).alloc (.cells #[.int .u32 a1_0, .int .i64 a1_1] 24)).alloc (.cells #[.int .u32 a2_0, .int .i64 a2_1] 24)
    have k5 := (Bl.Pair.newAt (w.alloc (.cells #[.int .u32 a0_0, .int .i64 a0_1] 24)) (.int .u32 a1_0) (.int .i64 a1_1) 24 (w.heap.size + 1) (by simp)).alloc (.cells #[.int .u32 a2_0, .int .i64 a2_1] 24)
    have k6 := Bl.Pair.newAt ((w.alloc (.cells #[.int .u32 a0_0, .int .i64 a0_1] 24)).alloc (.cells #[.int .u32 a1_0, .int .i64 a1_1] 24)) (.int .u32 a2_0) (.int .i64 a2_1) 24 (w.heap.size + 1 + 1) (by simp)
    have ht' : Bl.Tab (((w.alloc (.cells #[.int .u32 a0_0, .int .i64 a0_1] 24)).alloc (.cells #[.int .u32 a1_0, .int .i64 a1_1] 24)).alloc (.cells #[.int .u32 a2_0, .int .i64 a2_1] 24)) := Bl.Tab.over (ht) (Bl.below_3 _ _ _ _)
    clear ht
    have ht := ht'; clear ht'
    have bel := bel'; clear bel'
    generalize ((w.alloc (.cells #[.int .u32 a0_0, .int .i64 a0_1] 24)).alloc (.cells #[.int .u32 a1_0, .int .i64 a1_1] 24)).alloc (.cells #[.int .u32 a2_0, .int .i64 a2_1] 24) = X1 at *
    refine (Bl.examples_any _ ht).mono ?_
    rintro e x2 ⟨rfl, hb⟩
    have belb := Bl.below_then bel hb bel.size; clear bel
    have k4b := k4.over hb; clear k4
    have k5b := k5.over hb; clear k5
    have k6b := k6.over hb; clear k6
    have htb := Bl.Tab.over ht hb; clear ht
    clear hb
    have k4 := k4b; clear k4b
    have k5 := k5b; clear k5b
    have k6 := k6b; clear k6b
    have ht := htb; clear htb
    have bel := belb; clear belb
    have ⟨k4_0, k4_1, k4_2, k4_3, k4_4⟩ := k4
    have ⟨k5_0, k5_1, k5_2, k5_3, k5_4⟩ := k5
    have ⟨k6_0, k6_1, k6_2, k6_3, k6_4⟩ := k6
    go_wp2_with fail
    clear k4_0 k4_1 k4_2 k4_3 k4_4 k5_0 k5_1 k5_2 k5_3 k5_4 k6_0 k6_1 k6_2 k6_3 k6_4
    have bel1 := ((bel.setCell (p := ⟨w.heap.size, 0, none⟩) (Nat.le_refl _) (.int .u32 r1)).setCell (p := ⟨w.heap.size + 1, 0, none⟩) (Nat.le_succ _) (.int .u32 r2)).setCell (p := ⟨w.heap.size + 1 + 1, 0, none⟩) (Nat.le_add_right _ 2) (.int .u32 r3)
    have k41 := ((Bl.Pair.set0 k4 (.int .u32 r1)).far ⟨w.heap.size + 1, 0, none⟩ (by simp) (.int .u32 r2)).far ⟨w.heap.size + 1 + 1, 0, none⟩ (by simp; omega) (.int .u32 r3)
    have k51 := (Bl.Pair.set0 (k5.far ⟨w.heap.size, 0, none⟩ (by simp) (.int .u32 r1)) (.int .u32 r2)).far ⟨w.heap.size + 1 + 1, 0, none⟩ (by simp) (.int .u32 r3)
    have k61 := Bl.Pair.set0 ((k6.far ⟨w.heap.size, 0, none⟩ (by simp; omega) (.int .u32 r1)).far ⟨w.heap.size + 1, 0, none⟩ (by simp) (.int .u32 r2)) (.int .u32 r3)
    have ht1 := Bl.Tab.over htw bel1
    clear k4 k5 k6 bel ht
    have k4 := k41; clear k41
    have k5 := k51; clear k51
    have k6 := k61; clear k61
    have bel := bel1; clear bel1
    have ht := ht1; clear ht1
    generalize ((x2.setCell ⟨w.heap.size, 0, none⟩ (.int .u32 r1)).setCell ⟨w.heap.size + 1, 0, none⟩ (.int .u32 r2)).setCell ⟨w.heap.size + 1 + 1, 0, none⟩ (.int .u32 r3) = X at *
    refine (Bl.order_any r1 a0_1 r2 a1_1 k K.out _).mono ?_
    rintro e x3 ⟨rfl, hb⟩
    have belb := Bl.below_then bel hb bel.size; clear bel
    have k4b := k4.over hb; clear k4
    have k5b := k5.over hb; clear k5
    have k6b := k6.over hb; clear k6
    have htb := Bl.Tab.over ht hb; clear ht
    clear hb
    have k4 := k4b; clear k4b
    have k5 := k5b; clear k5b
    have k6 := k6b; clear k6b
    have ht := htb; clear htb
    have bel := belb; clear belb
    have ⟨k4_0, k4_1, k4_2, k4_3, k4_4⟩ := k4
    have ⟨k5_0, k5_1, k5_2, k5_3, k5_4⟩ := k5
    have ⟨k6_0, k6_1, k6_2, k6_3, k6_4⟩ := k6
    go_wp2_with fail
    have bel' : Below w.heap.size w (x3.alloc (.cells #[.int .u32 0, .int .i64 0] 24)) := Bl.below_then ((bel)) (Bl.below_1 _ _) bel.size
    have k4' := (k4).alloc (.cells #[.int .u32 0, .int .i64 0] 24)
    have k5' := (k5).alloc (.cells #[.int .u32 0, .int .i64 0] 24)
    have k6' := (k6).alloc (.cells #[.int .u32 0, .int .i64 0] 24)
    have k11 := Bl.Pair.newAt (x3) (.int .u32 0) (.int .i64 0) 24 (x3.heap.size) (by simp)
    have ht' : Bl.Tab (x3.alloc (.cells #[.int .u32 0, .int .i64 0] 24)) := Bl.Tab.over (ht) (Bl.below_1 _ _)
    clear k4_0 k4_1 k4_2 k4_3 k4_4 k5_0 k5_1 k5_2 k5_3 k5_4 k6_0 k6_1 k6_2 k6_3 k6_4
    clear bel k4 k5 k6 ht
    have k4 := k4'; clear k4'
    have k5 := k5'; clear k5'
    have k6 := k6'; clear k6'
    have ht := ht'; clear ht'
    have bel := bel'; clear bel'
    generalize x3.alloc (.cells #[.int .u32 0, .int .i64 0] 24) = X4 at *
    generalize x3.heap.size = g4 at *
    refine (Bl.right_any r1 a0_1 p P.out _).mono ?_
    rintro e x5 ⟨rfl, hb⟩
    have belb := Bl.below_then bel hb bel.size; clear bel
    have k4b := k4.over hb; clear k4
    have k5b := k5.over hb; clear k5
    have k6b := k6.over hb; clear k6
    have k11b := k11.over hb; clear k11
    have htb := Bl.Tab.over ht hb; clear ht
    clear hb
    have k4 := k4b; clear k4b
    have k5 := k5b; clear k5b
    have k6 := k6b; clear k6b
    have k11 := k11b; clear k11b
    have ht := htb; clear htb
    have bel := belb; clear belb
    have ⟨k4_0, k4_1, k4_2, k4_3, k4_4⟩ := k4
    have ⟨k5_0, k5_1, k5_2, k5_3, k5_4⟩ := k5
    have ⟨k6_0, k6_1, k6_2, k6_3, k6_4⟩ := k6
    have ⟨k11_0, k11_1, k11_2, k11_3, k11_4⟩ := k11
    go_wp2_with fail
    rcases KW.out with k1 | ⟨k1, k2⟩ | ⟨k1, k2⟩
    · refine (Bl.order_any r2 a1_1 r1 a0_1 kb KB.out _).mono ?_
      rintro e x6 ⟨rfl, hb⟩
      have belb := Bl.below_then bel hb bel.size; clear bel
      clear k4_0 k4_1 k4_2 k4_3 k4_4 k5_0 k5_1 k5_2 k5_3 k5_4 k6_0 k6_1 k6_2 k6_3 k6_4 k11_0 k11_1 k11_2 k11_3 k11_4
      have k4b := k4.over hb; clear k4
      have k5b := k5.over hb; clear k5
      have k6b := k6.over hb; clear k6
      have k11b := k11.over hb; clear k11
      have htb := Bl.Tab.over ht hb; clear ht
      clear hb
      have k4 := k4b; clear k4b
      have k5 := k5b; clear k5b
      have k6 := k6b; clear k6b
      have k11 := k11b; clear k11b
      have ht := htb; clear htb
      have bel := belb; clear belb
      have ⟨k4_0, k4_1, k4_2, k4_3, k4_4⟩ := k4
      have ⟨k5_0, k5_1, k5_2, k5_3, k5_4⟩ := k5
      have ⟨k6_0, k6_1, k6_2, k6_3, k6_4⟩ := k6
      have ⟨k11_0, k11_1, k11_2, k11_3, k11_4⟩ := k11
      rcases PW.out with rfl | ⟨rfl, rfl⟩ | ⟨rfl, rfl⟩
      · go_wp2_with fail
        refine (Bl.zero_any 0 0 true Z0.out _).mono ?_
        rintro e x7 ⟨rfl, hb⟩
        have belb := Bl.below_then bel hb bel.size; clear bel
        clear k4_0 k4_1 k4_2 k4_3 k4_4 k5_0 k5_1 k5_2 k5_3 k5_4 k6_0 k6_1 k6_2 k6_3 k6_4 k11_0 k11_1 k11_2 k11_3 k11_4
        have k4b := k4.over hb; clear k4
        have k5b := k5.over hb; clear k5
        have k6b := k6.over hb; clear k6
        have k11b := k11.over hb; clear k11
        have htb := Bl.Tab.over ht hb; clear ht
        clear hb
        have k4 := k4b; clear k4b
        have k5 := k5b; clear k5b
        have k6 := k6b; clear k6b
        have k11 := k11b; clear k11b
        have ht := htb; clear htb
        have bel := belb; clear belb
        go_wp2
        go_ret
        exact ⟨rfl, bel⟩
      · go_wp2_with fail
        refine (Bl.zero_any r1 a0_1 true Z.out _).mono ?_
        rintro e x7 ⟨rfl, hb⟩
        have belb := Bl.below_then bel hb bel.size; clear bel
        clear k4_0 k4_1 k4_2 k4_3 k4_4 k5_0 k5_1 k5_2 k5_3 k5_4 k6_0 k6_1 k6_2 k6_3 k6_4 k11_0 k11_1 k11_2 k11_3 k11_4
        have k4b := k4.over hb; clear k4
        have k5b := k5.over hb; clear k5
        have k6b := k6.over hb; clear k6
        have k11b := k11.over hb; clear k11
        have htb := Bl.Tab.over ht hb; clear ht
        clear hb
        have k4 := k4b; clear k4b
        have k5 := k5b; clear k5b
        have k6 := k6b; clear k6b
        have k11 := k11b; clear k11b
        have ht := htb; clear htb
        have bel := belb; clear belb
        have ⟨k4_0, k4_1, k4_2, k4_3, k4_4⟩ := k4
        have ⟨k5_0, k5_1, k5_2, k5_3, k5_4⟩ := k5
        have ⟨k6_0, k6_1, k6_2, k6_3, k6_4⟩ := k6
        have ⟨k11_0, k11_1, k11_2, k11_3, k11_4⟩ := k11
        go_wp2_with fail
        refine (Bl.zero_any 0 0 true Z0.out _).mono ?_
        rintro e x8 ⟨rfl, hb⟩
        have belb := Bl.below_then bel hb bel.size; clear bel
        clear k4_0 k4_1 k4_2 k4_3 k4_4 k5_0 k5_1 k5_2 k5_3 k5_4 k6_0 k6_1 k6_2 k6_3 k6_4 k11_0 k11_1 k11_2 k11_3 k11_4
        have k4b := k4.over hb; clear k4
        have k5b := k5.over hb; clear k5
        have k6b := k6.over hb; clear k6
        have k11b := k11.over hb; clear k11
        have htb := Bl.Tab.over ht hb; clear ht
        clear hb
        have k4 := k4b; clear k4b
        have k5 := k5b; clear k5b
        have k6 := k6b; clear k6b
        have k11 := k11b; clear k11b
        have ht := htb; clear htb
        have bel := belb; clear belb
        go_wp2
        go_ret
        exact ⟨rfl, bel⟩
      · have k4e := HO.out rfl rfl; have KO := Lib.hid k4e; clear k4e
        go_wp2_with fail
        refine (Bl.zero_any r1 a0_1 false Z.out _).mono ?_
        rintro e x7 ⟨rfl, hb⟩
        have belb := Bl.below_then bel hb bel.size; clear bel
        clear k4_0 k4_1 k4_2 k4_3 k4_4 k5_0 k5_1 k5_2 k5_3 k5_4 k6_0 k6_1 k6_2 k6_3 k6_4 k11_0 k11_1 k11_2 k11_3 k11_4
        have k4b := k4.over hb; clear k4
        have k5b := k5.over hb; clear k5
        have k6b := k6.over hb; clear k6
        have k11b := k11.over hb; clear k11
        have htb := Bl.Tab.over ht hb; clear ht
        clear hb
        have k4 := k4b; clear k4b
        have k5 := k5b; clear k5b
        have k6 := k6b; clear k6b
        have k11 := k11b; clear k11b
        have ht := htb; clear htb
        have bel := belb; clear belb
        have ⟨k4_0, k4_1, k4_2, k4_3, k4_4⟩ := k4
        have ⟨k5_0, k5_1, k5_2, k5_3, k5_4⟩ := k5
        have ⟨k6_0, k6_1, k6_2, k6_3, k6_4⟩ := k6
        have ⟨k11_0, k11_1, k11_2, k11_3, k11_4⟩ := k11
        go_wp2_with fail
        refine (Bl.order_any r1 a0_1 0 0 1 KO.out _).mono ?_
        rintro e x8 ⟨rfl, hb⟩
        have belb := Bl.below_then bel hb bel.size; clear bel
        clear k4_0 k4_1 k4_2 k4_3 k4_4 k5_0 k5_1 k5_2 k5_3 k5_4 k6_0 k6_1 k6_2 k6_3 k6_4 k11_0 k11_1 k11_2 k11_3 k11_4
        have k4b := k4.over hb; clear k4
        have k5b := k5.over hb; clear k5
        have k6b := k6.over hb; clear k6
        have k11b := k11.over hb; clear k11
        have htb := Bl.Tab.over ht hb; clear ht
        clear hb
        have k4 := k4b; clear k4b
        have k5 := k5b; clear k5b
        have k6 := k6b; clear k6b
        have k11 := k11b; clear k11b
        have ht := htb; clear htb
        have bel := belb; clear belb
        have ⟨k4_0, k4_1, k4_2, k4_3, k4_4⟩ := k4
        have ⟨k5_0, k5_1, k5_2, k5_3, k5_4⟩ := k5
        have ⟨k6_0, k6_1, k6_2, k6_3, k6_4⟩ := k6
        have ⟨k11_0, k11_1, k11_2, k11_3, k11_4⟩ := k11
        go_wp2_with fail
        refine (Bl.zero_any 0 0 true Z0.out _).mono ?_
        rintro e x9 ⟨rfl, hb⟩
        have belb := Bl.below_then bel hb bel.size; clear bel
        clear k4_0 k4_1 k4_2 k4_3 k4_4 k5_0 k5_1 k5_2 k5_3 k5_4 k6_0 k6_1 k6_2 k6_3 k6_4 k11_0 k11_1 k11_2 k11_3 k11_4
        have k4b := k4.over hb; clear k4
        have k5b := k5.over hb; clear k5
        have k6b := k6.over hb; clear k6
        have k11b := k11.over hb; clear k11
        have htb := Bl.Tab.over ht hb; clear ht
        clear hb
        have k4 := k4b; clear k4b
        have k5 := k5b; clear k5b
        have k6 := k6b; clear k6b
        have k11 := k11b; clear k11b
        have ht := htb; clear htb
        have bel := belb; clear belb
        go_wp2
        go_ret
        exact ⟨rfl, bel⟩
    · refine (Bl.order_any r2 a1_1 r1 a0_1 kb KB.out _).mono ?_
      rintro e x6 ⟨rfl, hb⟩
      have belb := Bl.below_then bel hb bel.size; clear bel
      clear k4_0 k4_1 k4_2 k4_3 k4_4 k5_0 k5_1 k5_2 k5_3 k5_4 k6_0 k6_1 k6_2 k6_3 k6_4 k11_0 k11_1 k11_2 k11_3 k11_4
      have k4b := k4.over hb; clear k4
      have k5b := k5.over hb; clear k5
      have k6b := k6.over hb; clear k6
      have k11b := k11.over hb; clear k11
      have htb := Bl.Tab.over ht hb; clear ht
      clear hb
      have k4 := k4b; clear k4b
      have k5 := k5b; clear k5b
      have k6 := k6b; clear k6b
      have k11 := k11b; clear k11b
      have ht := htb; clear htb
      have bel := belb; clear belb
      have ⟨k4_0, k4_1, k4_2, k4_3, k4_4⟩ := k4
      have ⟨k5_0, k5_1, k5_2, k5_3, k5_4⟩ := k5
      have ⟨k6_0, k6_1, k6_2, k6_3, k6_4⟩ := k6
      have ⟨k11_0, k11_1, k11_2, k11_3, k11_4⟩ := k11
      rcases PW.out with rfl | ⟨rfl, rfl⟩ | ⟨rfl, rfl⟩
      · go_wp2_with fail
        refine (Bl.order_any r2 a1_1 r3 a2_1 m M.out _).mono ?_
        rintro e x7 ⟨rfl, hb⟩
        have belb := Bl.below_then bel hb bel.size; clear bel
        clear k4_0 k4_1 k4_2 k4_3 k4_4 k5_0 k5_1 k5_2 k5_3 k5_4 k6_0 k6_1 k6_2 k6_3 k6_4 k11_0 k11_1 k11_2 k11_3 k11_4
        have k4b := k4.over hb; clear k4
        have k5b := k5.over hb; clear k5
        have k6b := k6.over hb; clear k6
        have k11b := k11.over hb; clear k11
        have htb := Bl.Tab.over ht hb; clear ht
        clear hb
        have k4 := k4b; clear k4b
        have k5 := k5b; clear k5b
        have k6 := k6b; clear k6b
        have k11 := k11b; clear k11b
        have ht := htb; clear htb
        have bel := belb; clear belb
        have ⟨k4_0, k4_1, k4_2, k4_3, k4_4⟩ := k4
        have ⟨k5_0, k5_1, k5_2, k5_3, k5_4⟩ := k5
        have ⟨k6_0, k6_1, k6_2, k6_3, k6_4⟩ := k6
        have ⟨k11_0, k11_1, k11_2, k11_3, k11_4⟩ := k11
        go_wp2_with fail
        refine (Bl.zero_any 0 0 true Z0.out _).mono ?_
        rintro e x8 ⟨rfl, hb⟩
        have belb := Bl.below_then bel hb bel.size; clear bel
        clear k4_0 k4_1 k4_2 k4_3 k4_4 k5_0 k5_1 k5_2 k5_3 k5_4 k6_0 k6_1 k6_2 k6_3 k6_4 k11_0 k11_1 k11_2 k11_3 k11_4
        have k4b := k4.over hb; clear k4
        have k5b := k5.over hb; clear k5
        have k6b := k6.over hb; clear k6
        have k11b := k11.over hb; clear k11
        have htb := Bl.Tab.over ht hb; clear ht
        clear hb
        have k4 := k4b; clear k4b
        have k5 := k5b; clear k5b
        have k6 := k6b; clear k6b
        have k11 := k11b; clear k11b
        have ht := htb; clear htb
        have bel := belb; clear belb
        go_wp2
        go_ret
        exact ⟨rfl, bel⟩
      · go_wp2_with fail
        refine (Bl.order_any r2 a1_1 r3 a2_1 m M.out _).mono ?_
        rintro e x7 ⟨rfl, hb⟩
        have belb := Bl.below_then bel hb bel.size; clear bel
        clear k4_0 k4_1 k4_2 k4_3 k4_4 k5_0 k5_1 k5_2 k5_3 k5_4 k6_0 k6_1 k6_2 k6_3 k6_4 k11_0 k11_1 k11_2 k11_3 k11_4
        have k4b := k4.over hb; clear k4
        have k5b := k5.over hb; clear k5
        have k6b := k6.over hb; clear k6
        have k11b := k11.over hb; clear k11
        have htb := Bl.Tab.over ht hb; clear ht
        clear hb
        have k4 := k4b; clear k4b
        have k5 := k5b; clear k5b
        have k6 := k6b; clear k6b
        have k11 := k11b; clear k11b
        have ht := htb; clear htb
        have bel := belb; clear belb
        have ⟨k4_0, k4_1, k4_2, k4_3, k4_4⟩ := k4
        have ⟨k5_0, k5_1, k5_2, k5_3, k5_4⟩ := k5
        have ⟨k6_0, k6_1, k6_2, k6_3, k6_4⟩ := k6
        have ⟨k11_0, k11_1, k11_2, k11_3, k11_4⟩ := k11
        go_wp2_with fail
        refine (Bl.zero_any r1 a0_1 true Z.out _).mono ?_
        rintro e x8 ⟨rfl, hb⟩
        have belb := Bl.below_then bel hb bel.size; clear bel
        clear k4_0 k4_1 k4_2 k4_3 k4_4 k5_0 k5_1 k5_2 k5_3 k5_4 k6_0 k6_1 k6_2 k6_3 k6_4 k11_0 k11_1 k11_2 k11_3 k11_4
        have k4b := k4.over hb; clear k4
        have k5b := k5.over hb; clear k5
        have k6b := k6.over hb; clear k6
        have k11b := k11.over hb; clear k11
        have htb := Bl.Tab.over ht hb; clear ht
        clear hb
        have k4 := k4b; clear k4b
        have k5 := k5b; clear k5b
        have k6 := k6b; clear k6b
        have k11 := k11b; clear k11b
        have ht := htb; clear htb
        have bel := belb; clear belb
        have ⟨k4_0, k4_1, k4_2, k4_3, k4_4⟩ := k4
        have ⟨k5_0, k5_1, k5_2, k5_3, k5_4⟩ := k5
        have ⟨k6_0, k6_1, k6_2, k6_3, k6_4⟩ := k6
        have ⟨k11_0, k11_1, k11_2, k11_3, k11_4⟩ := k11
        go_wp2_with fail
        refine (Bl.zero_any 0 0 true Z0.out _).mono ?_
        rintro e x9 ⟨rfl, hb⟩
        have belb := Bl.below_then bel hb bel.size; clear bel
        clear k4_0 k4_1 k4_2 k4_3 k4_4 k5_0 k5_1 k5_2 k5_3 k5_4 k6_0 k6_1 k6_2 k6_3 k6_4 k11_0 k11_1 k11_2 k11_3 k11_4
        have k4b := k4.over hb; clear k4
        have k5b := k5.over hb; clear k5
        have k6b := k6.over hb; clear k6
        have k11b := k11.over hb; clear k11
        have htb := Bl.Tab.over ht hb; clear ht
        clear hb
        have k4 := k4b; clear k4b
        have k5 := k5b; clear k5b
        have k6 := k6b; clear k6b
        have k11 := k11b; clear k11b
        have ht := htb; clear htb
        have bel := belb; clear belb
        go_wp2
        go_ret
        exact ⟨rfl, bel⟩
      · have k4e := HO.out rfl rfl; have KO := Lib.hid k4e; clear k4e
        go_wp2_with fail
        refine (Bl.order_any r2 a1_1 r3 a2_1 m M.out _).mono ?_
        rintro e x7 ⟨rfl, hb⟩
        have belb := Bl.below_then bel hb bel.size; clear bel
        clear k4_0 k4_1 k4_2 k4_3 k4_4 k5_0 k5_1 k5_2 k5_3 k5_4 k6_0 k6_1 k6_2 k6_3 k6_4 k11_0 k11_1 k11_2 k11_3 k11_4
        have k4b := k4.over hb; clear k4
        have k5b := k5.over hb; clear k5
        have k6b := k6.over hb; clear k6
        have k11b := k11.over hb; clear k11
        have htb := Bl.Tab.over ht hb; clear ht
        clear hb
        have k4 := k4b; clear k4b
        have k5 := k5b; clear k5b
        have k6 := k6b; clear k6b
        have k11 := k11b; clear k11b
        have ht := htb; clear htb
        have bel := belb; clear belb
        have ⟨k4_0, k4_1, k4_2, k4_3, k4_4⟩ := k4
        have ⟨k5_0, k5_1, k5_2, k5_3, k5_4⟩ := k5
        have ⟨k6_0, k6_1, k6_2, k6_3, k6_4⟩ := k6
        have ⟨k11_0, k11_1, k11_2, k11_3, k11_4⟩ := k11
        go_wp2_with fail
        refine (Bl.zero_any r1 a0_1 false Z.out _).mono ?_
        rintro e x8 ⟨rfl, hb⟩
        have belb := Bl.below_then bel hb bel.size; clear bel
        clear k4_0 k4_1 k4_2 k4_3 k4_4 k5_0 k5_1 k5_2 k5_3 k5_4 k6_0 k6_1 k6_2 k6_3 k6_4 k11_0 k11_1 k11_2 k11_3 k11_4
        have k4b := k4.over hb; clear k4
        have k5b := k5.over hb; clear k5
        have k6b := k6.over hb; clear k6
        have k11b := k11.over hb; clear k11
        have htb := Bl.Tab.over ht hb; clear ht
        clear hb
        have k4 := k4b; clear k4b
        have k5 := k5b; clear k5b
        have k6 := k6b; clear k6b
        have k11 := k11b; clear k11b
        have ht := htb; clear htb
        have bel := belb; clear belb
        have ⟨k4_0, k4_1, k4_2, k4_3, k4_4⟩ := k4
        have ⟨k5_0, k5_1, k5_2, k5_3, k5_4⟩ := k5
        have ⟨k6_0, k6_1, k6_2, k6_3, k6_4⟩ := k6
        have ⟨k11_0, k11_1, k11_2, k11_3, k11_4⟩ := k11
        go_wp2_with fail
        refine (Bl.order_any r1 a0_1 0 0 1 KO.out _).mono ?_
        rintro e x9 ⟨rfl, hb⟩
        have belb := Bl.below_then bel hb bel.size; clear bel
        clear k4_0 k4_1 k4_2 k4_3 k4_4 k5_0 k5_1 k5_2 k5_3 k5_4 k6_0 k6_1 k6_2 k6_3 k6_4 k11_0 k11_1 k11_2 k11_3 k11_4
        have k4b := k4.over hb; clear k4
        have k5b := k5.over hb; clear k5
        have k6b := k6.over hb; clear k6
        have k11b := k11.over hb; clear k11
        have htb := Bl.Tab.over ht hb; clear ht
        clear hb
        have k4 := k4b; clear k4b
        have k5 := k5b; clear k5b
        have k6 := k6b; clear k6b
        have k11 := k11b; clear k11b
        have ht := htb; clear htb
        have bel := belb; clear belb
        have ⟨k4_0, k4_1, k4_2, k4_3, k4_4⟩ := k4
        have ⟨k5_0, k5_1, k5_2, k5_3, k5_4⟩ := k5
        have ⟨k6_0, k6_1, k6_2, k6_3, k6_4⟩ := k6
        have ⟨k11_0, k11_1, k11_2, k11_3, k11_4⟩ := k11
        go_wp2_with fail
        refine (Bl.zero_any 0 0 true Z0.out _).mono ?_
        rintro e x10 ⟨rfl, hb⟩
        have belb := Bl.below_then bel hb bel.size; clear bel
        clear k4_0 k4_1 k4_2 k4_3 k4_4 k5_0 k5_1 k5_2 k5_3 k5_4 k6_0 k6_1 k6_2 k6_3 k6_4 k11_0 k11_1 k11_2 k11_3 k11_4
        have k4b := k4.over hb; clear k4
        have k5b := k5.over hb; clear k5
        have k6b := k6.over hb; clear k6
        have k11b := k11.over hb; clear k11
        have htb := Bl.Tab.over ht hb; clear ht
        clear hb
        have k4 := k4b; clear k4b
        have k5 := k5b; clear k5b
        have k6 := k6b; clear k6b
        have k11 := k11b; clear k11b
        have ht := htb; clear htb
        have bel := belb; clear belb
        go_wp2
        go_ret
        exact ⟨rfl, bel⟩
    · have k3 := HN.out k1 k2
      refine (Bl.order_any r2 a1_1 r1 a0_1 kb KB.out _).mono ?_
      rintro e x6 ⟨rfl, hb⟩
      have belb := Bl.below_then bel hb bel.size; clear bel
      clear k4_0 k4_1 k4_2 k4_3 k4_4 k5_0 k5_1 k5_2 k5_3 k5_4 k6_0 k6_1 k6_2 k6_3 k6_4 k11_0 k11_1 k11_2 k11_3 k11_4
      have k4b := k4.over hb; clear k4
      have k5b := k5.over hb; clear k5
      have k6b := k6.over hb; clear k6
      have k11b := k11.over hb; clear k11
      have htb := Bl.Tab.over ht hb; clear ht
      clear hb
      have k4 := k4b; clear k4b
      have k5 := k5b; clear k5b
      have k6 := k6b; clear k6b
      have k11 := k11b; clear k11b
      have ht := htb; clear htb
      have bel := belb; clear belb
      have ⟨k4_0, k4_1, k4_2, k4_3, k4_4⟩ := k4
      have ⟨k5_0, k5_1, k5_2, k5_3, k5_4⟩ := k5
      have ⟨k6_0, k6_1, k6_2, k6_3, k6_4⟩ := k6
      have ⟨k11_0, k11_1, k11_2, k11_3, k11_4⟩ := k11
      rcases PW.out with rfl | ⟨rfl, rfl⟩ | ⟨rfl, rfl⟩
      · go_wp2_with fail
        refine (Bl.order_any r2 a1_1 r3 a2_1 m M.out _).mono ?_
        rintro e x7 ⟨rfl, hb⟩
        have belb := Bl.below_then bel hb bel.size; clear bel
        clear k4_0 k4_1 k4_2 k4_3 k4_4 k5_0 k5_1 k5_2 k5_3 k5_4 k6_0 k6_1 k6_2 k6_3 k6_4 k11_0 k11_1 k11_2 k11_3 k11_4
        have k4b := k4.over hb; clear k4
        have k5b := k5.over hb; clear k5
        have k6b := k6.over hb; clear k6
        have k11b := k11.over hb; clear k11
        have htb := Bl.Tab.over ht hb; clear ht
        clear hb
        have k4 := k4b; clear k4b
        have k5 := k5b; clear k5b
        have k6 := k6b; clear k6b
        have k11 := k11b; clear k11b
        have ht := htb; clear htb
        have bel := belb; clear belb
        have ⟨k4_0, k4_1, k4_2, k4_3, k4_4⟩ := k4
        have ⟨k5_0, k5_1, k5_2, k5_3, k5_4⟩ := k5
        have ⟨k6_0, k6_1, k6_2, k6_3, k6_4⟩ := k6
        have ⟨k11_0, k11_1, k11_2, k11_3, k11_4⟩ := k11
        go_wp2_with fail
        refine (Bl.order_any r1 a0_1 r3 a2_1 n N.out _).mono ?_
        rintro e x8 ⟨rfl, hb⟩
        have belb := Bl.below_then bel hb bel.size; clear bel
        clear k4_0 k4_1 k4_2 k4_3 k4_4 k5_0 k5_1 k5_2 k5_3 k5_4 k6_0 k6_1 k6_2 k6_3 k6_4 k11_0 k11_1 k11_2 k11_3 k11_4
        have k4b := k4.over hb; clear k4
        have k5b := k5.over hb; clear k5
        have k6b := k6.over hb; clear k6
        have k11b := k11.over hb; clear k11
        have htb := Bl.Tab.over ht hb; clear ht
        clear hb
        have k4 := k4b; clear k4b
        have k5 := k5b; clear k5b
        have k6 := k6b; clear k6b
        have k11 := k11b; clear k11b
        have ht := htb; clear htb
        have bel := belb; clear belb
        have ⟨k4_0, k4_1, k4_2, k4_3, k4_4⟩ := k4
        have ⟨k5_0, k5_1, k5_2, k5_3, k5_4⟩ := k5
        have ⟨k6_0, k6_1, k6_2, k6_3, k6_4⟩ := k6
        have ⟨k11_0, k11_1, k11_2, k11_3, k11_4⟩ := k11
        go_wp2_with fail
        refine (Bl.zero_any 0 0 true Z0.out _).mono ?_
        rintro e x9 ⟨rfl, hb⟩
        have belb := Bl.below_then bel hb bel.size; clear bel
        clear k4_0 k4_1 k4_2 k4_3 k4_4 k5_0 k5_1 k5_2 k5_3 k5_4 k6_0 k6_1 k6_2 k6_3 k6_4 k11_0 k11_1 k11_2 k11_3 k11_4
        have k4b := k4.over hb; clear k4
        have k5b := k5.over hb; clear k5
        have k6b := k6.over hb; clear k6
        have k11b := k11.over hb; clear k11
        have htb := Bl.Tab.over ht hb; clear ht
        clear hb
        have k4 := k4b; clear k4b
        have k5 := k5b; clear k5b
        have k6 := k6b; clear k6b
        have k11 := k11b; clear k11b
        have ht := htb; clear htb
        have bel := belb; clear belb
        go_wp2
        go_ret
        exact ⟨rfl, bel⟩
      · go_wp2_with fail
        refine (Bl.order_any r2 a1_1 r3 a2_1 m M.out _).mono ?_
        rintro e x7 ⟨rfl, hb⟩
        have belb := Bl.below_then bel hb bel.size; clear bel
        clear k4_0 k4_1 k4_2 k4_3 k4_4 k5_0 k5_1 k5_2 k5_3 k5_4 k6_0 k6_1 k6_2 k6_3 k6_4 k11_0 k11_1 k11_2 k11_3 k11_4
        have k4b := k4.over hb; clear k4
        have k5b := k5.over hb; clear k5
        have k6b := k6.over hb; clear k6
        have k11b := k11.over hb; clear k11
        have htb := Bl.Tab.over ht hb; clear ht
        clear hb
        have k4 := k4b; clear k4b
        have k5 := k5b; clear k5b
        have k6 := k6b; clear k6b
        have k11 := k11b; clear k11b
        have ht := htb; clear htb
        have bel := belb; clear belb
        have ⟨k4_0, k4_1, k4_2, k4_3, k4_4⟩ := k4
        have ⟨k5_0, k5_1, k5_2, k5_3, k5_4⟩ := k5
        have ⟨k6_0, k6_1, k6_2, k6_3, k6_4⟩ := k6
        have ⟨k11_0, k11_1, k11_2, k11_3, k11_4⟩ := k11
        go_wp2_with fail
        refine (Bl.order_any r1 a0_1 r3 a2_1 n N.out _).mono ?_
        rintro e x8 ⟨rfl, hb⟩
        have belb := Bl.below_then bel hb bel.size; clear bel
        clear k4_0 k4_1 k4_2 k4_3 k4_4 k5_0 k5_1 k5_2 k5_3 k5_4 k6_0 k6_1 k6_2 k6_3 k6_4 k11_0 k11_1 k11_2 k11_3 k11_4
        have k4b := k4.over hb; clear k4
        have k5b := k5.over hb; clear k5
        have k6b := k6.over hb; clear k6
        have k11b := k11.over hb; clear k11
        have htb := Bl.Tab.over ht hb; clear ht
        clear hb
        have k4 := k4b; clear k4b
        have k5 := k5b; clear k5b
        have k6 := k6b; clear k6b
        have k11 := k11b; clear k11b
        have ht := htb; clear htb
        have bel := belb; clear belb
        have ⟨k4_0, k4_1, k4_2, k4_3, k4_4⟩ := k4
        have ⟨k5_0, k5_1, k5_2, k5_3, k5_4⟩ := k5
        have ⟨k6_0, k6_1, k6_2, k6_3, k6_4⟩ := k6
        have ⟨k11_0, k11_1, k11_2, k11_3, k11_4⟩ := k11
        go_wp2_with fail
        refine (Bl.zero_any r1 a0_1 true Z.out _).mono ?_
        rintro e x9 ⟨rfl, hb⟩
        have belb := Bl.below_then bel hb bel.size; clear bel
        clear k4_0 k4_1 k4_2 k4_3 k4_4 k5_0 k5_1 k5_2 k5_3 k5_4 k6_0 k6_1 k6_2 k6_3 k6_4 k11_0 k11_1 k11_2 k11_3 k11_4
        have k4b := k4.over hb; clear k4
        have k5b := k5.over hb; clear k5
        have k6b := k6.over hb; clear k6
        have k11b := k11.over hb; clear k11
        have htb := Bl.Tab.over ht hb; clear ht
        clear hb
        have k4 := k4b; clear k4b
        have k5 := k5b; clear k5b
        have k6 := k6b; clear k6b
        have k11 := k11b; clear k11b
        have ht := htb; clear htb
        have bel := belb; clear belb
        have ⟨k4_0, k4_1, k4_2, k4_3, k4_4⟩ := k4
        have ⟨k5_0, k5_1, k5_2, k5_3, k5_4⟩ := k5
        have ⟨k6_0, k6_1, k6_2, k6_3, k6_4⟩ := k6
        have ⟨k11_0, k11_1, k11_2, k11_3, k11_4⟩ := k11
        go_wp2_with fail
        refine (Bl.zero_any 0 0 true Z0.out _).mono ?_
        rintro e x10 ⟨rfl, hb⟩
        have belb := Bl.below_then bel hb bel.size; clear bel
        clear k4_0 k4_1 k4_2 k4_3 k4_4 k5_0 k5_1 k5_2 k5_3 k5_4 k6_0 k6_1 k6_2 k6_3 k6_4 k11_0 k11_1 k11_2 k11_3 k11_4
        have k4b := k4.over hb; clear k4
        have k5b := k5.over hb; clear k5
        have k6b := k6.over hb; clear k6
        have k11b := k11.over hb; clear k11
        have htb := Bl.Tab.over ht hb; clear ht
        clear hb
        have k4 := k4b; clear k4b
        have k5 := k5b; clear k5b
        have k6 := k6b; clear k6b
        have k11 := k11b; clear k11b
        have ht := htb; clear htb
        have bel := belb; clear belb
        go_wp2
        go_ret
        exact ⟨rfl, bel⟩
      · have k4e := HO.out rfl rfl; have KO := Lib.hid k4e; clear k4e
        go_wp2_with fail
        refine (Bl.order_any r2 a1_1 r3 a2_1 m M.out _).mono ?_
        rintro e x7 ⟨rfl, hb⟩
        have belb := Bl.below_then bel hb bel.size; clear bel
        clear k4_0 k4_1 k4_2 k4_3 k4_4 k5_0 k5_1 k5_2 k5_3 k5_4 k6_0 k6_1 k6_2 k6_3 k6_4 k11_0 k11_1 k11_2 k11_3 k11_4
        have k4b := k4.over hb; clear k4
        have k5b := k5.over hb; clear k5
        have k6b := k6.over hb; clear k6
        have k11b := k11.over hb; clear k11
        have htb := Bl.Tab.over ht hb; clear ht
        clear hb
        have k4 := k4b; clear k4b
        have k5 := k5b; clear k5b
        have k6 := k6b; clear k6b
        have k11 := k11b; clear k11b
        have ht := htb; clear htb
        have bel := belb; clear belb
        have ⟨k4_0, k4_1, k4_2, k4_3, k4_4⟩ := k4
        have ⟨k5_0, k5_1, k5_2, k5_3, k5_4⟩ := k5
        have ⟨k6_0, k6_1, k6_2, k6_3, k6_4⟩ := k6
        have ⟨k11_0, k11_1, k11_2, k11_3, k11_4⟩ := k11
        go_wp2_with fail
        refine (Bl.order_any r1 a0_1 r3 a2_1 n N.out _).mono ?_
        rintro e x8 ⟨rfl, hb⟩
        have belb := Bl.below_then bel hb bel.size; clear bel
        clear k4_0 k4_1 k4_2 k4_3 k4_4 k5_0 k5_1 k5_2 k5_3 k5_4 k6_0 k6_1 k6_2 k6_3 k6_4 k11_0 k11_1 k11_2 k11_3 k11_4
        have k4b := k4.over hb; clear k4
        have k5b := k5.over hb; clear k5
        have k6b := k6.over hb; clear k6
        have k11b := k11.over hb; clear k11
        have htb := Bl.Tab.over ht hb; clear ht
        clear hb
        have k4 := k4b; clear k4b
        have k5 := k5b; clear k5b
        have k6 := k6b; clear k6b
        have k11 := k11b; clear k11b
        have ht := htb; clear htb
        have bel := belb; clear belb
        have ⟨k4_0, k4_1, k4_2, k4_3, k4_4⟩ := k4
        have ⟨k5_0, k5_1, k5_2, k5_3, k5_4⟩ := k5
        have ⟨k6_0, k6_1, k6_2, k6_3, k6_4⟩ := k6
        have ⟨k11_0, k11_1, k11_2, k11_3, k11_4⟩ := k11
        go_wp2_with fail
        refine (Bl.zero_any r1 a0_1 false Z.out _).mono ?_
        rintro e x9 ⟨rfl, hb⟩
        have belb := Bl.below_then bel hb bel.size; clear bel
        clear k4_0 k4_1 k4_2 k4_3 k4_4 k5_0 k5_1 k5_2 k5_3 k5_4 k6_0 k6_1 k6_2 k6_3 k6_4 k11_0 k11_1 k11_2 k11_3 k11_4
        have k4b := k4.over hb; clear k4
        have k5b := k5.over hb; clear k5
        have k6b := k6.over hb; clear k6
        have k11b := k11.over hb; clear k11
        have htb := Bl.Tab.over ht hb; clear ht
        clear hb
        have k4 := k4b; clear k4b
        have k5 := k5b; clear k5b
        have k6 := k6b; clear k6b
        have k11 := k11b; clear k11b
        have ht := htb; clear htb
        have bel := belb; clear belb
        have ⟨k4_0, k4_1, k4_2, k4_3, k4_4⟩ := k4
        have ⟨k5_0, k5_1, k5_2, k5_3, k5_4⟩ := k5
        have ⟨k6_0, k6_1, k6_2, k6_3, k6_4⟩ := k6
        have ⟨k11_0, k11_1, k11_2, k11_3, k11_4⟩ := k11
        go_wp2_with fail
        refine (Bl.order_any r1 a0_1 0 0 1 KO.out _).mono ?_
        rintro e x10 ⟨rfl, hb⟩
        have belb := Bl.below_then bel hb bel.size; clear bel
        clear k4_0 k4_1 k4_2 k4_3 k4_4 k5_0 k5_1 k5_2 k5_3 k5_4 k6_0 k6_1 k6_2 k6_3 k6_4 k11_0 k11_1 k11_2 k11_3 k11_4
        have k4b := k4.over hb; clear k4
        have k5b := k5.over hb; clear k5
        have k6b := k6.over hb; clear k6
        have k11b := k11.over hb; clear k11
        have htb := Bl.Tab.over ht hb; clear ht
        clear hb
        have k4 := k4b; clear k4b
        have k5 := k5b; clear k5b
        have k6 := k6b; clear k6b
        have k11 := k11b; clear k11b
        have ht := htb; clear htb
        have bel := belb; clear belb
        have ⟨k4_0, k4_1, k4_2, k4_3, k4_4⟩ := k4
        have ⟨k5_0, k5_1, k5_2, k5_3, k5_4⟩ := k5
        have ⟨k6_0, k6_1, k6_2, k6_3, k6_4⟩ := k6
        have ⟨k11_0, k11_1, k11_2, k11_3, k11_4⟩ := k11
        go_wp2_with fail
        refine (Bl.zero_any 0 0 true Z0.out _).mono ?_
        rintro e x11 ⟨rfl, hb⟩
        have belb := Bl.below_then bel hb bel.size; clear bel
        clear k4_0 k4_1 k4_2 k4_3 k4_4 k5_0 k5_1 k5_2 k5_3 k5_4 k6_0 k6_1 k6_2 k6_3 k6_4 k11_0 k11_1 k11_2 k11_3 k11_4
        have k4b := k4.over hb; clear k4
        have k5b := k5.over hb; clear k5
        have k6b := k6.over hb; clear k6
        have k11b := k11.over hb; clear k11
        have htb := Bl.Tab.over ht hb; clear ht
        clear hb
        have k4 := k4b; clear k4b
        have k5 := k5b; clear k5b
        have k6 := k6b; clear k6b
        have k11 := k11b; clear k11b
        have ht := htb; clear htb
        have bel := belb; clear belb
        go_wp2
        go_ret
        exact ⟨rfl, bel⟩

theorem laid_met (os : Os) : laidMet Tryd.prog Rows.ballotOrderRow.laid ((World.doorLaid Tryd.prog 24 os).forCall (fun _ _ => 0) ⟨#[], #[.agg #[.int .u32 0, .int .i64 0], .agg #[.int .u32 0, .int .i64 0], .agg #[.int .u32 0, .int .i64 0], .bool false], []⟩).memory :=
  laidMet_of_run' 8 (by kernel_rfl) (by kernel_rfl)
theorem reads (os : Os) {H : Type} (enc : TypeId × Value → H) : ∃ places, DataW.whole enc Tryd.prog ((World.doorLaid Tryd.prog 24 os).forCall (fun _ _ => 0) ⟨#[], #[.agg #[.int .u32 0, .int .i64 0], .agg #[.int .u32 0, .int .i64 0], .agg #[.int .u32 0, .int .i64 0], .bool false], []⟩).memory Tryd.f6.params.toList Rows.ballotOrderSpec.vars false (#[.agg #[.int .u32 0, .int .i64 0], .agg #[.int .u32 0, .int .i64 0], .agg #[.int .u32 0, .int .i64 0], .bool false] : Array Value).toList 8 = some ([.agg [.lit (.int .u32 0), .lit (.int .i64 0)], .agg [.lit (.int .u32 0), .lit (.int .i64 0)], .agg [.lit (.int .u32 0), .lit (.int .i64 0)], .lit (.bool false)], [], places) :=
  ⟨[], by kernel_rfl⟩

set_option maxRecDepth 100000 in
theorem lifted (os : Os) (started : os.Started) (H : Type) (enc : TypeId × Value → H) (F : Stop.Interp) :
    ReturnsInHanded {} Tryd.checked os 6 .any ((OpenSpec.ofChange Rows.ballotOrderSpec).preRow enc Tryd.prog Tryd.f6 Rows.ballotOrderRow.domain false Rows.ballotOrderRow.laid) (((OpenSpec.ofChange Rows.ballotOrderSpec).at F).post enc Tryd.prog Tryd.f6 false true false false) := by
  obtain ⟨places, hx⟩ := reads os enc
  refine returnsInHanded_of_row (C := Tryd.checked) (s := OpenSpec.ofChange Rows.ballotOrderSpec) own started (by kernel_rfl) Tryd.func6
    (witness_row_at (enc := enc) (C := Tryd.checked) false (World.doorLaid Tryd.prog 24 os) #[.agg #[.int .u32 0, .int .i64 0], .agg #[.int .u32 0, .int .i64 0], .agg #[.int .u32 0, .int .i64 0], .bool false] rfl (by kernel_rfl) (by kernel_rfl) (by kernel_rfl)
      (OpenSpec.preRow_of_cond 8 hx (by kernel_rfl) (fun k hk => by cases hk) (by kernel_rfl) (laid_met os))) ?_
  intro W base args ds gs before hval0 hW _ _ hsz0 hL _ _
  have hval : ∀ (j : Nat) t v, Tryd.f6.params[j]? = some t → args[j]? = some v → Value.okWide Tryd.prog W .any base t v := hval0
  have hsz : (DataW.weightsEach Tryd.prog (Tryd.f6.params.toList ++ Rows.ballotOrderSpec.plain.varTypes Tryd.prog) (ds ++ gs)).all (· ≤ reachBytes) = true := hsz0
  have hW' := hW
  obtain ⟨p, q, hA0, hV, rfl, hfz, hnd⟩ := hW
  have hA : DataW.TrodAll enc Tryd.prog W 0 (fun _ => true) true Tryd.f6.params.toList args.toList ds p := hA0
  rw [Tryd.params6] at hA hval hsz
  obtain ⟨v0, vs0, d0, ds0, p0, q0, hargs, rfl, rfl, h0, r0⟩ := trodAll_cons hA
  obtain ⟨v1, vs1, d1, ds1, p1, q1, rfl, rfl, rfl, h1, r1⟩ := trodAll_cons r0
  obtain ⟨v2, vs2, d2, ds2, p2, q2, rfl, rfl, rfl, h2, r2⟩ := trodAll_cons r1
  obtain ⟨v3, vs3, d3, ds3, p3, q3, rfl, rfl, rfl, h3, r3⟩ := trodAll_cons r2
  obtain ⟨rfl, rfl, rfl⟩ := trodAll_nil r3
  obtain rfl : args = #[v0, v1, v2, v3] := by cases args; simp_all
  obtain ⟨rfl, rfl⟩ := trodVars_none hV
  have k0 := h0
  have lt0 : ∀ x ∈ p0, x.block < W.heap.size := by obtain ⟨m, hm⟩ := k0; exact DataW.trod_lt m _ _ _ hm
  have k1 := h1
  have lt1 : ∀ x ∈ p1, x.block < W.heap.size := by obtain ⟨m, hm⟩ := k1; exact DataW.trod_lt m _ _ _ hm
  have k2 := h2
  have lt2 : ∀ x ∈ p2, x.block < W.heap.size := by obtain ⟨m, hm⟩ := k2; exact DataW.trod_lt m _ _ _ hm
  obtain ⟨c0_0, c0_1, y0_0, y0_1, m0, rfl, rfl, hp0, g0_0, g0_1⟩ := open_agg2 Tryd.underlying24 (by kernel_rfl) (by kernel_rfl) (hval 0 24 v0 rfl rfl) h0
  obtain ⟨a0_0, e0_0, rfl, w0_0⟩ := DataW.trod_int Tryd.underlying22 g0_0
  obtain rfl : c0_0 = .int .u32 a0_0 := by simpa using e0_0
  obtain ⟨a0_1, e0_1, rfl, w0_1⟩ := DataW.trod_int Tryd.underlying3 g0_1
  obtain rfl : c0_1 = .int .i64 a0_1 := by simpa using e0_1
  obtain ⟨c1_0, c1_1, y1_0, y1_1, m1, rfl, rfl, hp1, g1_0, g1_1⟩ := open_agg2 Tryd.underlying24 (by kernel_rfl) (by kernel_rfl) (hval 1 24 v1 rfl rfl) h1
  obtain ⟨a1_0, e1_0, rfl, w1_0⟩ := DataW.trod_int Tryd.underlying22 g1_0
  obtain rfl : c1_0 = .int .u32 a1_0 := by simpa using e1_0
  obtain ⟨a1_1, e1_1, rfl, w1_1⟩ := DataW.trod_int Tryd.underlying3 g1_1
  obtain rfl : c1_1 = .int .i64 a1_1 := by simpa using e1_1
  obtain ⟨c2_0, c2_1, y2_0, y2_1, m2, rfl, rfl, hp2, g2_0, g2_1⟩ := open_agg2 Tryd.underlying24 (by kernel_rfl) (by kernel_rfl) (hval 2 24 v2 rfl rfl) h2
  obtain ⟨a2_0, e2_0, rfl, w2_0⟩ := DataW.trod_int Tryd.underlying22 g2_0
  obtain rfl : c2_0 = .int .u32 a2_0 := by simpa using e2_0
  obtain ⟨a2_1, e2_1, rfl, w2_1⟩ := DataW.trod_int Tryd.underlying3 g2_1
  obtain rfl : c2_1 = .int .i64 a2_1 := by simpa using e2_1
  obtain ⟨a3, rfl, rfl, rfl⟩ := open_bool Tryd.underlying4 (hval 3 4 v3 rfl rfl) h3
  clear hA0 hval0
  refine (walk a0_0 a0_1 a1_0 a1_1 a2_0 a2_1 a3 W w0_0 w0_1 w1_0 w1_1 w2_0 w2_1 (Bl.tab_of hL)).mono fun e W' ⟨he, bel⟩ => ?_
  subst he
  exact ⟨_, rfl, _, _, _, [], _, [], hW', trodAll_mk1 (shut_bool Tryd.underlying4 _), (trodAll_cons_mk (Below.trod laidOut (by kernel_rfl) (of_decide_eq_true (by kernel_rfl)) k0 bel lt0) (trodAll_cons_mk (Below.trod laidOut (by kernel_rfl) (of_decide_eq_true (by kernel_rfl)) k1 bel lt1) (trodAll_cons_mk (Below.trod laidOut (by kernel_rfl) (of_decide_eq_true (by kernel_rfl)) k2 bel lt2) (trodAll_cons_mk (shut_bool Tryd.underlying4 _) trodAll_mk0)))), rfl, bel.frame _, fun h => by cases h⟩

theorem over : Rows.ballotOrderRow.holds Tryd.pinned (OpenSpec.ofChange Rows.ballotOrderSpec) :=
  OpenClaim.holds_of_cond 6 Tryd.f6 rfl rfl rfl rfl rfl rfl rfl ⟨rfl, rfl, rfl, rfl, rfl⟩ rfl rfl rfl rfl rfl (by kernel_rfl) Tryd.func6 (by kernel_rfl)
    (of_decide_eq_true (by kernel_rfl)) (by unfold Func.isWrapper; first | (rw [if_pos (by decide +kernel)]; kernel_rfl) | (rw [if_neg (by decide +kernel)]; exact ⟨rfl, rfl⟩))
    (fun os started H enc _ F => by rw [OpenClaim.pre_eq_preRow]; exact lifted os started H enc F)

/-- No parameter wants a stand-in. -/
theorem plain (f : FuncId) (fn : Func) (hf : Tryd.pinned.checked.prog.funcNamed "comitia/comitialaw06.BallotOrder" = some f) (hfn : Tryd.pinned.checked.prog.funcs[f]? = some fn) :
    false = Tryd.pinned.checked.prog.looks [] ∧ ∀ (j : Nat) t, fn.params[j]? = some t → Tryd.pinned.checked.prog.wantsStandIn t = false := by
  obtain rfl : f = 6 := Option.some.inj ((show Tryd.prog.funcNamed "comitia/comitialaw06.BallotOrder" = some 6 by kernel_rfl).symm.trans hf) |>.symm
  obtain rfl : fn = Tryd.f6 := (Option.some.inj (Tryd.func6.symm.trans hfn)).symm
  refine ⟨by kernel_rfl, fun j t ht => ?_⟩
  rw [Tryd.params6] at ht
  have hm : t ∈ [24, 24, 24, 4] := by simpa using Array.mem_of_getElem? ht
  have hall : ([24, 24, 24, 4].all fun u => !Tryd.prog.wantsStandIn u) = true := by kernel_rfl
  exact (show Tryd.prog.wantsStandIn t = false by simpa using List.all_eq_true.1 hall t hm)

theorem proved : Rows.BallotOrderCardSaid :=
  Claim7.holds_tied_plain_at .later [] _ _ _ _ over (fun _ h => by cases h) (by kernel_rfl) (fun _ h => by cases h) ballotOrder_row_tie rfl ⟨rfl, rfl⟩ (by kernel_rfl) rfl plain (by kernel_rfl)
end Go.Proofs.YthmadcmoendndaaDoor.ballotOrder
