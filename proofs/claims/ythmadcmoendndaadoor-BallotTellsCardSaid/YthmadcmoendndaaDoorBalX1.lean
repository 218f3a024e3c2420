/-
  The walk of the law BallotTells where near is false and the first ballot is of round 0. Condition: the table of powers of ten of the library lies as it was laid.
-/
import Derived.Test.YthmadcmoendndaaDoorBalK
import Derived.WalkKit
import Derived.ProofKit
import Derived.OpenShut
import Derived.ShutString
import Derived.SizedLaws
import Derived.ChangeOld
import Derived.Below
import Derived.Carry
import Derived.Lib.SmallJoins
import Derived.Deep.SlicePairs
import Derived.SliceStrings
namespace Go.Proofs.YthmadcmoendndaaDoor.ballotTells
open Go.ChangeShapes Go.WideShapes Go.ChangeAt Go.RowKit Go.Joins Go.Deep
open Go.ChangeMaps (open_string shut_string)
set_option linter.unusedVariables false

set_option maxRecDepth 100000 in
set_option maxHeartbeats 4000000 in
theorem way1 (a0_0 : Int) (a0_1 : Int) (a1_0 : Int) (a1_1 : Int) (a2 : Bool) (a3 : Int) (a4_0 : ByteArray) (a4_1 : Bool) (w : World) (w0_0 : (Lit.int .u32 a0_0).wf = true) (w0_1 : (Lit.int .i64 a0_1).wf = true) (w1_0 : (Lit.int .u32 a1_0).wf = true) (w1_1 : (Lit.int .i64 a1_1).wf = true) (w3 : (Lit.int .i64 a3).wf = true) (z4_0 : a4_0.size ≤ 140737488351232) (ht : Bl.Tab w) (ha : a2 = false) (hr : a0_0 = 0) :
    Calls Tryd.prog 3 #[.agg #[.int .u32 a0_0, .int .i64 a0_1], .agg #[.int .u32 a1_0, .int .i64 a1_1], .bool a2, .int .i64 a3, .agg #[.string a4_0, .bool a4_1]] w fun e w' => e = .returned (.bool true) ∧ Below w.heap.size w w' := by
  have q0 : 0 ≤ a0_0 ∧ a0_0 ≤ 4294967295 := by simpa [Lit.wf, IntKind.min, IntKind.max, IntKind.signed, IntKind.bits] using w0_0
  have q1 : 0 ≤ a1_0 ∧ a1_0 ≤ 4294967295 := by simpa [Lit.wf, IntKind.min, IntKind.max, IntKind.signed, IntKind.bits] using w1_0
  have p0 : -9223372036854775808 ≤ a0_1 ∧ a0_1 ≤ 9223372036854775807 := by simpa [Lit.wf, IntKind.min, IntKind.max, IntKind.signed, IntKind.bits] using w0_1
  have p1 : -9223372036854775808 ≤ a1_1 ∧ a1_1 ≤ 9223372036854775807 := by simpa [Lit.wf, IntKind.min, IntKind.max, IntKind.signed, IntKind.bits] using w1_1
  have p3 : -9223372036854775808 ≤ a3 ∧ a3 ≤ 9223372036854775807 := by simpa [Lit.wf, IntKind.min, IntKind.max, IntKind.signed, IntKind.bits] using w3
  obtain ⟨q00, q01⟩ := q0
  obtain ⟨q10, q11⟩ := q1
  obtain ⟨p00, p01⟩ := p0
  obtain ⟨p10, p11⟩ := p1
  obtain ⟨p30, p31⟩ := p3
  clear w0_0 w0_1 w1_0 w1_1 w3
  have htw := ht
  have hsm : a4_0.size ≤ maxLen := by unfold maxLen; omega
  have SM := Lib.hid hsm
  clear hsm
  obtain ⟨r1, e1⟩ : ∃ r, (if a2 then a0_0 % 3 else a0_0) = r := ⟨_, rfl⟩
  obtain ⟨v1, f1⟩ : ∃ r, (if a2 then a0_1.tmod 9 else a0_1) = r := ⟨_, rfl⟩
  obtain ⟨r2, e2⟩ : ∃ r, (if a2 then a1_0 % 3 else a1_0) = r := ⟨_, rfl⟩
  obtain ⟨v2, f2⟩ : ∃ r, (if a2 then a1_1.tmod 9 else a1_1) = r := ⟨_, rfl⟩
  obtain ⟨wh, e3⟩ : ∃ r, (if a2 then a3.tmod 10 else a3) = r := ⟨_, rfl⟩
  obtain ⟨bd, e4⟩ : ∃ b, (if a2 then false else a4_1) = b := ⟨_, rfl⟩
  have r10 : 0 ≤ r1 := by rw [← e1]; split <;> omega
  have r11 : r1 ≤ 4294967295 := by rw [← e1]; split <;> omega
  have v10 : -9223372036854775808 ≤ v1 := by rw [← f1]; exact (Bl.near_bd a2 a0_1 p00 p01).1
  have v11 : v1 ≤ 9223372036854775807 := by rw [← f1]; exact (Bl.near_bd a2 a0_1 p00 p01).2
  obtain ⟨x, y, ok, NX⟩ : ∃ x y b, Hid (Bl.nextB r1 wh = (x, y, b)) := ⟨_, _, _, Lib.hid rfl⟩
  obtain ⟨gx, gy, gt, gb, G⟩ : ∃ x y t b, Hid (Bl.getB a4_0 bd = (x, y, t, b)) := ⟨_, _, _, _, Lib.hid rfl⟩
  obtain ⟨p, P⟩ : ∃ p, Hid (Bl.rightB r1 v1 = p) := ⟨_, Lib.hid rfl⟩
  obtain ⟨z, Z⟩ : ∃ z, Hid (Bl.zeroB r1 v1 = z) := ⟨_, Lib.hid rfl⟩
  obtain ⟨k, KO⟩ : ∃ k, Hid (Bl.orderB r1 v1 r2 v2 = k) := ⟨_, Lib.hid rfl⟩
  obtain ⟨s, S⟩ : ∃ s, Hid (Bl.putB r1 v1 = s) := ⟨_, Lib.hid rfl⟩
  obtain ⟨t, T⟩ : ∃ t, Hid (Bl.textB r1 v1 = t) := ⟨_, Lib.hid rfl⟩
  have hz : (r1 = 0 ∧ (v1 == 0) = z) ∨ ((r1 == 0) = false ∧ z = false) := by
    by_cases h : r1 = 0
    · exact .inl ⟨h, by rw [← Z.out, h]; simp [Bl.zeroB]⟩
    · exact .inr ⟨by simp [h], by rw [← Z.out]; simp [Bl.zeroB, h]⟩
  have HZ := Lib.hid hz
  clear hz
  subst ha
  replace e1 : a0_0 = r1 := e1
  replace f1 : a0_1 = v1 := f1
  replace e2 : a1_0 = r2 := e2
  replace f2 : a1_1 = v2 := f2
  replace e3 : a3 = wh := e3
  replace e4 : a4_1 = bd := e4
  subst e1 f1 e2 f2 e3 e4
  subst hr
  go_enter Tryd.func3, Tryd.ntmps3
  go_wp2_with fail
  have bel' : Below w.heap.size w (((w.alloc (.cells #[.int .u32 0, .int .i64 a0_1] 24)).alloc (.cells #[.int .u32 a1_0, .int .i64 a1_1] 24)).alloc (.cells #[.string a4_0, .bool a4_1] 26)) := Bl.below_then ((Below.refl _ _)) (Bl.below_3 _ _ _ _) (Nat.le_refl _)
  have k5 := ((Bl.Pair.newAt (w) (.int .u32 0) (.int .i64 a0_1) 24 (w.heap.size) (by simp)).alloc (.cells #[.int .u32 a1_0, .int .i64 a1_1] 24)).alloc (.cells #[.string a4_0, .bool a4_1] 26)
  have k6 := (Bl.Pair.newAt (w.alloc (.cells #[.int .u32 0, .int .i64 a0_1] 24)) (.int .u32 a1_0) (.int .i64 a1_1) 24 (w.heap.size + 1) (by simp)).alloc (.cells #[.string a4_0, .bool a4_1] 26)
  have k9 := Bl.Pair.newAt ((w.alloc (.cells #[.int .u32 0, .int .i64 a0_1] 24)).alloc (.cells #[.int .u32 a1_0, .int .i64 a1_1] 24)) (.string a4_0) (.bool a4_1) 26 (w.heap.size + 1 + 1) (by simp)
  have ht' : Bl.Tab (((w.alloc (.cells #[.int .u32 0, .int .i64 a0_1] 24)).alloc (.cells #[.int .u32 a1_0, .int .i64 a1_1] 24)).alloc (.cells #[.string a4_0, .bool a4_1] 26)) := Bl.Tab.over (ht) (Bl.below_3 _ _ _ _)
  clear ht
  have ht := ht'; clear ht'
  have bel := bel'; clear bel'
  generalize ((w.alloc (.cells #[.int .u32 0, .int .i64 a0_1] 24)).alloc (.cells #[.int .u32 a1_0, .int .i64 a1_1] 24)).alloc (.cells #[.string a4_0, .bool a4_1] 26) = X1 at *
  refine (Bl.examples_any _ ht).mono ?_
  rintro e x2 ⟨rfl, hb⟩
  have belb := Bl.below_then bel hb bel.size; clear bel
  have k5b := k5.over hb; clear k5
  have k6b := k6.over hb; clear k6
  have k9b := k9.over hb; clear k9
  have htb := Bl.Tab.over ht hb; clear ht
  clear hb
  have k5 := k5b; clear k5b
  have k6 := k6b; clear k6b
  have k9 := k9b; clear k9b
  have ht := htb; clear htb
  have bel := belb; clear belb
  have ⟨k5_0, k5_1, k5_2, k5_3, k5_4⟩ := k5
  have ⟨k6_0, k6_1, k6_2, k6_3, k6_4⟩ := k6
  have ⟨k9_0, k9_1, k9_2, k9_3, k9_4⟩ := k9
  go_wp2_with fail
  refine (Bl.next_any 0 a0_1 a3 x y ok NX.out r10 r11 _).mono ?_
  rintro e x3 ⟨rfl, hb⟩
  have belb := Bl.below_then bel hb bel.size; clear bel
  clear k5_0 k5_1 k5_2 k5_3 k5_4 k6_0 k6_1 k6_2 k6_3 k6_4 k9_0 k9_1 k9_2 k9_3 k9_4
  have k5b := k5.over hb; clear k5
  have k6b := k6.over hb; clear k6
  have k9b := k9.over hb; clear k9
  have htb := Bl.Tab.over ht hb; clear ht
  clear hb
  have k5 := k5b; clear k5b
  have k6 := k6b; clear k6b
  have k9 := k9b; clear k9b
  have ht := htb; clear htb
  have bel := belb; clear belb
  have bel' : Below w.heap.size w (x3.alloc (.cells #[.int .u32 x, .int .i64 y] 24)) := Bl.below_then (bel) (Bl.below_1 _ _) bel.size
  have k5' := (k5).alloc (.cells #[.int .u32 x, .int .i64 y] 24)
  have k6' := (k6).alloc (.cells #[.int .u32 x, .int .i64 y] 24)
  have k9' := (k9).alloc (.cells #[.int .u32 x, .int .i64 y] 24)
  have k12 := Bl.Pair.newAt (x3) (.int .u32 x) (.int .i64 y) 24 (x3.heap.size) (by simp)
  have ht' : Bl.Tab (x3.alloc (.cells #[.int .u32 x, .int .i64 y] 24)) := Bl.Tab.over (ht) (Bl.below_1 _ _)
  clear bel k5 k6 k9 ht
  have k5 := k5'; clear k5'
  have k6 := k6'; clear k6'
  have k9 := k9'; clear k9'
  have ht := ht'; clear ht'
  have bel := bel'; clear bel'
  have ⟨k5_0, k5_1, k5_2, k5_3, k5_4⟩ := k5
  go_wp2_with fail
  generalize x3.alloc (.cells #[.int .u32 x, .int .i64 y] 24) = X3 at *
  generalize x3.heap.size = g3 at *
  refine (Bl.ref_any 0 a0_1 _).mono ?_
  rintro e x4 ⟨rfl, hb⟩
  have belb := Bl.below_then bel hb bel.size; clear bel
  clear k5_0 k5_1 k5_2 k5_3 k5_4
  have k5b := k5.over hb; clear k5
  have k6b := k6.over hb; clear k6
  have k9b := k9.over hb; clear k9
  have k12b := k12.over hb; clear k12
  have htb := Bl.Tab.over ht hb; clear ht
  clear hb
  have k5 := k5b; clear k5b
  have k6 := k6b; clear k6b
  have k9 := k9b; clear k9b
  have k12 := k12b; clear k12b
  have ht := htb; clear htb
  have bel := belb; clear belb
  go_wp2_with fail
  refine (Bl.refnext_any 0 a0_1 a3 x y ok NX.out r10 r11 _).mono ?_
  rintro e x5 ⟨rfl, hb⟩
  have belb := Bl.below_then bel hb bel.size; clear bel
  have k5b := k5.over hb; clear k5
  have k6b := k6.over hb; clear k6
  have k9b := k9.over hb; clear k9
  have k12b := k12.over hb; clear k12
  have htb := Bl.Tab.over ht hb; clear ht
  clear hb
  have k5 := k5b; clear k5b
  have k6 := k6b; clear k6b
  have k9 := k9b; clear k9b
  have k12 := k12b; clear k12b
  have ht := htb; clear htb
  have bel := belb; clear belb
  have bel' : Below w.heap.size w (x5.alloc (.cells #[.int .u32 x, .int .i64 y] 30)) := Bl.below_then (bel) (Bl.below_1 _ _) bel.size
  have k5' := (k5).alloc (.cells #[.int .u32 x, .int .i64 y] 30)
  have k6' := (k6).alloc (.cells #[.int .u32 x, .int .i64 y] 30)
  have k9' := (k9).alloc (.cells #[.int .u32 x, .int .i64 y] 30)
  have k12' := (k12).alloc (.cells #[.int .u32 x, .int .i64 y] 30)
  have k14 := Bl.Pair.newAt (x5) (.int .u32 x) (.int .i64 y) 30 (x5.heap.size) (by simp)
  have ht' : Bl.Tab (x5.alloc (.cells #[.int .u32 x, .int .i64 y] 30)) := Bl.Tab.over (ht) (Bl.below_1 _ _)
  clear bel k5 k6 k9 k12 ht
  have k5 := k5'; clear k5'
  have k6 := k6'; clear k6'
  have k9 := k9'; clear k9'
  have k12 := k12'; clear k12'
  have ht := ht'; clear ht'
  have bel := bel'; clear bel'
  have ⟨k9_0, k9_1, k9_2, k9_3, k9_4⟩ := k9
  go_wp2_with fail
  generalize x5.alloc (.cells #[.int .u32 x, .int .i64 y] 30) = X5 at *
  generalize x5.heap.size = g5 at *
  refine (Bl.get_any a4_0 a4_1 gx gy gt gb G.out SM.out _).mono ?_
  rintro e x6 ⟨rfl, hb⟩
  have belb := Bl.below_then bel hb bel.size; clear bel
  clear k9_0 k9_1 k9_2 k9_3 k9_4
  have k5b := k5.over hb; clear k5
  have k6b := k6.over hb; clear k6
  have k9b := k9.over hb; clear k9
  have k12b := k12.over hb; clear k12
  have k14b := k14.over hb; clear k14
  have htb := Bl.Tab.over ht hb; clear ht
  clear hb
  have k5 := k5b; clear k5b
  have k6 := k6b; clear k6b
  have k9 := k9b; clear k9b
  have k12 := k12b; clear k12b
  have k14 := k14b; clear k14b
  have ht := htb; clear htb
  have bel := belb; clear belb
  have bel' : Below w.heap.size w ((x6.alloc (.cells #[.int .u32 gx, .int .i64 gy] 24)).alloc (.cells #[.string gt, .bool gb] 26)) := Bl.below_then (bel) (Bl.below_2 _ _ _) bel.size
  have k5' := ((k5).alloc (.cells #[.int .u32 gx, .int .i64 gy] 24)).alloc (.cells #[.string gt, .bool gb] 26)
  have k6' := ((k6).alloc (.cells #[.int .u32 gx, .int .i64 gy] 24)).alloc (.cells #[.string gt, .bool gb] 26)
  have k9' := ((k9).alloc (.cells #[.int .u32 gx, .int .i64 gy] 24)).alloc (.cells #[.string gt, .bool gb] 26)
  have k12' := ((k12).alloc (.cells #[.int .u32 gx, .int .i64 gy] 24)).alloc (.cells #[.string gt, .bool gb] 26)
  have k14' := ((k14).alloc (.cells #[.int .u32 gx, .int .i64 gy] 24)).alloc (.cells #[.string gt, .bool gb] 26)
  have k16 := (Bl.Pair.newAt (x6) (.int .u32 gx) (.int .i64 gy) 24 (x6.heap.size) (by simp)).alloc (.cells #[.string gt, .bool gb] 26)
  have k17 := Bl.Pair.newAt (x6.alloc (.cells #[.int .u32 gx, .int .i64 gy] 24)) (.string gt) (.bool gb) 26 (x6.heap.size + 1) (by simp)
  have ht' : Bl.Tab ((x6.alloc (.cells #[.int .u32 gx, .int .i64 gy] 24)).alloc (.cells #[.string gt, .bool gb] 26)) := Bl.Tab.over (ht) (Bl.below_2 _ _ _)
  clear bel k5 k6 k9 k12 k14 ht
  have k5 := k5'; clear k5'
  have k6 := k6'; clear k6'
  have k9 := k9'; clear k9'
  have k12 := k12'; clear k12'
  have k14 := k14'; clear k14'
  have ht := ht'; clear ht'
  have bel := bel'; clear bel'
  have ⟨k9_0, k9_1, k9_2, k9_3, k9_4⟩ := k9
  go_wp2_with fail
  generalize (x6.alloc (.cells #[.int .u32 gx, .int .i64 gy] 24)).alloc (.cells #[.string gt, .bool gb] 26) = X6 at *
  generalize x6.heap.size = g6 at *
  refine (Bl.refget_any a4_0 a4_1 gx gy gt gb G.out SM.out _).mono ?_
  rintro e x7 ⟨rfl, hb⟩
  have belb := Bl.below_then bel hb bel.size; clear bel
  clear k9_0 k9_1 k9_2 k9_3 k9_4
  have k5b := k5.over hb; clear k5
  have k6b := k6.over hb; clear k6
  have k9b := k9.over hb; clear k9
  have k12b := k12.over hb; clear k12
  have k14b := k14.over hb; clear k14
  have k16b := k16.over hb; clear k16
  have k17b := k17.over hb; clear k17
  have htb := Bl.Tab.over ht hb; clear ht
  clear hb
  have k5 := k5b; clear k5b
  have k6 := k6b; clear k6b
  have k9 := k9b; clear k9b
  have k12 := k12b; clear k12b
  have k14 := k14b; clear k14b
  have k16 := k16b; clear k16b
  have k17 := k17b; clear k17b
  have ht := htb; clear htb
  have bel := belb; clear belb
  have bel' : Below w.heap.size w ((x7.alloc (.cells #[.int .u32 gx, .int .i64 gy] 30)).alloc (.cells #[.string gt, .bool gb] 36)) := Bl.below_then (bel) (Bl.below_2 _ _ _) bel.size
  have k5' := ((k5).alloc (.cells #[.int .u32 gx, .int .i64 gy] 30)).alloc (.cells #[.string gt, .bool gb] 36)
  have k6' := ((k6).alloc (.cells #[.int .u32 gx, .int .i64 gy] 30)).alloc (.cells #[.string gt, .bool gb] 36)
  have k9' := ((k9).alloc (.cells #[.int .u32 gx, .int .i64 gy] 30)).alloc (.cells #[.string gt, .bool gb] 36)
  have k12' := ((k12).alloc (.cells #[.int .u32 gx, .int .i64 gy] 30)).alloc (.cells #[.string gt, .bool gb] 36)
  have k14' := ((k14).alloc (.cells #[.int .u32 gx, .int .i64 gy] 30)).alloc (.cells #[.string gt, .bool gb] 36)
  have k16' := ((k16).alloc (.cells #[.int .u32 gx, .int .i64 gy] 30)).alloc (.cells #[.string gt, .bool gb] 36)
  have k17' := ((k17).alloc (.cells #[.int .u32 gx, .int .i64 gy] 30)).alloc (.cells #[.string gt, .bool gb] 36)
  have k18 := (Bl.Pair.newAt (x7) (.int .u32 gx) (.int .i64 gy) 30 (x7.heap.size) (by simp)).alloc (.cells #[.string gt, .bool gb] 36)
  have k19 := Bl.Pair.newAt (x7.alloc (.cells #[.int .u32 gx, .int .i64 gy] 30)) (.string gt) (.bool gb) 36 (x7.heap.size + 1) (by simp)
  have ht' : Bl.Tab ((x7.alloc (.cells #[.int .u32 gx, .int .i64 gy] 30)).alloc (.cells #[.string gt, .bool gb] 36)) := Bl.Tab.over (ht) (Bl.below_2 _ _ _)
  clear bel k5 k6 k9 k12 k14 k16 k17 ht
  have k5 := k5'; clear k5'
  have k6 := k6'; clear k6'
  have k9 := k9'; clear k9'
  have k12 := k12'; clear k12'
  have k14 := k14'; clear k14'
  have k16 := k16'; clear k16'
  have k17 := k17'; clear k17'
  have ht := ht'; clear ht'
  have bel := bel'; clear bel'
  go_wp2
  generalize (x7.alloc (.cells #[.int .u32 gx, .int .i64 gy] 30)).alloc (.cells #[.string gt, .bool gb] 36) = X7 at *
  generalize x7.heap.size = g7 at *
  have h2 : (a0_1 == 0) = z := by
    rcases HZ.out with h | h
    · exact h.2
    · exact absurd h.1 (by simp)
  have hd : Bl.Rows4 w w.heap.size [(w.heap.size, .int .u32 0, .int .i64 a0_1), (w.heap.size + 1, .int .u32 a1_0, .int .i64 a1_1), (g3, .int .u32 x, .int .i64 y), (g5, .int .u32 x, .int .i64 y), (g6, .int .u32 gx, .int .i64 gy), (g6 + 1, .string gt, .bool gb), (g7, .int .u32 gx, .int .i64 gy), (g7 + 1, .string gt, .bool gb)] X7.drew := ⟨bel.drew, bel.size, by simp only [List.forall_mem_cons, List.not_mem_nil, false_imp_iff, implies_true, and_true]; exact ⟨k5.drew, k6.drew, k12.drew, k14.drew, k16.drew, k17.drew, k18.drew, k19.drew⟩⟩
  have hT : Bl.Tab X7.drew := Bl.Tab.over htw bel.drew
  clear bel k5 k6 k9 k12 k14 k16 k17 k18 k19 ht
  refine wp_region_held_drew (S := fun w' => w'.cell? ⟨w.heap.size, 0, none⟩ = some (.int .u32 0) ∧ w'.cell? ⟨w.heap.size, 1, none⟩ = some (.int .i64 a0_1) ∧ w'.cell? ⟨w.heap.size + 1, 0, none⟩ = some (.int .u32 a1_0) ∧ w'.cell? ⟨w.heap.size + 1, 1, none⟩ = some (.int .i64 a1_1) ∧ w'.cell? ⟨g3, 0, none⟩ = some (.int .u32 x) ∧ w'.cell? ⟨g3, 1, none⟩ = some (.int .i64 y) ∧ w'.cell? ⟨g5, 0, none⟩ = some (.int .u32 x) ∧ w'.cell? ⟨g5, 1, none⟩ = some (.int .i64 y) ∧ w'.cell? ⟨g6, 0, none⟩ = some (.int .u32 gx) ∧ w'.cell? ⟨g6, 1, none⟩ = some (.int .i64 gy) ∧ w'.cell? ⟨g6 + 1, 0, none⟩ = some (.string gt) ∧ w'.cell? ⟨g6 + 1, 1, none⟩ = some (.bool gb) ∧ w'.cell? ⟨g7, 0, none⟩ = some (.int .u32 gx) ∧ w'.cell? ⟨g7, 1, none⟩ = some (.int .i64 gy) ∧ w'.cell? ⟨g7 + 1, 0, none⟩ = some (.string gt) ∧ w'.cell? ⟨g7 + 1, 1, none⟩ = some (.bool gb)) (by kernel_rfl) (Bl.Rows4.cells8 hd) (fun hHeld => ?_)
  refine Bl.take_yes (i := 0) (oi := ⟨some 68, _, _, _, _, _⟩) (v := ?_) rfl (by kernel_rfl) (by kernel_rfl) (by kernel_rfl) (fun _ _ _ h => h) (by kernel_rfl) ?_ (by assumption) ?_
  rotate_left
  · (intro w' hSw; (try dsimp only at hSw); first | (go_simp; done) | (go_simp; with_reducible rfl))
  (try simp only [Act.put]); (try simp only [List.setIfInBounds_toArray]); (try simp only [List.set_cons_succ]); (try simp only [List.set_cons_zero])
  refine Bl.take_yes (i := 1) (oi := ⟨some 69, _, _, _, _, _⟩) (v := ?_) rfl (by kernel_rfl) (by kernel_rfl) (by kernel_rfl) (fun _ _ _ h => h) (by kernel_rfl) ?_ (by assumption) ?_
  rotate_left
  · (intro w' hSw; (try dsimp only at hSw); first | (go_simp; done) | (go_simp; with_reducible rfl))
  (try simp only [Act.put]); (try simp only [List.setIfInBounds_toArray]); (try simp only [List.set_cons_succ]); (try simp only [List.set_cons_zero])
  refine Bl.take_yes (i := 2) (oi := ⟨some 70, _, _, _, _, _⟩) (v := ?_) rfl (by kernel_rfl) (by kernel_rfl) (by kernel_rfl) (fun _ _ _ h => h) (by kernel_rfl) ?_ (by assumption) ?_
  rotate_left
  · (intro w' hSw; (try dsimp only at hSw); first | (go_simp; done) | (go_simp; with_reducible rfl))
  (try simp only [Act.put]); (try simp only [List.setIfInBounds_toArray]); (try simp only [List.set_cons_succ]); (try simp only [List.set_cons_zero])
  refine Bl.take_yes (i := 4) (oi := ⟨some 72, _, _, _, _, _⟩) (v := ?_) rfl (by kernel_rfl) (by kernel_rfl) (by kernel_rfl) (fun _ _ _ h => h) (by kernel_rfl) ?_ (by assumption) ?_
  rotate_left
  · (intro w' hSw; (try dsimp only at hSw); first | (go_simp; done) | (go_simp; with_reducible rfl))
  (try simp only [Act.put]); (try simp only [List.setIfInBounds_toArray]); (try simp only [List.set_cons_succ]); (try simp only [List.set_cons_zero])
  refine wpAnyH_ready (rs := [3]) (by kernel_rfl) (by simp) ?_
  refine AllReadyH.cons (o := ⟨some 71, _, _, _, _, _⟩) rfl (fun K hK => ?_) AllReadyH.nil
  go_simp
  go_at_call 15
  refine (Bl.right_any 0 a0_1 p P.out _).mono ?_
  rintro e y3 ⟨rfl, hb⟩
  have hd2 := Bl.Rows4.keep hb hd; clear hd; have hd := hd2; clear hd2
  have hT2 := Bl.Tab.over hT hb; clear hT; have hT := hT2; clear hT2
  clear hb
  (try go_wp2_with fail)
  refine hK.out _ _ (Bl.Rows4.cells8 hd) (fun hHeld2 => ?_)
  clear hK hHeld; have hHeld := hHeld2; clear hHeld2
  (try simp only [Act.put]); (try simp only [List.setIfInBounds_toArray]); (try simp only [List.set_cons_succ]); (try simp only [List.set_cons_zero])
  refine wpAnyH_ready (rs := [5]) (by kernel_rfl) (by simp) ?_
  refine AllReadyH.cons (o := ⟨some 73, _, _, _, _, _⟩) rfl (fun K hK => ?_) AllReadyH.nil
  go_simp
  go_at_call 12
  refine (Bl.ref_any 0 a0_1 _).mono ?_
  rintro e y5 ⟨rfl, hb⟩
  have hd2 := Bl.Rows4.keep hb hd; clear hd; have hd := hd2; clear hd2
  have hT2 := Bl.Tab.over hT hb; clear hT; have hT := hT2; clear hT2
  clear hb
  (try go_wp2_with fail)
  refine hK.out _ _ (Bl.Rows4.cells8 hd) (fun hHeld2 => ?_)
  clear hK hHeld; have hHeld := hHeld2; clear hHeld2
  (try simp only [Act.put]); (try simp only [List.setIfInBounds_toArray]); (try simp only [List.set_cons_succ]); (try simp only [List.set_cons_zero])
  refine wpAnyH_ready (rs := [6]) (by kernel_rfl) (by simp) ?_
  refine AllReadyH.cons (o := ⟨some 74, _, _, _, _, _⟩) rfl (fun K hK => ?_) AllReadyH.nil
  go_simp
  go_at_call 16
  refine (Bl.refright_any 0 a0_1 p P.out (by omega) _).mono ?_
  rintro e y6 ⟨rfl, hb⟩
  have hd2 := Bl.Rows4.keep hb hd; clear hd; have hd := hd2; clear hd2
  have hT2 := Bl.Tab.over hT hb; clear hT; have hT := hT2; clear hT2
  clear hb
  (try go_wp2_with fail)
  refine hK.out _ _ (Bl.Rows4.cells8 hd) (fun hHeld2 => ?_)
  clear hK hHeld; have hHeld := hHeld2; clear hHeld2
  (try simp only [Act.put]); (try simp only [List.setIfInBounds_toArray]); (try simp only [List.set_cons_succ]); (try simp only [List.set_cons_zero])
  refine Bl.take_yes (i := 7) (oi := ⟨some 75, _, _, _, _, _⟩) (v := ?_) rfl (by kernel_rfl) (by kernel_rfl) (by kernel_rfl) (fun _ _ _ h => h) (by kernel_rfl) ?_ (by assumption) ?_
  rotate_left
  · (intro w' hSw; (try dsimp only at hSw); first | (go_simp; done) | (go_simp; with_reducible rfl))
  (try simp only [Act.put]); (try simp only [List.setIfInBounds_toArray]); (try simp only [List.set_cons_succ]); (try simp only [List.set_cons_zero])
  refine Bl.take_yes (i := 8) (oi := ⟨some 76, _, _, _, _, _⟩) (v := ?_) rfl (by kernel_rfl) (by kernel_rfl) (by kernel_rfl) (fun _ _ _ h => h) (by kernel_rfl) ?_ (by assumption) ?_
  rotate_left
  · (intro w' hSw; (try dsimp only at hSw); first | (go_simp; done) | (go_simp; with_reducible rfl))
  (try simp only [Act.put]); (try simp only [List.setIfInBounds_toArray]); (try simp only [List.set_cons_succ]); (try simp only [List.set_cons_zero])
  refine Bl.take_yes (i := 9) (oi := ⟨some 77, _, _, _, _, _⟩) (v := ?_) rfl (by kernel_rfl) (by kernel_rfl) (by kernel_rfl) (fun _ _ _ h => h) (by kernel_rfl) ?_ (by assumption) ?_
  rotate_left
  · (intro w' hSw; (try dsimp only at hSw); first | (go_simp; done) | (go_simp; with_reducible rfl))
  (try simp only [Act.put]); (try simp only [List.setIfInBounds_toArray]); (try simp only [List.set_cons_succ]); (try simp only [List.set_cons_zero])
  refine Bl.take_yes (i := 10) (oi := ⟨some 78, _, _, _, _, _⟩) (v := ?_) rfl (by kernel_rfl) (by kernel_rfl) (by kernel_rfl) (fun _ _ _ h => h) (by kernel_rfl) ?_ (by assumption) ?_
  rotate_left
  · (intro w' hSw; (try dsimp only at hSw); first | (go_simp; done) | (go_simp; with_reducible rfl))
  (try simp only [Act.put]); (try simp only [List.setIfInBounds_toArray]); (try simp only [List.set_cons_succ]); (try simp only [List.set_cons_zero])
  refine Bl.take_yes (i := 12) (oi := ⟨some 80, _, _, _, _, _⟩) (v := ?_) rfl (by kernel_rfl) (by kernel_rfl) (by kernel_rfl) (fun _ _ _ h => h) (by kernel_rfl) ?_ (by assumption) ?_
  rotate_left
  · (intro w' hSw; (try dsimp only at hSw); first | (go_simp; done) | (go_simp; with_reducible rfl))
  (try simp only [Act.put]); (try simp only [List.setIfInBounds_toArray]); (try simp only [List.set_cons_succ]); (try simp only [List.set_cons_zero])
  refine Bl.take_yes (i := 13) (oi := ⟨some 81, _, _, _, _, _⟩) (v := ?_) rfl (by kernel_rfl) (by kernel_rfl) (by kernel_rfl) (fun _ _ _ h => h) (by kernel_rfl) ?_ (by assumption) ?_
  rotate_left
  · (intro w' hSw; (try dsimp only at hSw); first | (go_simp; done) | (go_simp; with_reducible rfl))
  (try simp only [Act.put]); (try simp only [List.setIfInBounds_toArray]); (try simp only [List.set_cons_succ]); (try simp only [List.set_cons_zero])
  refine Bl.take_yes (i := 14) (oi := ⟨some 82, _, _, _, _, _⟩) (v := ?_) rfl (by kernel_rfl) (by kernel_rfl) (by kernel_rfl) (fun _ _ _ h => h) (by kernel_rfl) ?_ (by assumption) ?_
  rotate_left
  · (intro w' hSw; (try dsimp only at hSw); first | (go_simp; done) | (go_simp; with_reducible rfl))
  (try simp only [Act.put]); (try simp only [List.setIfInBounds_toArray]); (try simp only [List.set_cons_succ]); (try simp only [List.set_cons_zero])
  refine wpAnyH_ready (rs := [11]) (by kernel_rfl) (by simp) ?_
  refine AllReadyH.cons (o := ⟨some 79, _, _, _, _, _⟩) rfl (fun K hK => ?_) AllReadyH.nil
  go_simp
  go_at_call 17
  refine (Bl.zero_any 0 a0_1 z Z.out _).mono ?_
  rintro e y11 ⟨rfl, hb⟩
  have hd2 := Bl.Rows4.keep hb hd; clear hd; have hd := hd2; clear hd2
  have hT2 := Bl.Tab.over hT hb; clear hT; have hT := hT2; clear hT2
  clear hb
  (try go_wp2_with fail)
  refine hK.out _ _ (Bl.Rows4.cells8 hd) (fun hHeld2 => ?_)
  clear hK hHeld; have hHeld := hHeld2; clear hHeld2
  (try simp only [Act.put]); (try simp only [List.setIfInBounds_toArray]); (try simp only [List.set_cons_succ]); (try simp only [List.set_cons_zero])
  refine Bl.take_yes (i := 15) (oi := ⟨some 83, _, _, _, _, _⟩) (v := ?_) rfl (by kernel_rfl) (by kernel_rfl) (by kernel_rfl) (fun _ _ _ h => h) (by kernel_rfl) ?_ (by assumption) ?_
  rotate_left
  · (intro w' hSw; (try dsimp only at hSw); first | (go_simp; done) | (go_simp; with_reducible rfl))
  (try simp only [Act.put]); (try simp only [List.setIfInBounds_toArray]); (try simp only [List.set_cons_succ]); (try simp only [List.set_cons_zero])
  refine Bl.take_yes (i := 16) (oi := ⟨some 84, _, _, _, _, _⟩) (v := ?_) rfl (by kernel_rfl) (by kernel_rfl) (by kernel_rfl) (fun _ _ _ h => h) (by kernel_rfl) ?_ (by assumption) ?_
  rotate_left
  · (intro w' hSw; (try dsimp only at hSw); first | (go_simp; done) | (go_simp; with_reducible rfl))
  (try simp only [Act.put]); (try simp only [List.setIfInBounds_toArray]); (try simp only [List.set_cons_succ]); (try simp only [List.set_cons_zero])
  refine Bl.take_yes (i := 17) (oi := ⟨some 85, _, _, _, _, _⟩) (v := ?_) rfl (by kernel_rfl) (by kernel_rfl) (by kernel_rfl) (fun _ _ _ h => h) (by kernel_rfl) ?_ (by assumption) ?_
  rotate_left
  · (intro w' hSw; (try dsimp only at hSw); first | (go_simp; done) | (go_simp; with_reducible rfl))
  (try simp only [Act.put]); (try simp only [List.setIfInBounds_toArray]); (try simp only [List.set_cons_succ]); (try simp only [List.set_cons_zero])
  refine Bl.take_yes (i := 18) (oi := ⟨some 86, _, _, _, _, _⟩) (v := ?_) rfl (by kernel_rfl) (by kernel_rfl) (by kernel_rfl) (fun _ _ _ h => h) (by kernel_rfl) ?_ (by assumption) ?_
  rotate_left
  · (intro w' hSw; (try dsimp only at hSw); first | (go_simp; done) | (go_simp; with_reducible rfl))
  (try simp only [Act.put]); (try simp only [List.setIfInBounds_toArray]); (try simp only [List.set_cons_succ]); (try simp only [List.set_cons_zero])
  refine Bl.take_yes (i := 19) (oi := ⟨some 87, _, _, _, _, _⟩) (v := ?_) rfl (by kernel_rfl) (by kernel_rfl) (by kernel_rfl) (fun _ _ _ h => h) (by kernel_rfl) ?_ (by assumption) ?_
  rotate_left
  · (intro w' hSw; (try dsimp only at hSw); first | (go_simp; done) | (go_simp; with_reducible rfl))
  (try simp only [Act.put]); (try simp only [List.setIfInBounds_toArray]); (try simp only [List.set_cons_succ]); (try simp only [List.set_cons_zero])
  refine Bl.take_yes (i := 20) (oi := ⟨some 88, _, _, _, _, _⟩) (v := ?_) rfl (by kernel_rfl) (by kernel_rfl) (by kernel_rfl) (fun _ _ _ h => h) (by kernel_rfl) ?_ (by assumption) ?_
  rotate_left
  · (intro w' hSw; (try dsimp only at hSw); first | (go_simp; done) | (go_simp; with_reducible rfl))
  (try simp only [Act.put]); (try simp only [List.setIfInBounds_toArray]); (try simp only [List.set_cons_succ]); (try simp only [List.set_cons_zero])
  refine Bl.take_yes (i := 21) (oi := ⟨some 89, _, _, _, _, _⟩) (v := ?_) rfl (by kernel_rfl) (by kernel_rfl) (by kernel_rfl) (fun _ _ _ h => h) (by kernel_rfl) ?_ (by assumption) ?_
  rotate_left
  · (intro w' hSw; (try dsimp only at hSw); first | (go_simp; done) | (go_simp; with_reducible rfl))
  (try simp only [Act.put]); (try simp only [List.setIfInBounds_toArray]); (try simp only [List.set_cons_succ]); (try simp only [List.set_cons_zero])
  refine Bl.take_yes (i := 22) (oi := ⟨some 90, _, _, _, _, _⟩) (v := ?_) rfl (by kernel_rfl) (by kernel_rfl) (by kernel_rfl) (fun _ _ _ h => h) (by kernel_rfl) ?_ (by assumption) ?_
  rotate_left
  · (intro w' hSw; (try dsimp only at hSw); first | (go_simp; done) | (go_simp; with_reducible rfl))
  (try simp only [Act.put]); (try simp only [List.setIfInBounds_toArray]); (try simp only [List.set_cons_succ]); (try simp only [List.set_cons_zero])
  refine Bl.take_yes (i := 23) (oi := ⟨some 91, _, _, _, _, _⟩) (v := ?_) rfl (by kernel_rfl) (by kernel_rfl) (by kernel_rfl) (fun _ _ _ h => h) (by kernel_rfl) ?_ (by assumption) ?_
  rotate_left
  · (intro w' hSw; (try dsimp only at hSw); first | (go_simp; done) | (go_simp; with_reducible rfl))
  (try simp only [Act.put]); (try simp only [List.setIfInBounds_toArray]); (try simp only [List.set_cons_succ]); (try simp only [List.set_cons_zero])
  refine Bl.take_yes (i := 24) (oi := ⟨some 92, _, _, _, _, _⟩) (v := ?_) rfl (by kernel_rfl) (by kernel_rfl) (by kernel_rfl) (fun _ _ _ h => h) (by kernel_rfl) ?_ (by assumption) ?_
  rotate_left
  · (intro w' hSw; (try dsimp only at hSw); first | (go_simp; done) | (go_simp; with_reducible rfl))
  (try simp only [Act.put]); (try simp only [List.setIfInBounds_toArray]); (try simp only [List.set_cons_succ]); (try simp only [List.set_cons_zero])
  refine Bl.take_yes (i := 26) (oi := ⟨some 94, _, _, _, _, _⟩) (v := ?_) rfl (by kernel_rfl) (by kernel_rfl) (by kernel_rfl) (fun _ _ _ h => h) (by kernel_rfl) ?_ (by assumption) ?_
  rotate_left
  · (intro w' hSw; (try dsimp only at hSw); first | (go_simp; done) | (go_simp; with_reducible rfl))
  (try simp only [Act.put]); (try simp only [List.setIfInBounds_toArray]); (try simp only [List.set_cons_succ]); (try simp only [List.set_cons_zero])
  refine Bl.take_yes (i := 28) (oi := ⟨some 96, _, _, _, _, _⟩) (v := ?_) rfl (by kernel_rfl) (by kernel_rfl) (by kernel_rfl) (fun _ _ _ h => h) (by kernel_rfl) ?_ (by assumption) ?_
  rotate_left
  · (intro w' hSw; (try dsimp only at hSw); first | (go_simp; done) | (go_simp; with_reducible rfl))
  (try simp only [Act.put]); (try simp only [List.setIfInBounds_toArray]); (try simp only [List.set_cons_succ]); (try simp only [List.set_cons_zero])
  refine wpAnyH_ready (rs := [25]) (by kernel_rfl) (by simp) ?_
  refine AllReadyH.cons (o := ⟨some 93, _, _, _, _, _⟩) rfl (fun K hK => ?_) AllReadyH.nil
  go_simp
  go_at_call 18
  refine (Bl.order_any 0 a0_1 a1_0 a1_1 k KO.out _).mono ?_
  rintro e y25 ⟨rfl, hb⟩
  have hd2 := Bl.Rows4.keep hb hd; clear hd; have hd := hd2; clear hd2
  have hT2 := Bl.Tab.over hT hb; clear hT; have hT := hT2; clear hT2
  clear hb
  (try go_wp2_with fail)
  refine hK.out _ _ (Bl.Rows4.cells8 hd) (fun hHeld2 => ?_)
  clear hK hHeld; have hHeld := hHeld2; clear hHeld2
  (try simp only [Act.put]); (try simp only [List.setIfInBounds_toArray]); (try simp only [List.set_cons_succ]); (try simp only [List.set_cons_zero])
  refine wpAnyH_ready (rs := [27]) (by kernel_rfl) (by simp) ?_
  refine AllReadyH.cons (o := ⟨some 95, _, _, _, _, _⟩) rfl (fun K hK => ?_) AllReadyH.nil
  go_simp
  go_at_call 12
  refine (Bl.ref_any 0 a0_1 _).mono ?_
  rintro e y27 ⟨rfl, hb⟩
  have hd2 := Bl.Rows4.keep hb hd; clear hd; have hd := hd2; clear hd2
  have hT2 := Bl.Tab.over hT hb; clear hT; have hT := hT2; clear hT2
  clear hb
  (try go_wp2_with fail)
  refine hK.out _ _ (Bl.Rows4.cells8 hd) (fun hHeld2 => ?_)
  clear hK hHeld; have hHeld := hHeld2; clear hHeld2
  (try simp only [Act.put]); (try simp only [List.setIfInBounds_toArray]); (try simp only [List.set_cons_succ]); (try simp only [List.set_cons_zero])
  refine wpAnyH_ready (rs := [29]) (by kernel_rfl) (by simp) ?_
  refine AllReadyH.cons (o := ⟨some 97, _, _, _, _, _⟩) rfl (fun K hK => ?_) AllReadyH.nil
  go_simp
  go_at_call 12
  refine (Bl.ref_any a1_0 a1_1 _).mono ?_
  rintro e y29 ⟨rfl, hb⟩
  have hd2 := Bl.Rows4.keep hb hd; clear hd; have hd := hd2; clear hd2
  have hT2 := Bl.Tab.over hT hb; clear hT; have hT := hT2; clear hT2
  clear hb
  (try go_wp2_with fail)
  refine hK.out _ _ (Bl.Rows4.cells8 hd) (fun hHeld2 => ?_)
  clear hK hHeld; have hHeld := hHeld2; clear hHeld2
  (try simp only [Act.put]); (try simp only [List.setIfInBounds_toArray]); (try simp only [List.set_cons_succ]); (try simp only [List.set_cons_zero])
  refine wpAnyH_ready (rs := [30]) (by kernel_rfl) (by simp) ?_
  refine AllReadyH.cons (o := ⟨some 98, _, _, _, _, _⟩) rfl (fun K hK => ?_) AllReadyH.nil
  go_simp
  go_at_call 19
  refine (Bl.reforder_any 0 a0_1 a1_0 a1_1 k KO.out _).mono ?_
  rintro e y30 ⟨rfl, hb⟩
  have hd2 := Bl.Rows4.keep hb hd; clear hd; have hd := hd2; clear hd2
  have hT2 := Bl.Tab.over hT hb; clear hT; have hT := hT2; clear hT2
  clear hb
  (try go_wp2_with fail)
  refine hK.out _ _ (Bl.Rows4.cells8 hd) (fun hHeld2 => ?_)
  clear hK hHeld; have hHeld := hHeld2; clear hHeld2
  (try simp only [Act.put]); (try simp only [List.setIfInBounds_toArray]); (try simp only [List.set_cons_succ]); (try simp only [List.set_cons_zero])
  refine Bl.take_yes (i := 31) (oi := ⟨some 99, _, _, _, _, _⟩) (v := ?_) rfl (by kernel_rfl) (by kernel_rfl) (by kernel_rfl) (fun _ _ _ h => h) (by kernel_rfl) ?_ (by assumption) ?_
  rotate_left
  · (intro w' hSw; (try dsimp only at hSw); first | (go_simp; done) | (go_simp; with_reducible rfl))
  (try simp only [Act.put]); (try simp only [List.setIfInBounds_toArray]); (try simp only [List.set_cons_succ]); (try simp only [List.set_cons_zero])
  refine Bl.take_yes (i := 32) (oi := ⟨some 100, _, _, _, _, _⟩) (v := ?_) rfl (by kernel_rfl) (by kernel_rfl) (by kernel_rfl) (fun _ _ _ h => h) (by kernel_rfl) ?_ (by assumption) ?_
  rotate_left
  · (intro w' hSw; (try dsimp only at hSw); first | (go_simp; done) | (go_simp; with_reducible rfl))
  (try simp only [Act.put]); (try simp only [List.setIfInBounds_toArray]); (try simp only [List.set_cons_succ]); (try simp only [List.set_cons_zero])
  refine Bl.take_yes (i := 33) (oi := ⟨some 101, _, _, _, _, _⟩) (v := ?_) rfl (by kernel_rfl) (by kernel_rfl) (by kernel_rfl) (fun _ _ _ h => h) (by kernel_rfl) ?_ (by assumption) ?_
  rotate_left
  · (intro w' hSw; (try dsimp only at hSw); first | (go_simp; done) | (go_simp; with_reducible rfl))
  (try simp only [Act.put]); (try simp only [List.setIfInBounds_toArray]); (try simp only [List.set_cons_succ]); (try simp only [List.set_cons_zero])
  refine Bl.take_yes (i := 34) (oi := ⟨some 102, _, _, _, _, _⟩) (v := ?_) rfl (by kernel_rfl) (by kernel_rfl) (by kernel_rfl) (fun _ _ _ h => h) (by kernel_rfl) ?_ (by assumption) ?_
  rotate_left
  · (intro w' hSw; (try dsimp only at hSw); first | (go_simp; done) | (go_simp; with_reducible rfl))
  (try simp only [Act.put]); (try simp only [List.setIfInBounds_toArray]); (try simp only [List.set_cons_succ]); (try simp only [List.set_cons_zero])
  refine Bl.take_yes (i := 36) (oi := ⟨some 104, _, _, _, _, _⟩) (v := ?_) rfl (by kernel_rfl) (by kernel_rfl) (by kernel_rfl) (fun _ _ _ h => h) (by kernel_rfl) ?_ (by assumption) ?_
  rotate_left
  · (intro w' hSw; (try dsimp only at hSw); first | (go_simp; done) | (go_simp; with_reducible rfl))
  (try simp only [Act.put]); (try simp only [List.setIfInBounds_toArray]); (try simp only [List.set_cons_succ]); (try simp only [List.set_cons_zero])
  refine wpAnyH_ready (rs := [35]) (by kernel_rfl) (by simp) ?_
  refine AllReadyH.cons (o := ⟨some 103, _, _, _, _, _⟩) rfl (fun K hK => ?_) AllReadyH.nil
  go_simp
  go_at_call 12
  refine (Bl.ref_any x y _).mono ?_
  rintro e y35 ⟨rfl, hb⟩
  have hd2 := Bl.Rows4.keep hb hd; clear hd; have hd := hd2; clear hd2
  have hT2 := Bl.Tab.over hT hb; clear hT; have hT := hT2; clear hT2
  clear hb
  (try go_wp2_with fail)
  refine hK.out _ _ (Bl.Rows4.cells8 hd) (fun hHeld2 => ?_)
  clear hK hHeld; have hHeld := hHeld2; clear hHeld2
  (try simp only [Act.put]); (try simp only [List.setIfInBounds_toArray]); (try simp only [List.set_cons_succ]); (try simp only [List.set_cons_zero])
  refine Bl.take_yes (i := 37) (oi := ⟨some 105, _, _, _, _, _⟩) (v := ?_) rfl (by kernel_rfl) (by kernel_rfl) (by kernel_rfl) (fun _ _ _ h => h) (by kernel_rfl) ?_ (by assumption) ?_
  rotate_left
  · (intro w' hSw; (try dsimp only at hSw); first | (go_simp; done) | (go_simp; with_reducible rfl))
  (try simp only [Act.put]); (try simp only [List.setIfInBounds_toArray]); (try simp only [List.set_cons_succ]); (try simp only [List.set_cons_zero])
  refine Bl.take_yes (i := 38) (oi := ⟨some 106, _, _, _, _, _⟩) (v := ?_) rfl (by kernel_rfl) (by kernel_rfl) (by kernel_rfl) (fun _ _ _ h => h) (by kernel_rfl) ?_ (by assumption) ?_
  rotate_left
  · (intro w' hSw; (try dsimp only at hSw); first | (go_simp; done) | (go_simp; with_reducible rfl))
  (try simp only [Act.put]); (try simp only [List.setIfInBounds_toArray]); (try simp only [List.set_cons_succ]); (try simp only [List.set_cons_zero])
  refine Bl.take_yes (i := 39) (oi := ⟨some 107, _, _, _, _, _⟩) (v := ?_) rfl (by kernel_rfl) (by kernel_rfl) (by kernel_rfl) (fun _ _ _ h => h) (by kernel_rfl) ?_ (by assumption) ?_
  rotate_left
  · (intro w' hSw; (try dsimp only at hSw); first | (go_simp; done) | (go_simp; with_reducible rfl))
  (try simp only [Act.put]); (try simp only [List.setIfInBounds_toArray]); (try simp only [List.set_cons_succ]); (try simp only [List.set_cons_zero])
  refine Bl.take_yes (i := 40) (oi := ⟨some 108, _, _, _, _, _⟩) (v := ?_) rfl (by kernel_rfl) (by kernel_rfl) (by kernel_rfl) (fun _ _ _ h => h) (by kernel_rfl) ?_ (by assumption) ?_
  rotate_left
  · (intro w' hSw; (try dsimp only at hSw); first | (go_simp; done) | (go_simp; with_reducible rfl))
  (try simp only [Act.put]); (try simp only [List.setIfInBounds_toArray]); (try simp only [List.set_cons_succ]); (try simp only [List.set_cons_zero])
  refine Bl.take_yes (i := 41) (oi := ⟨some 109, _, _, _, _, _⟩) (v := ?_) rfl (by kernel_rfl) (by kernel_rfl) (by kernel_rfl) (fun _ _ _ h => h) (by kernel_rfl) ?_ (by assumption) ?_
  rotate_left
  · (intro w' hSw; (try dsimp only at hSw); first | (go_simp; done) | (go_simp; with_reducible rfl))
  (try simp only [Act.put]); (try simp only [List.setIfInBounds_toArray]); (try simp only [List.set_cons_succ]); (try simp only [List.set_cons_zero])
  refine Bl.take_yes (i := 42) (oi := ⟨some 110, _, _, _, _, _⟩) (v := ?_) rfl (by kernel_rfl) (by kernel_rfl) (by kernel_rfl) (fun _ _ _ h => h) (by kernel_rfl) ?_ (by assumption) ?_
  rotate_left
  · (intro w' hSw; (try dsimp only at hSw); first | (go_simp; done) | (go_simp; with_reducible rfl))
  (try simp only [Act.put]); (try simp only [List.setIfInBounds_toArray]); (try simp only [List.set_cons_succ]); (try simp only [List.set_cons_zero])
  refine Bl.take_yes (i := 43) (oi := ⟨some 111, _, _, _, _, _⟩) (v := ?_) rfl (by kernel_rfl) (by kernel_rfl) (by kernel_rfl) (fun _ _ _ h => h) (by kernel_rfl) ?_ (by assumption) ?_
  rotate_left
  · (intro w' hSw; (try dsimp only at hSw); first | (go_simp; done) | (go_simp; with_reducible rfl))
  (try simp only [Act.put]); (try simp only [List.setIfInBounds_toArray]); (try simp only [List.set_cons_succ]); (try simp only [List.set_cons_zero])
  refine Bl.take_yes (i := 44) (oi := ⟨some 112, _, _, _, _, _⟩) (v := ?_) rfl (by kernel_rfl) (by kernel_rfl) (by kernel_rfl) (fun _ _ _ h => h) (by kernel_rfl) ?_ (by assumption) ?_
  rotate_left
  · (intro w' hSw; (try dsimp only at hSw); first | (go_simp; done) | (go_simp; with_reducible rfl))
  (try simp only [Act.put]); (try simp only [List.setIfInBounds_toArray]); (try simp only [List.set_cons_succ]); (try simp only [List.set_cons_zero])
  refine Bl.take_yes (i := 45) (oi := ⟨some 113, _, _, _, _, _⟩) (v := ?_) rfl (by kernel_rfl) (by kernel_rfl) (by kernel_rfl) (fun _ _ _ h => h) (by kernel_rfl) ?_ (by assumption) ?_
  rotate_left
  · (intro w' hSw; (try dsimp only at hSw); first | (go_simp; done) | (go_simp; with_reducible rfl))
  (try simp only [Act.put]); (try simp only [List.setIfInBounds_toArray]); (try simp only [List.set_cons_succ]); (try simp only [List.set_cons_zero])
  refine Bl.take_yes (i := 47) (oi := ⟨some 115, _, _, _, _, _⟩) (v := ?_) rfl (by kernel_rfl) (by kernel_rfl) (by kernel_rfl) (fun _ _ _ h => h) (by kernel_rfl) ?_ (by assumption) ?_
  rotate_left
  · (intro w' hSw; (try dsimp only at hSw); first | (go_simp; done) | (go_simp; with_reducible rfl))
  (try simp only [Act.put]); (try simp only [List.setIfInBounds_toArray]); (try simp only [List.set_cons_succ]); (try simp only [List.set_cons_zero])
  refine wpAnyH_ready (rs := [46]) (by kernel_rfl) (by simp) ?_
  refine AllReadyH.cons (o := ⟨some 114, _, _, _, _, _⟩) rfl (fun K hK => ?_) AllReadyH.nil
  go_simp
  go_at_call 20
  refine (Bl.put_any 0 a0_1 s S.out (by omega) (by omega) _).mono ?_
  rintro e y46 ⟨rfl, hb⟩
  have hd2 := Bl.Rows4.keep hb hd; clear hd; have hd := hd2; clear hd2
  have hT2 := Bl.Tab.over hT hb; clear hT; have hT := hT2; clear hT2
  clear hb
  (try go_wp2_with fail)
  refine hK.out _ _ (Bl.Rows4.cells8 hd) (fun hHeld2 => ?_)
  clear hK hHeld; have hHeld := hHeld2; clear hHeld2
  (try simp only [Act.put]); (try simp only [List.setIfInBounds_toArray]); (try simp only [List.set_cons_succ]); (try simp only [List.set_cons_zero])
  refine wpAnyH_ready (rs := [48]) (by kernel_rfl) (by simp) ?_
  refine AllReadyH.cons (o := ⟨some 116, _, _, _, _, _⟩) rfl (fun K hK => ?_) AllReadyH.nil
  go_simp
  go_at_call 12
  refine (Bl.ref_any 0 a0_1 _).mono ?_
  rintro e y48 ⟨rfl, hb⟩
  have hd2 := Bl.Rows4.keep hb hd; clear hd; have hd := hd2; clear hd2
  have hT2 := Bl.Tab.over hT hb; clear hT; have hT := hT2; clear hT2
  clear hb
  (try go_wp2_with fail)
  refine hK.out _ _ (Bl.Rows4.cells8 hd) (fun hHeld2 => ?_)
  clear hK hHeld; have hHeld := hHeld2; clear hHeld2
  (try simp only [Act.put]); (try simp only [List.setIfInBounds_toArray]); (try simp only [List.set_cons_succ]); (try simp only [List.set_cons_zero])
  refine wpAnyH_ready (rs := [49]) (by kernel_rfl) (by simp) ?_
  refine AllReadyH.cons (o := ⟨some 117, _, _, _, _, _⟩) rfl (fun K hK => ?_) AllReadyH.nil
  go_simp
  go_at_call 21
  refine (Bl.refput_any 0 a0_1 s S.out (by omega) (by omega) _).mono ?_
  rintro e y49 ⟨rfl, hb⟩
  have hd2 := Bl.Rows4.keep hb hd; clear hd; have hd := hd2; clear hd2
  have hT2 := Bl.Tab.over hT hb; clear hT; have hT := hT2; clear hT2
  clear hb
  (try go_wp2_with fail)
  refine hK.out _ _ (Bl.Rows4.cells8 hd) (fun hHeld2 => ?_)
  clear hK hHeld; have hHeld := hHeld2; clear hHeld2
  (try simp only [Act.put]); (try simp only [List.setIfInBounds_toArray]); (try simp only [List.set_cons_succ]); (try simp only [List.set_cons_zero])
  refine Bl.take_yes (i := 50) (oi := ⟨some 118, _, _, _, _, _⟩) (v := ?_) rfl (by kernel_rfl) (by kernel_rfl) (by kernel_rfl) (fun _ _ _ h => h) (by kernel_rfl) ?_ (by assumption) ?_
  rotate_left
  · (intro w' hSw; (try dsimp only at hSw); first | (go_simp; done) | (go_simp; with_reducible rfl))
  (try simp only [Act.put]); (try simp only [List.setIfInBounds_toArray]); (try simp only [List.set_cons_succ]); (try simp only [List.set_cons_zero])
  refine Bl.take_yes (i := 51) (oi := ⟨some 119, _, _, _, _, _⟩) (v := ?_) rfl (by kernel_rfl) (by kernel_rfl) (by kernel_rfl) (fun _ _ _ h => h) (by kernel_rfl) ?_ (by assumption) ?_
  rotate_left
  · (intro w' hSw; (try dsimp only at hSw); first | (go_simp; done) | (go_simp; with_reducible rfl))
  (try simp only [Act.put]); (try simp only [List.setIfInBounds_toArray]); (try simp only [List.set_cons_succ]); (try simp only [List.set_cons_zero])
  refine Bl.take_yes (i := 52) (oi := ⟨some 120, _, _, _, _, _⟩) (v := ?_) rfl (by kernel_rfl) (by kernel_rfl) (by kernel_rfl) (fun _ _ _ h => h) (by kernel_rfl) ?_ (by assumption) ?_
  rotate_left
  · (intro w' hSw; (try dsimp only at hSw); first | (go_simp; done) | (go_simp; with_reducible rfl))
  (try simp only [Act.put]); (try simp only [List.setIfInBounds_toArray]); (try simp only [List.set_cons_succ]); (try simp only [List.set_cons_zero])
  refine Bl.take_yes (i := 53) (oi := ⟨some 121, _, _, _, _, _⟩) (v := ?_) rfl (by kernel_rfl) (by kernel_rfl) (by kernel_rfl) (fun _ _ _ h => h) (by kernel_rfl) ?_ (by assumption) ?_
  rotate_left
  · (intro w' hSw; (try dsimp only at hSw); first | (go_simp; done) | (go_simp; with_reducible rfl))
  (try simp only [Act.put]); (try simp only [List.setIfInBounds_toArray]); (try simp only [List.set_cons_succ]); (try simp only [List.set_cons_zero])
  refine Bl.take_yes (i := 55) (oi := ⟨some 123, _, _, _, _, _⟩) (v := ?_) rfl (by kernel_rfl) (by kernel_rfl) (by kernel_rfl) (fun _ _ _ h => h) (by kernel_rfl) ?_ (by assumption) ?_
  rotate_left
  · (intro w' hSw; (try dsimp only at hSw); first | (go_simp; done) | (go_simp; with_reducible rfl))
  (try simp only [Act.put]); (try simp only [List.setIfInBounds_toArray]); (try simp only [List.set_cons_succ]); (try simp only [List.set_cons_zero])
  refine wpAnyH_ready (rs := [54]) (by kernel_rfl) (by simp) ?_
  refine AllReadyH.cons (o := ⟨some 122, _, _, _, _, _⟩) rfl (fun K hK => ?_) AllReadyH.nil
  go_simp
  go_at_call 22
  refine (Bl.text_any 0 a0_1 t T.out (by omega) (by omega) v10 v11 _ hT).mono ?_
  rintro e y54 ⟨rfl, hb⟩
  have hd2 := Bl.Rows4.keep hb hd; clear hd; have hd := hd2; clear hd2
  have hT2 := Bl.Tab.over hT hb; clear hT; have hT := hT2; clear hT2
  clear hb
  (try go_wp2_with fail)
  refine hK.out _ _ (Bl.Rows4.cells8 hd) (fun hHeld2 => ?_)
  clear hK hHeld; have hHeld := hHeld2; clear hHeld2
  (try simp only [Act.put]); (try simp only [List.setIfInBounds_toArray]); (try simp only [List.set_cons_succ]); (try simp only [List.set_cons_zero])
  refine wpAnyH_ready (rs := [56]) (by kernel_rfl) (by simp) ?_
  refine AllReadyH.cons (o := ⟨some 124, _, _, _, _, _⟩) rfl (fun K hK => ?_) AllReadyH.nil
  go_simp
  go_at_call 12
  refine (Bl.ref_any 0 a0_1 _).mono ?_
  rintro e y56 ⟨rfl, hb⟩
  have hd2 := Bl.Rows4.keep hb hd; clear hd; have hd := hd2; clear hd2
  have hT2 := Bl.Tab.over hT hb; clear hT; have hT := hT2; clear hT2
  clear hb
  (try go_wp2_with fail)
  refine hK.out _ _ (Bl.Rows4.cells8 hd) (fun hHeld2 => ?_)
  clear hK hHeld; have hHeld := hHeld2; clear hHeld2
  (try simp only [Act.put]); (try simp only [List.setIfInBounds_toArray]); (try simp only [List.set_cons_succ]); (try simp only [List.set_cons_zero])
  refine wpAnyH_ready (rs := [57]) (by kernel_rfl) (by simp) ?_
  refine AllReadyH.cons (o := ⟨some 125, _, _, _, _, _⟩) rfl (fun K hK => ?_) AllReadyH.nil
  go_simp
  go_at_call 23
  refine (Bl.reftext_any 0 a0_1 t T.out (by omega) (by omega) v10 v11 _).mono ?_
  rintro e y57 ⟨rfl, hb⟩
  have hd2 := Bl.Rows4.keep hb hd; clear hd; have hd := hd2; clear hd2
  have hT2 := Bl.Tab.over hT hb; clear hT; have hT := hT2; clear hT2
  clear hb
  (try go_wp2_with fail)
  refine hK.out _ _ (Bl.Rows4.cells8 hd) (fun hHeld2 => ?_)
  clear hK hHeld; have hHeld := hHeld2; clear hHeld2
  (try simp only [Act.put]); (try simp only [List.setIfInBounds_toArray]); (try simp only [List.set_cons_succ]); (try simp only [List.set_cons_zero])
  refine Bl.take_yes (i := 58) (oi := ⟨some 126, _, _, _, _, _⟩) (v := ?_) rfl (by kernel_rfl) (by kernel_rfl) (by kernel_rfl) (fun _ _ _ h => h) (by kernel_rfl) ?_ (by assumption) ?_
  rotate_left
  · (intro w' hSw; (try dsimp only at hSw); first | (go_simp; done) | (go_simp; with_reducible rfl))
  (try simp only [Act.put]); (try simp only [List.setIfInBounds_toArray]); (try simp only [List.set_cons_succ]); (try simp only [List.set_cons_zero])
  refine Bl.take_yes (i := 59) (oi := ⟨some 127, _, _, _, _, _⟩) (v := ?_) rfl (by kernel_rfl) (by kernel_rfl) (by kernel_rfl) (fun _ _ _ h => h) (by kernel_rfl) ?_ (by assumption) ?_
  rotate_left
  · (intro w' hSw; (try dsimp only at hSw); first | (go_simp; done) | (go_simp; with_reducible rfl))
  (try simp only [Act.put]); (try simp only [List.setIfInBounds_toArray]); (try simp only [List.set_cons_succ]); (try simp only [List.set_cons_zero])
  refine Bl.take_yes (i := 60) (oi := ⟨some 128, _, _, _, _, _⟩) (v := ?_) rfl (by kernel_rfl) (by kernel_rfl) (by kernel_rfl) (fun _ _ _ h => h) (by kernel_rfl) ?_ (by assumption) ?_
  rotate_left
  · (intro w' hSw; (try dsimp only at hSw); first | (go_simp; done) | (go_simp; with_reducible rfl))
  (try simp only [Act.put]); (try simp only [List.setIfInBounds_toArray]); (try simp only [List.set_cons_succ]); (try simp only [List.set_cons_zero])
  refine Bl.take_yes (i := 61) (oi := ⟨some 129, _, _, _, _, _⟩) (v := ?_) rfl (by kernel_rfl) (by kernel_rfl) (by kernel_rfl) (fun _ _ _ h => h) (by kernel_rfl) ?_ (by assumption) ?_
  rotate_left
  · (intro w' hSw; (try dsimp only at hSw); first | (go_simp; done) | (go_simp; with_reducible rfl))
  (try simp only [Act.put]); (try simp only [List.setIfInBounds_toArray]); (try simp only [List.set_cons_succ]); (try simp only [List.set_cons_zero])
  refine Bl.take_yes (i := 63) (oi := ⟨some 131, _, _, _, _, _⟩) (v := ?_) rfl (by kernel_rfl) (by kernel_rfl) (by kernel_rfl) (fun _ _ _ h => h) (by kernel_rfl) ?_ (by assumption) ?_
  rotate_left
  · (intro w' hSw; (try dsimp only at hSw); first | (go_simp; done) | (go_simp; with_reducible rfl))
  (try simp only [Act.put]); (try simp only [List.setIfInBounds_toArray]); (try simp only [List.set_cons_succ]); (try simp only [List.set_cons_zero])
  refine wpAnyH_ready (rs := [62]) (by kernel_rfl) (by simp) ?_
  refine AllReadyH.cons (o := ⟨some 130, _, _, _, _, _⟩) rfl (fun K hK => ?_) AllReadyH.nil
  go_simp
  go_at_call 12
  refine (Bl.ref_any gx gy _).mono ?_
  rintro e y62 ⟨rfl, hb⟩
  have hd2 := Bl.Rows4.keep hb hd; clear hd; have hd := hd2; clear hd2
  have hT2 := Bl.Tab.over hT hb; clear hT; have hT := hT2; clear hT2
  clear hb
  (try go_wp2_with fail)
  refine hK.out _ _ (Bl.Rows4.cells8 hd) (fun hHeld2 => ?_)
  clear hK hHeld; have hHeld := hHeld2; clear hHeld2
  (try simp only [Act.put]); (try simp only [List.setIfInBounds_toArray]); (try simp only [List.set_cons_succ]); (try simp only [List.set_cons_zero])
  refine Bl.take_yes (i := 64) (oi := ⟨some 132, _, _, _, _, _⟩) (v := ?_) rfl (by kernel_rfl) (by kernel_rfl) (by kernel_rfl) (fun _ _ _ h => h) (by kernel_rfl) ?_ (by assumption) ?_
  rotate_left
  · (intro w' hSw; (try dsimp only at hSw); first | (go_simp; done) | (go_simp; with_reducible rfl))
  (try simp only [Act.put]); (try simp only [List.setIfInBounds_toArray]); (try simp only [List.set_cons_succ]); (try simp only [List.set_cons_zero])
  refine Bl.take_yes (i := 65) (oi := ⟨some 133, _, _, _, _, _⟩) (v := ?_) rfl (by kernel_rfl) (by kernel_rfl) (by kernel_rfl) (fun _ _ _ h => h) (by kernel_rfl) ?_ (by assumption) ?_
  rotate_left
  · (intro w' hSw; (try dsimp only at hSw); first | (go_simp; done) | (go_simp; with_reducible rfl))
  (try simp only [Act.put]); (try simp only [List.setIfInBounds_toArray]); (try simp only [List.set_cons_succ]); (try simp only [List.set_cons_zero])
  refine Bl.take_yes (i := 66) (oi := ⟨some 134, _, _, _, _, _⟩) (v := ?_) rfl (by kernel_rfl) (by kernel_rfl) (by kernel_rfl) (fun _ _ _ h => h) (by kernel_rfl) ?_ (by assumption) ?_
  rotate_left
  · (intro w' hSw; (try dsimp only at hSw); first | (go_simp; done) | (go_simp; with_reducible rfl))
  (try simp only [Act.put]); (try simp only [List.setIfInBounds_toArray]); (try simp only [List.set_cons_succ]); (try simp only [List.set_cons_zero])
  refine Bl.take_yes (i := 67) (oi := ⟨some 135, _, _, _, _, _⟩) (v := ?_) rfl (by kernel_rfl) (by kernel_rfl) (by kernel_rfl) (fun _ _ _ h => h) (by kernel_rfl) ?_ (by assumption) ?_
  rotate_left
  · (intro w' hSw; (try dsimp only at hSw); first | (go_simp; done) | (go_simp; with_reducible rfl))
  (try simp only [Act.put]); (try simp only [List.setIfInBounds_toArray]); (try simp only [List.set_cons_succ]); (try simp only [List.set_cons_zero])
  refine Bl.take_yes (i := 68) (oi := ⟨some 136, _, _, _, _, _⟩) (v := ?_) rfl (by kernel_rfl) (by kernel_rfl) (by kernel_rfl) (fun _ _ _ h => h) (by kernel_rfl) ?_ (by assumption) ?_
  rotate_left
  · (intro w' hSw; (try dsimp only at hSw); first | (go_simp; done) | (go_simp; with_reducible rfl))
  (try simp only [Act.put]); (try simp only [List.setIfInBounds_toArray]); (try simp only [List.set_cons_succ]); (try simp only [List.set_cons_zero])
  refine Bl.take_yes (i := 69) (oi := ⟨some 137, _, _, _, _, _⟩) (v := ?_) rfl (by kernel_rfl) (by kernel_rfl) (by kernel_rfl) (fun _ _ _ h => h) (by kernel_rfl) ?_ (by assumption) ?_
  rotate_left
  · (intro w' hSw; (try dsimp only at hSw); first | (go_simp; done) | (go_simp; with_reducible rfl))
  (try simp only [Act.put]); (try simp only [List.setIfInBounds_toArray]); (try simp only [List.set_cons_succ]); (try simp only [List.set_cons_zero])
  refine Bl.take_yes (i := 70) (oi := ⟨some 138, _, _, _, _, _⟩) (v := ?_) rfl (by kernel_rfl) (by kernel_rfl) (by kernel_rfl) (fun _ _ _ h => h) (by kernel_rfl) ?_ (by assumption) ?_
  rotate_left
  · (intro w' hSw; (try dsimp only at hSw); first | (go_simp; done) | (go_simp; with_reducible rfl))
  (try simp only [Act.put]); (try simp only [List.setIfInBounds_toArray]); (try simp only [List.set_cons_succ]); (try simp only [List.set_cons_zero])
  refine Bl.take_yes (i := 71) (oi := ⟨some 139, _, _, _, _, _⟩) (v := ?_) rfl (by kernel_rfl) (by kernel_rfl) (by kernel_rfl) (fun _ _ _ h => h) (by kernel_rfl) ?_ (by assumption) ?_
  rotate_left
  · (intro w' hSw; (try dsimp only at hSw); first | (go_simp; done) | (go_simp; with_reducible rfl))
  (try simp only [Act.put]); (try simp only [List.setIfInBounds_toArray]); (try simp only [List.set_cons_succ]); (try simp only [List.set_cons_zero])
  refine Bl.take_yes (i := 72) (oi := ⟨some 140, _, _, _, _, _⟩) (v := ?_) rfl (by kernel_rfl) (by kernel_rfl) (by kernel_rfl) (fun _ _ _ h => h) (by kernel_rfl) ?_ (by assumption) ?_
  rotate_left
  · (intro w' hSw; (try dsimp only at hSw); first | (go_simp; done) | (go_simp; with_reducible rfl))
  (try simp only [Act.put]); (try simp only [List.setIfInBounds_toArray]); (try simp only [List.set_cons_succ]); (try simp only [List.set_cons_zero])
  refine Bl.take_yes (i := 73) (oi := ⟨some 141, _, _, _, _, _⟩) (v := ?_) rfl (by kernel_rfl) (by kernel_rfl) (by kernel_rfl) (fun _ _ _ h => h) (by kernel_rfl) ?_ (by assumption) ?_
  rotate_left
  · (intro w' hSw; (try dsimp only at hSw); first | (go_simp; done) | (go_simp; with_reducible rfl))
  (try simp only [Act.put]); (try simp only [List.setIfInBounds_toArray]); (try simp only [List.set_cons_succ]); (try simp only [List.set_cons_zero])
  refine Bl.take_yes (i := 74) (oi := ⟨some 142, _, _, _, _, _⟩) (v := ?_) rfl (by kernel_rfl) (by kernel_rfl) (by kernel_rfl) (fun _ _ _ h => h) (by kernel_rfl) ?_ (by assumption) ?_
  rotate_left
  · (intro w' hSw; (try dsimp only at hSw); first | (go_simp; done) | (go_simp; with_reducible rfl))
  (try simp only [Act.put]); (try simp only [List.setIfInBounds_toArray]); (try simp only [List.set_cons_succ]); (try simp only [List.set_cons_zero])
  refine Bl.take_yes (i := 75) (oi := ⟨some 143, _, _, _, _, _⟩) (v := ?_) rfl (by kernel_rfl) (by kernel_rfl) (by kernel_rfl) (fun _ _ _ h => h) (by kernel_rfl) ?_ (by assumption) ?_
  rotate_left
  · (intro w' hSw; (try dsimp only at hSw); first | (go_simp; done) | (go_simp; with_reducible rfl))
  (try simp only [Act.put]); (try simp only [List.setIfInBounds_toArray]); (try simp only [List.set_cons_succ]); (try simp only [List.set_cons_zero])
  refine Bl.take_yes (i := 76) (oi := ⟨some 144, _, _, _, _, _⟩) (v := ?_) rfl (by kernel_rfl) (by kernel_rfl) (by kernel_rfl) (fun _ _ _ h => h) (by kernel_rfl) ?_ (by assumption) ?_
  rotate_left
  · (intro w' hSw; (try dsimp only at hSw); first | (go_simp; done) | (go_simp; with_reducible rfl))
  (try simp only [Act.put]); (try simp only [List.setIfInBounds_toArray]); (try simp only [List.set_cons_succ]); (try simp only [List.set_cons_zero])
  refine Bl.take_yes (i := 77) (oi := ⟨some 145, _, _, _, _, _⟩) (v := ?_) rfl (by kernel_rfl) (by kernel_rfl) (by kernel_rfl) (fun _ _ _ h => h) (by kernel_rfl) ?_ (by assumption) ?_
  rotate_left
  · (intro w' hSw; (try dsimp only at hSw); first | (go_simp; done) | (go_simp; with_reducible rfl))
  (try simp only [Act.put]); (try simp only [List.setIfInBounds_toArray]); (try simp only [List.set_cons_succ]); (try simp only [List.set_cons_zero])
  refine Bl.take_yes (i := 78) (oi := ⟨some 146, _, _, _, _, _⟩) (v := ?_) rfl (by kernel_rfl) (by kernel_rfl) (by kernel_rfl) (fun _ _ _ h => h) (by kernel_rfl) ?_ (by assumption) ?_
  rotate_left
  · (intro w' hSw; (try dsimp only at hSw); first | (go_simp; done) | (go_simp; with_reducible rfl))
  (try simp only [Act.put]); (try simp only [List.setIfInBounds_toArray]); (try simp only [List.set_cons_succ]); (try simp only [List.set_cons_zero])
  refine Bl.take_yes (i := 79) (oi := ⟨some 147, _, _, _, _, _⟩) (v := ?_) rfl (by kernel_rfl) (by kernel_rfl) (by kernel_rfl) (fun _ _ _ h => h) (by kernel_rfl) ?_ (by assumption) ?_
  rotate_left
  · (intro w' hSw; (try dsimp only at hSw); first | (go_simp; done) | (go_simp; with_reducible rfl))
  (try simp only [Act.put]); (try simp only [List.setIfInBounds_toArray]); (try simp only [List.set_cons_succ]); (try simp only [List.set_cons_zero])
  refine Bl.take_yes (i := 80) (oi := ⟨some 10, _, _, _, _, _⟩) (v := ?_) rfl (by kernel_rfl) (by kernel_rfl) (by kernel_rfl) (fun _ _ _ h => h) (by kernel_rfl) ?_ (by assumption) ?_
  rotate_left
  · (intro w' hSw; (try dsimp only at hSw); first | (go_simp; done) | (go_simp; with_reducible rfl))
  (try simp only [Act.put]); (try simp only [List.setIfInBounds_toArray]); (try simp only [List.set_cons_succ]); (try simp only [List.set_cons_zero])
  refine wpAnyH_done (by kernel_rfl) ?_ _
  go_wp2
  go_ret
  exact ⟨rfl, hd.1⟩
end Go.Proofs.YthmadcmoendndaaDoor.ballotTells
