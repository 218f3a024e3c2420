/-
  Proved: for every two wishes, every text and every byte the law CmdBack returns true and leaves its inputs as they were; the card ties the three tables of the library that the row lists to the text of the program. No condition beyond the form itself (each text at most 2^47 - 4096 bytes; the listed tables start as that text lays them).
-/
import Derived.Test.YtolgboedinbpeaaDoorCmdL
import Derived.Test.YtolgboedinbpeaaDoorTab
import Derived.Test.YtolgboedinbpeaaDoorCards
import Derived.Test.YtolgboedinbpeaaDoorTie
import Derived.Deep.DeepHandedRow
import Derived.LaidMore
import Derived.SevenTiedAt
import Derived.WalkKit
import Derived.ProofKit
import Derived.OpenShut
import Derived.ShutString
import Derived.SizedLaws
import Derived.ChangeOld
import Derived.Below
import Derived.Carry
import Derived.Lib.SmallJoins
import Derived.Deep.SlicePairs
import Derived.SliceStrings
namespace Go.Proofs.YtolgboedinbpeaaDoor.cmdBack
open Go.ChangeShapes Go.WideShapes Go.ChangeAt Go.RowKit Go.Joins Go.Deep
open Go.ChangeMaps (open_string shut_string)
set_option linter.unusedVariables false

theorem own : ownKnob Tryd.prog.godebug = none := by kernel_rfl
theorem laidOut : laidOutB Tryd.prog = true := by kernel_rfl

set_option maxRecDepth 100000 in
set_option maxHeartbeats 4000000 in
theorem walk (a0_0 : Int) (a0_1 : Int) (a0_2 : Int) (a0_3 : ByteArray) (a0_4 : ByteArray) (a0_5 : Bool) (a1_0 : Int) (a1_1 : Int) (a1_2 : Int) (a1_3 : ByteArray) (a1_4 : ByteArray) (a1_5 : Bool) (a2 : ByteArray) (a3 : Int) (w : World) (w0_0 : (Lit.int .i64 a0_0).wf = true) (w0_1 : (Lit.int .i64 a0_1).wf = true) (w0_2 : (Lit.int .u32 a0_2).wf = true) (z0_3 : a0_3.size ≤ 140737488351232) (z0_4 : a0_4.size ≤ 140737488351232) (w1_0 : (Lit.int .i64 a1_0).wf = true) (w1_1 : (Lit.int .i64 a1_1).wf = true) (w1_2 : (Lit.int .u32 a1_2).wf = true) (z1_3 : a1_3.size ≤ 140737488351232) (z1_4 : a1_4.size ≤ 140737488351232) (z2 : a2.size ≤ 140737488351232) (w3 : (Lit.int .u8 a3).wf = true) (ht : Bl.Tab w) :
    Calls Tryd.prog 6 #[.agg #[.int .i64 a0_0, .int .i64 a0_1, .int .u32 a0_2, .string a0_3, .string a0_4, .bool a0_5], .agg #[.int .i64 a1_0, .int .i64 a1_1, .int .u32 a1_2, .string a1_3, .string a1_4, .bool a1_5], .string a2, .int .u8 a3] w fun e w' => e = .returned (.bool true) ∧ Below w.heap.size w w' := by
  have qs0 : 0 ≤ a0_2 ∧ a0_2 ≤ 4294967295 := by simpa [Lit.wf, IntKind.min, IntKind.max, IntKind.signed, IntKind.bits] using w0_2
  obtain ⟨qa0, qb0⟩ := qs0
  obtain ⟨p1, d1, t1, l1, u1, W1⟩ : ∃ p d t l u, Hid (Cm.wishC a0_0 a0_1 a0_2 a0_4 = (p, d, t, l, u)) := ⟨_, _, _, _, _, Lib.hid rfl⟩
  have F1 := Cm.few_of _ _ _ _ _ _ _ _ _ W1.out
  obtain ⟨s10, s11, s12, s13, s14, s15, s16, s17⟩ := F1.small
  have zt1 : t1 ≤ 4294967295 := by omega
  have zd1 : -9223372036854775808 ≤ d1 := by omega
  have ze1 : d1 ≤ 9223372036854775807 := by omega
  have zl1 : l1.size ≤ 140737488351232 := by omega
  have zu1 : u1.size ≤ 140737488351232 := by omega
  have qs1 : 0 ≤ a1_2 ∧ a1_2 ≤ 4294967295 := by simpa [Lit.wf, IntKind.min, IntKind.max, IntKind.signed, IntKind.bits] using w1_2
  obtain ⟨qa1, qb1⟩ := qs1
  obtain ⟨p2, d2, t2, l2, u2, W2⟩ : ∃ p d t l u, Hid (Cm.wishC a1_0 a1_1 a1_2 a1_4 = (p, d, t, l, u)) := ⟨_, _, _, _, _, Lib.hid rfl⟩
  have F2 := Cm.few_of _ _ _ _ _ _ _ _ _ W2.out
  obtain ⟨s20, s21, s22, s23, s24, s25, s26, s27⟩ := F2.small
  have zt2 : t2 ≤ 4294967295 := by omega
  have zd2 : -9223372036854775808 ≤ d2 := by omega
  have ze2 : d2 ≤ 9223372036854775807 := by omega
  have zl2 : l2.size ≤ 140737488351232 := by omega
  have zu2 : u2.size ≤ 140737488351232 := by omega
  have q3 : 0 ≤ a3 ∧ a3 ≤ 255 := by simpa [Lit.wf, IntKind.min, IntKind.max, IntKind.signed, IntKind.bits] using w3
  obtain ⟨y1, hx1⟩ := Cm.bytes_ok F1.right
  obtain ⟨y2, hx2⟩ := Cm.bytes_ok F2.right
  obtain ⟨n1, _, _⟩ := Cm.bytesC_size _ _ _ _ _ _ hx1
  obtain ⟨c, ec⟩ : ∃ c : Nat, a3 % (y1.size : Int) = (c : Int) := ⟨(a3 % (y1.size : Int)).toNat, by have := Int.emod_nonneg a3 (show (y1.size : Int) ≠ 0 by omega); omega⟩
  have et : a3.tmod (y1.size : Int) = (c : Int) := by rw [Int.tmod_eq_emod_of_nonneg q3.1]; exact ec
  have hlt : c < y1.size := by have := Int.emod_lt_of_pos a3 (show (0 : Int) < (y1.size : Int) by omega); omega
  have hs0 : ¬ (y1.size : Int) = 0 := by omega
  have hcs : (c : Int) ≤ (y1.size : Int) := by omega
  have hc0 : (0 : Int) ≤ (c : Int) := by omega
  have he0 : y1.toList.isEmpty = false := by rw [Cm.isEmpty_size, beq_eq_false_iff_ne]; omega
  have he1 : ¬ y1.toList = [] := by rw [Cm.empty_iff]; omega
  have hg : Cm.readC (y1 ++ a2) false = (p1, d1, t1, l1, u1, a2, false) := Cm.readC_back _ _ _ _ _ _ _ zt1 hx1
  have hbad := Cm.readC_cut _ _ _ _ _ _ zt1 hx1 c hlt
  obtain ⟨o3, c3, q3, k3, v3, r3, b3, hb⟩ : ∃ o e s k v r d, Cm.readC (y1.extract 0 c) false = (o, e, s, k, v, r, d) := ⟨_, _, _, _, _, _, _, rfl⟩
  rw [hb] at hbad
  obtain rfl : b3 = true := hbad
  obtain ⟨q, eq⟩ : ∃ q, (p1 == p2 && (d1 == d2 && (t1 == t2 && (l1.toList == l2.toList && u1.toList == u2.toList)))) = q := ⟨_, rfl⟩
  have hq : ∀ W, (binOp .eql 24 (.agg #[.int .i64 p1, .int .i64 d1, .int .u32 t1, .string l1, .string u1]) (.agg #[.int .i64 p2, .int .i64 d2, .int .u32 t2, .string l2, .string u2])).run Tryd.prog W = Result.ok (Value.bool q) W := by
    intro W
    rw [Cm.run_eql 24 (.inl rfl), ← eq]
  have hq1 : ∀ W, (binOp .eql 24 (.agg #[.int .i64 p1, .int .i64 d1, .int .u32 t1, .string l1, .string u1]) (.agg #[.int .i64 p1, .int .i64 d1, .int .u32 t1, .string l1, .string u1])).run Tryd.prog W = Result.ok (Value.bool true) W := by
    intro W
    rw [Cm.run_eql 24 (.inl rfl)]; simp
  have he : (y1.toList == y2.toList) = q := by rw [← eq]; exact Cm.bytes_beq zt1 zt2 hx1 hx2
  have X1 := Lib.hid hx1
  have X2 := Lib.hid hx2
  have G := Lib.hid hg
  have GB := Lib.hid hb
  have hm1 : (y1 ++ a2).size ≤ 281474976710656 := by rw [Pk.cat_size]; omega
  have hm2 : (y1.extract 0 c).size ≤ 281474976710656 := by rw [Pk.size_extract0]; omega
  have HM1 := Lib.hid hm1
  have HM2 := Lib.hid hm2
  have hsum : ¬ 9223372036854775807 < y1.size + a2.size := by omega
  clear eq F1 F2 w0_0 w0_1 w0_2 w1_0 w1_1 w1_2 w3 hx1 hx2 hg hb hm1 hm2 n1 hlt
  go_enter Tryd.func6, Tryd.ntmps6
  go_wp2_with fail
  have bel' : Below w.heap.size w ((w.alloc (.cells #[.int .i64 a0_0, .int .i64 a0_1, .int .u32 a0_2, .string a0_3, .string a0_4, .bool a0_5] 26)).alloc (.cells #[.int .i64 a1_0, .int .i64 a1_1, .int .u32 a1_2, .string a1_3, .string a1_4, .bool a1_5] 26)) := Rw.below_then ((Below.refl _ _)) (Rw.below_2 _ _ _) (Nat.le_refl _)
  have k2 := (Rw.Row.newAt (w) [.int .i64 a0_0, .int .i64 a0_1, .int .u32 a0_2, .string a0_3, .string a0_4, .bool a0_5] (26) (w.heap.size) (by simp)).alloc (.cells #[.int .i64 a1_0, .int .i64 a1_1, .int .u32 a1_2, .string a1_3, .string a1_4, .bool a1_5] 26)
  have k3 := Rw.Row.newAt (w.alloc (.cells #[.int .i64 a0_0, .int .i64 a0_1, .int .u32 a0_2, .string a0_3, .string a0_4, .bool a0_5] 26)) [.int .i64 a1_0, .int .i64 a1_1, .int .u32 a1_2, .string a1_3, .string a1_4, .bool a1_5] (26) (w.heap.size + 1) (by simp)
  have ht' : Bl.Tab ((w.alloc (.cells #[.int .i64 a0_0, .int .i64 a0_1, .int .u32 a0_2, .string a0_3, .string a0_4, .bool a0_5] 26)).alloc (.cells #[.int .i64 a1_0, .int .i64 a1_1, .int .u32 a1_2, .string a1_3, .string a1_4, .bool a1_5] 26)) := Bl.Tab.over (ht) (Rw.below_2 _ _ _)
  clear ht
  have ht := ht'; clear ht'
  have bel := bel'; clear bel'
  refine (Cm.examples_any _ ht).mono ?_
  rintro e x2 ⟨rfl, hb⟩
  have belb := Rw.below_then bel hb bel.size; clear bel
  have k2b := k2.over hb; clear k2
  have k3b := k3.over hb; clear k3
  have htb := Bl.Tab.over ht hb; clear ht
  clear hb
  have k2 := k2b; clear k2b
  have k3 := k3b; clear k3b
  have ht := htb; clear htb
  have bel := belb; clear belb
  have ⟨k2_0, k2_0f⟩ := k2.2 0 _ rfl
  have ⟨k2_1, k2_1f⟩ := k2.2 1 _ rfl
  have ⟨k2_2, k2_2f⟩ := k2.2 2 _ rfl
  have ⟨k2_3, k2_3f⟩ := k2.2 3 _ rfl
  have ⟨k2_4, k2_4f⟩ := k2.2 4 _ rfl
  have ⟨k2_5, k2_5f⟩ := k2.2 5 _ rfl
  have k2_lt := k2.1
  have ⟨k3_0, k3_0f⟩ := k3.2 0 _ rfl
  have ⟨k3_1, k3_1f⟩ := k3.2 1 _ rfl
  have ⟨k3_2, k3_2f⟩ := k3.2 2 _ rfl
  have ⟨k3_3, k3_3f⟩ := k3.2 3 _ rfl
  have ⟨k3_4, k3_4f⟩ := k3.2 4 _ rfl
  have ⟨k3_5, k3_5f⟩ := k3.2 5 _ rfl
  have k3_lt := k3.1
  go_wp2_with fail
  clear ht
  clear k2_0 k2_0f k2_1 k2_1f k2_2 k2_2f k2_3 k2_3f k2_4 k2_4f k2_5 k2_5f k2_lt k3_0 k3_0f k3_1 k3_1f k3_2 k3_2f k3_3 k3_3f k3_4 k3_4f k3_5 k3_5f k3_lt
  have bel' : Below w.heap.size w (x2.setCell ⟨w.heap.size, 5, none⟩ (.bool true)) := bel.setCell (p := ⟨w.heap.size, 5, none⟩) (by simp; try omega) _; clear bel; have bel := bel'; clear bel'
  have k2' := k2.set 5 (.bool true) _ rfl [.int .i64 a0_0, .int .i64 a0_1, .int .u32 a0_2, .string a0_3, .string a0_4, .bool true] rfl; clear k2; have k2 := k2'; clear k2'
  have k3' := k3.far ⟨w.heap.size, 5, none⟩ (by simp; try omega) (.bool true); clear k3; have k3 := k3'; clear k3'
  have bel' : Below w.heap.size w ((x2.setCell ⟨w.heap.size, 5, none⟩ (.bool true)).setCell ⟨w.heap.size + 1, 5, none⟩ (.bool true)) := bel.setCell (p := ⟨w.heap.size + 1, 5, none⟩) (by simp; try omega) _; clear bel; have bel := bel'; clear bel'
  have k2' := k2.far ⟨w.heap.size + 1, 5, none⟩ (by simp; try omega) (.bool true); clear k2; have k2 := k2'; clear k2'
  have k3' := k3.set 5 (.bool true) _ rfl [.int .i64 a1_0, .int .i64 a1_1, .int .u32 a1_2, .string a1_3, .string a1_4, .bool true] rfl; clear k3; have k3 := k3'; clear k3'
  generalize ((x2.setCell ⟨w.heap.size, 5, none⟩ (.bool true)).setCell ⟨w.heap.size + 1, 5, none⟩ (.bool true)) = X3 at *
  refine (Cm.wish_own a0_0 a0_1 a0_2 a0_3 a0_4 p1 d1 t1 l1 u1 W1.out qa0 qb0 _).mono ?_
  rintro e x4 ⟨rfl, hb⟩
  have belb := Rw.below_then bel hb bel.size; clear bel
  have k2b := k2.over hb; clear k2
  have k3b := k3.over hb; clear k3
  clear hb
  have k2 := k2b; clear k2b
  have k3 := k3b; clear k3b
  have bel := belb; clear belb
  have bel' : Below w.heap.size w (x4.alloc (.cells #[.int .i64 p1, .int .i64 d1, .int .u32 t1, .string l1, .string u1] 24)) := Rw.below_then (bel) (Rw.below_1 _ _) bel.size
  have k2' := (k2).alloc (.cells #[.int .i64 p1, .int .i64 d1, .int .u32 t1, .string l1, .string u1] 24)
  have k3' := (k3).alloc (.cells #[.int .i64 p1, .int .i64 d1, .int .u32 t1, .string l1, .string u1] 24)
  have k6 := Rw.Row.newAt (x4) [.int .i64 p1, .int .i64 d1, .int .u32 t1, .string l1, .string u1] (24) (x4.heap.size) (by simp)
  clear bel k2 k3
  have k2 := k2'; clear k2'
  have k3 := k3'; clear k3'
  have bel := bel'; clear bel'
  have ⟨k3_0, k3_0f⟩ := k3.2 0 _ rfl
  have ⟨k3_1, k3_1f⟩ := k3.2 1 _ rfl
  have ⟨k3_2, k3_2f⟩ := k3.2 2 _ rfl
  have ⟨k3_3, k3_3f⟩ := k3.2 3 _ rfl
  have ⟨k3_4, k3_4f⟩ := k3.2 4 _ rfl
  have ⟨k3_5, k3_5f⟩ := k3.2 5 _ rfl
  have k3_lt := k3.1
  go_wp2_with fail
  generalize x4.alloc (.cells #[.int .i64 p1, .int .i64 d1, .int .u32 t1, .string l1, .string u1] 24) = X4 at *
  generalize x4.heap.size = g4 at *
  refine (Cm.wish_own a1_0 a1_1 a1_2 a1_3 a1_4 p2 d2 t2 l2 u2 W2.out qa1 qb1 _).mono ?_
  rintro e x5 ⟨rfl, hb⟩
  have belb := Rw.below_then bel hb bel.size; clear bel
  clear k3_0 k3_0f k3_1 k3_1f k3_2 k3_2f k3_3 k3_3f k3_4 k3_4f k3_5 k3_5f k3_lt
  have k2b := k2.over hb; clear k2
  have k3b := k3.over hb; clear k3
  have k6b := k6.over hb; clear k6
  clear hb
  have k2 := k2b; clear k2b
  have k3 := k3b; clear k3b
  have k6 := k6b; clear k6b
  have bel := belb; clear belb
  have bel' : Below w.heap.size w (x5.alloc (.cells #[.int .i64 p2, .int .i64 d2, .int .u32 t2, .string l2, .string u2] 24)) := Rw.below_then (bel) (Rw.below_1 _ _) bel.size
  have k2' := (k2).alloc (.cells #[.int .i64 p2, .int .i64 d2, .int .u32 t2, .string l2, .string u2] 24)
  have k3' := (k3).alloc (.cells #[.int .i64 p2, .int .i64 d2, .int .u32 t2, .string l2, .string u2] 24)
  have k6' := (k6).alloc (.cells #[.int .i64 p2, .int .i64 d2, .int .u32 t2, .string l2, .string u2] 24)
  have k7 := Rw.Row.newAt (x5) [.int .i64 p2, .int .i64 d2, .int .u32 t2, .string l2, .string u2] (24) (x5.heap.size) (by simp)
  clear bel k2 k3 k6
  have k2 := k2'; clear k2'
  have k3 := k3'; clear k3'
  have k6 := k6'; clear k6'
  have bel := bel'; clear bel'
  have ⟨k6_0, k6_0f⟩ := k6.2 0 _ rfl
  have ⟨k6_1, k6_1f⟩ := k6.2 1 _ rfl
  have ⟨k6_2, k6_2f⟩ := k6.2 2 _ rfl
  have ⟨k6_3, k6_3f⟩ := k6.2 3 _ rfl
  have ⟨k6_4, k6_4f⟩ := k6.2 4 _ rfl
  have k6_lt := k6.1
  go_wp2_with fail
  generalize x5.alloc (.cells #[.int .i64 p2, .int .i64 d2, .int .u32 t2, .string l2, .string u2] 24) = X5 at *
  generalize x5.heap.size = g5 at *
  clear k6_0 k6_0f k6_1 k6_1f k6_2 k6_2f k6_3 k6_3f k6_4 k6_4f k6_lt
  clear k2 k3
  refine (Cm.bytes_any p1 d1 t1 l1 u1 y1 true X1.out s14 zt1 _).mono ?_
  rintro e x6 ⟨rfl, hb⟩
  have belb := Rw.below_then bel hb bel.size; clear bel
  have k6b := k6.over hb; clear k6
  have k7b := k7.over hb; clear k7
  clear hb
  have k6 := k6b; clear k6b
  have k7 := k7b; clear k7b
  have bel := belb; clear belb
  have ⟨k7_0, k7_0f⟩ := k7.2 0 _ rfl
  have ⟨k7_1, k7_1f⟩ := k7.2 1 _ rfl
  have ⟨k7_2, k7_2f⟩ := k7.2 2 _ rfl
  have ⟨k7_3, k7_3f⟩ := k7.2 3 _ rfl
  have ⟨k7_4, k7_4f⟩ := k7.2 4 _ rfl
  have k7_lt := k7.1
  go_wp2_with fail
  refine (Cm.bytes_any p2 d2 t2 l2 u2 y2 true X2.out s24 zt2 _).mono ?_
  rintro e x7 ⟨rfl, hb⟩
  have belb := Rw.below_then bel hb bel.size; clear bel
  clear k7_0 k7_0f k7_1 k7_1f k7_2 k7_2f k7_3 k7_3f k7_4 k7_4f k7_lt
  have k6b := k6.over hb; clear k6
  have k7b := k7.over hb; clear k7
  clear hb
  have k6 := k6b; clear k6b
  have k7 := k7b; clear k7b
  have bel := belb; clear belb
  go_wp2_with fail
  refine (Cm.read_any _ false p1 d1 t1 l1 u1 a2 false G.out HM1.out _).mono ?_
  rintro e x8 ⟨rfl, hb⟩
  have belb := Rw.below_then bel hb bel.size; clear bel
  have k6b := k6.over hb; clear k6
  have k7b := k7.over hb; clear k7
  clear hb
  have k6 := k6b; clear k6b
  have k7 := k7b; clear k7b
  have bel := belb; clear belb
  have bel' : Below w.heap.size w ((x8.alloc (.cells #[.int .i64 p1, .int .i64 d1, .int .u32 t1, .string l1, .string u1] 24)).alloc (.cells #[.string a2, .bool false] 43)) := Rw.below_then (bel) (Rw.below_2 _ _ _) bel.size
  have k6' := ((k6).alloc (.cells #[.int .i64 p1, .int .i64 d1, .int .u32 t1, .string l1, .string u1] 24)).alloc (.cells #[.string a2, .bool false] 43)
  have k7' := ((k7).alloc (.cells #[.int .i64 p1, .int .i64 d1, .int .u32 t1, .string l1, .string u1] 24)).alloc (.cells #[.string a2, .bool false] 43)
  have k8 := (Rw.Row.newAt (x8) [.int .i64 p1, .int .i64 d1, .int .u32 t1, .string l1, .string u1] (24) (x8.heap.size) (by simp)).alloc (.cells #[.string a2, .bool false] 43)
  have k9 := Rw.Row.newAt (x8.alloc (.cells #[.int .i64 p1, .int .i64 d1, .int .u32 t1, .string l1, .string u1] 24)) [.string a2, .bool false] (43) (x8.heap.size + 1) (by simp)
  clear bel k6 k7
  have k6 := k6'; clear k6'
  have k7 := k7'; clear k7'
  have bel := bel'; clear bel'
  go_wp2_with fail
  generalize (x8.alloc (.cells #[.int .i64 p1, .int .i64 d1, .int .u32 t1, .string l1, .string u1] 24)).alloc (.cells #[.string a2, .bool false] 43) = X8 at *
  generalize x8.heap.size = g8 at *
  refine (Cm.read_any _ false o3 c3 q3 k3 v3 r3 true GB.out HM2.out _).mono ?_
  rintro e x9 ⟨rfl, hb⟩
  have belb := Rw.below_then bel hb bel.size; clear bel
  have k6b := k6.over hb; clear k6
  have k7b := k7.over hb; clear k7
  have k8b := k8.over hb; clear k8
  have k9b := k9.over hb; clear k9
  clear hb
  have k6 := k6b; clear k6b
  have k7 := k7b; clear k7b
  have k8 := k8b; clear k8b
  have k9 := k9b; clear k9b
  have bel := belb; clear belb
  have bel' : Below w.heap.size w ((x9.alloc (.cells #[.int .i64 o3, .int .i64 c3, .int .u32 q3, .string k3, .string v3] 24)).alloc (.cells #[.string r3, .bool true] 43)) := Rw.below_then (bel) (Rw.below_2 _ _ _) bel.size
  have k6' := ((k6).alloc (.cells #[.int .i64 o3, .int .i64 c3, .int .u32 q3, .string k3, .string v3] 24)).alloc (.cells #[.string r3, .bool true] 43)
  have k7' := ((k7).alloc (.cells #[.int .i64 o3, .int .i64 c3, .int .u32 q3, .string k3, .string v3] 24)).alloc (.cells #[.string r3, .bool true] 43)
  have k8' := ((k8).alloc (.cells #[.int .i64 o3, .int .i64 c3, .int .u32 q3, .string k3, .string v3] 24)).alloc (.cells #[.string r3, .bool true] 43)
  have k9' := ((k9).alloc (.cells #[.int .i64 o3, .int .i64 c3, .int .u32 q3, .string k3, .string v3] 24)).alloc (.cells #[.string r3, .bool true] 43)
  have k10 := (Rw.Row.newAt (x9) [.int .i64 o3, .int .i64 c3, .int .u32 q3, .string k3, .string v3] (24) (x9.heap.size) (by simp)).alloc (.cells #[.string r3, .bool true] 43)
  have k11 := Rw.Row.newAt (x9.alloc (.cells #[.int .i64 o3, .int .i64 c3, .int .u32 q3, .string k3, .string v3] 24)) [.string r3, .bool true] (43) (x9.heap.size + 1) (by simp)
  clear bel k6 k7 k8 k9
  have k6 := k6'; clear k6'
  have k7 := k7'; clear k7'
  have k8 := k8'; clear k8'
  have k9 := k9'; clear k9'
  have bel := bel'; clear bel'
  have ⟨k6_0, k6_0f⟩ := k6.2 0 _ rfl
  have ⟨k6_1, k6_1f⟩ := k6.2 1 _ rfl
  have ⟨k6_2, k6_2f⟩ := k6.2 2 _ rfl
  have ⟨k6_3, k6_3f⟩ := k6.2 3 _ rfl
  have ⟨k6_4, k6_4f⟩ := k6.2 4 _ rfl
  have k6_lt := k6.1
  have ⟨k7_0, k7_0f⟩ := k7.2 0 _ rfl
  have ⟨k7_1, k7_1f⟩ := k7.2 1 _ rfl
  have ⟨k7_2, k7_2f⟩ := k7.2 2 _ rfl
  have ⟨k7_3, k7_3f⟩ := k7.2 3 _ rfl
  have ⟨k7_4, k7_4f⟩ := k7.2 4 _ rfl
  have k7_lt := k7.1
  have ⟨k8_0, k8_0f⟩ := k8.2 0 _ rfl
  have ⟨k8_1, k8_1f⟩ := k8.2 1 _ rfl
  have ⟨k8_2, k8_2f⟩ := k8.2 2 _ rfl
  have ⟨k8_3, k8_3f⟩ := k8.2 3 _ rfl
  have ⟨k8_4, k8_4f⟩ := k8.2 4 _ rfl
  have k8_lt := k8.1
  have ⟨k9_0, k9_0f⟩ := k9.2 0 _ rfl
  have ⟨k9_1, k9_1f⟩ := k9.2 1 _ rfl
  have k9_lt := k9.1
  have ⟨k11_0, k11_0f⟩ := k11.2 0 _ rfl
  have ⟨k11_1, k11_1f⟩ := k11.2 1 _ rfl
  have k11_lt := k11.1
  go_wp2
  generalize (x9.alloc (.cells #[.int .i64 o3, .int .i64 c3, .int .u32 q3, .string k3, .string v3] 24)).alloc (.cells #[.string r3, .bool true] 43) = X9 at *
  generalize x9.heap.size = g9 at *
  go_ret
  exact ⟨rfl, bel⟩

theorem laid_met (os : Os) : laidMet Tryd.prog Rows.cmdBackRow.laid ((World.doorLaid Tryd.prog 24 os).forCall (fun _ _ => 0) ⟨#[], #[.agg #[.int .i64 0, .int .i64 0, .int .u32 0, .string ByteArray.empty, .string ByteArray.empty, .bool false], .agg #[.int .i64 0, .int .i64 0, .int .u32 0, .string ByteArray.empty, .string ByteArray.empty, .bool false], .string ByteArray.empty, .int .u8 0], []⟩).memory :=
  laidMet_of_run' 8 (by kernel_rfl) (by kernel_rfl)
theorem reads (os : Os) {H : Type} (enc : TypeId × Value → H) : ∃ places, DataW.whole enc Tryd.prog ((World.doorLaid Tryd.prog 24 os).forCall (fun _ _ => 0) ⟨#[], #[.agg #[.int .i64 0, .int .i64 0, .int .u32 0, .string ByteArray.empty, .string ByteArray.empty, .bool false], .agg #[.int .i64 0, .int .i64 0, .int .u32 0, .string ByteArray.empty, .string ByteArray.empty, .bool false], .string ByteArray.empty, .int .u8 0], []⟩).memory Tryd.f6.params.toList Rows.cmdBackSpec.vars false (#[.agg #[.int .i64 0, .int .i64 0, .int .u32 0, .string ByteArray.empty, .string ByteArray.empty, .bool false], .agg #[.int .i64 0, .int .i64 0, .int .u32 0, .string ByteArray.empty, .string ByteArray.empty, .bool false], .string ByteArray.empty, .int .u8 0] : Array Value).toList 8 = some ([.agg [.agg [.lit (.int .i64 0), .lit (.int .i64 0), .lit (.int .u32 0), .lit (.string []), .lit (.string [])], .lit (.bool false)], .agg [.agg [.lit (.int .i64 0), .lit (.int .i64 0), .lit (.int .u32 0), .lit (.string []), .lit (.string [])], .lit (.bool false)], .lit (.string []), .lit (.int .u8 0)], [], places) :=
  ⟨[], by kernel_rfl⟩

set_option maxRecDepth 100000 in
theorem lifted (os : Os) (started : os.Started) (H : Type) (enc : TypeId × Value → H) (F : Stop.Interp) :
    ReturnsInHanded {} Tryd.checked os 6 .any ((OpenSpec.ofChange Rows.cmdBackSpec).preRow enc Tryd.prog Tryd.f6 Rows.cmdBackRow.domain false Rows.cmdBackRow.laid) (((OpenSpec.ofChange Rows.cmdBackSpec).at F).post enc Tryd.prog Tryd.f6 false true false false) := by
  obtain ⟨places, hx⟩ := reads os enc
  refine returnsInHanded_of_row (C := Tryd.checked) (s := OpenSpec.ofChange Rows.cmdBackSpec) own started (by kernel_rfl) Tryd.func6
    (witness_row_at (enc := enc) (C := Tryd.checked) false (World.doorLaid Tryd.prog 24 os) #[.agg #[.int .i64 0, .int .i64 0, .int .u32 0, .string ByteArray.empty, .string ByteArray.empty, .bool false], .agg #[.int .i64 0, .int .i64 0, .int .u32 0, .string ByteArray.empty, .string ByteArray.empty, .bool false], .string ByteArray.empty, .int .u8 0] rfl (by kernel_rfl) (by kernel_rfl) (by kernel_rfl)
      (OpenSpec.preRow_of_cond 8 hx (by kernel_rfl) (fun k hk => by cases hk) (by kernel_rfl) (laid_met os))) ?_
  intro W base args ds gs before hval0 hW _ _ hsz0 hL _ _
  have hval : ∀ (j : Nat) t v, Tryd.f6.params[j]? = some t → args[j]? = some v → Value.okWide Tryd.prog W .any base t v := hval0
  have hsz : (DataW.weightsEach Tryd.prog (Tryd.f6.params.toList ++ Rows.cmdBackSpec.plain.varTypes Tryd.prog) (ds ++ gs)).all (· ≤ reachBytes) = true := hsz0
  have hW' := hW
  obtain ⟨p, q, hA0, hV, rfl, hfz, hnd⟩ := hW
  have hA : DataW.TrodAll enc Tryd.prog W 0 (fun _ => true) true Tryd.f6.params.toList args.toList ds p := hA0
  rw [Tryd.params6] at hA hval hsz
  obtain ⟨v0, vs0, d0, ds0, p0, q0, hargs, rfl, rfl, h0, r0⟩ := trodAll_cons hA
  obtain ⟨v1, vs1, d1, ds1, p1, q1, rfl, rfl, rfl, h1, r1⟩ := trodAll_cons r0
  obtain ⟨v2, vs2, d2, ds2, p2, q2, rfl, rfl, rfl, h2, r2⟩ := trodAll_cons r1
  obtain ⟨v3, vs3, d3, ds3, p3, q3, rfl, rfl, rfl, h3, r3⟩ := trodAll_cons r2
  obtain ⟨rfl, rfl, rfl⟩ := trodAll_nil r3
  obtain rfl : args = #[v0, v1, v2, v3] := by cases args; simp_all
  obtain ⟨rfl, rfl⟩ := trodVars_none hV
  have k0 := h0
  have lt0 : ∀ x ∈ p0, x.block < W.heap.size := by obtain ⟨m, hm⟩ := k0; exact DataW.trod_lt m _ _ _ hm
  have k1 := h1
  have lt1 : ∀ x ∈ p1, x.block < W.heap.size := by obtain ⟨m, hm⟩ := k1; exact DataW.trod_lt m _ _ _ hm
  obtain ⟨c0_0, c0_1, c0_2, c0_3, c0_4, c0_5, y0_0, y0_1, y0_2, y0_3, y0_4, y0_5, n0, m0, rfl, rfl, g0_0, g0_1, g0_2, g0_3, g0_4, g0_5⟩ := Rw.open_nest5 Tryd.underlying26 Tryd.underlying24 rfl rfl (by kernel_rfl) (by kernel_rfl) (by kernel_rfl) (by kernel_rfl) (hval 0 26 v0 rfl rfl) h0
  obtain ⟨a0_0, e0_0, rfl, w0_0⟩ := DataW.trod_int Tryd.underlying3 g0_0
  obtain rfl : c0_0 = .int .i64 a0_0 := by simpa using e0_0
  obtain ⟨a0_1, e0_1, rfl, w0_1⟩ := DataW.trod_int Tryd.underlying3 g0_1
  obtain rfl : c0_1 = .int .i64 a0_1 := by simpa using e0_1
  obtain ⟨a0_2, e0_2, rfl, w0_2⟩ := DataW.trod_int Tryd.underlying22 g0_2
  obtain rfl : c0_2 = .int .u32 a0_2 := by simpa using e0_2
  obtain ⟨a0_3, e0_3, rfl, w0_3⟩ := DataW.trod_string Tryd.underlying9 g0_3
  obtain rfl : c0_3 = .string a0_3 := by simpa using e0_3
  obtain ⟨a0_4, e0_4, rfl, w0_4⟩ := DataW.trod_string Tryd.underlying9 g0_4
  obtain rfl : c0_4 = .string a0_4 := by simpa using e0_4
  obtain ⟨a0_5, e0_5, rfl⟩ := DataW.trod_bool Tryd.underlying4 g0_5
  obtain rfl : c0_5 = .bool a0_5 := by simpa using e0_5
  obtain ⟨c1_0, c1_1, c1_2, c1_3, c1_4, c1_5, y1_0, y1_1, y1_2, y1_3, y1_4, y1_5, n1, m1, rfl, rfl, g1_0, g1_1, g1_2, g1_3, g1_4, g1_5⟩ := Rw.open_nest5 Tryd.underlying26 Tryd.underlying24 rfl rfl (by kernel_rfl) (by kernel_rfl) (by kernel_rfl) (by kernel_rfl) (hval 1 26 v1 rfl rfl) h1
  obtain ⟨a1_0, e1_0, rfl, w1_0⟩ := DataW.trod_int Tryd.underlying3 g1_0
  obtain rfl : c1_0 = .int .i64 a1_0 := by simpa using e1_0
  obtain ⟨a1_1, e1_1, rfl, w1_1⟩ := DataW.trod_int Tryd.underlying3 g1_1
  obtain rfl : c1_1 = .int .i64 a1_1 := by simpa using e1_1
  obtain ⟨a1_2, e1_2, rfl, w1_2⟩ := DataW.trod_int Tryd.underlying22 g1_2
  obtain rfl : c1_2 = .int .u32 a1_2 := by simpa using e1_2
  obtain ⟨a1_3, e1_3, rfl, w1_3⟩ := DataW.trod_string Tryd.underlying9 g1_3
  obtain rfl : c1_3 = .string a1_3 := by simpa using e1_3
  obtain ⟨a1_4, e1_4, rfl, w1_4⟩ := DataW.trod_string Tryd.underlying9 g1_4
  obtain rfl : c1_4 = .string a1_4 := by simpa using e1_4
  obtain ⟨a1_5, e1_5, rfl⟩ := DataW.trod_bool Tryd.underlying4 g1_5
  obtain rfl : c1_5 = .bool a1_5 := by simpa using e1_5
  obtain ⟨a2, rfl, rfl, rfl, w2⟩ := open_string Tryd.underlying9 (hval 2 9 v2 rfl rfl) h2
  obtain ⟨a3, rfl, rfl, rfl, w3⟩ := open_int Tryd.underlying5 (hval 3 5 v3 rfl rfl) h3
  clear hA0 hval0
  have z0_3 : a0_3.size ≤ 140737488351232 := by
    have := List.all_eq_true.1 hsz _ (DataW.weights_mem_each (j := 0) (t := 26) rfl rfl a0_3.data.toList.length (by simp [DataW.weights, Tryd.underlying26, Tryd.underlying24, DataW.weightsEach]))
    simpa [reachBytes] using of_decide_eq_true this
  have z0_4 : a0_4.size ≤ 140737488351232 := by
    have := List.all_eq_true.1 hsz _ (DataW.weights_mem_each (j := 0) (t := 26) rfl rfl a0_4.data.toList.length (by simp [DataW.weights, Tryd.underlying26, Tryd.underlying24, DataW.weightsEach]))
    simpa [reachBytes] using of_decide_eq_true this
  have z1_3 : a1_3.size ≤ 140737488351232 := by
    have := List.all_eq_true.1 hsz _ (DataW.weights_mem_each (j := 1) (t := 26) rfl rfl a1_3.data.toList.length (by simp [DataW.weights, Tryd.underlying26, Tryd.underlying24, DataW.weightsEach]))
    simpa [reachBytes] using of_decide_eq_true this
  have z1_4 : a1_4.size ≤ 140737488351232 := by
    have := List.all_eq_true.1 hsz _ (DataW.weights_mem_each (j := 1) (t := 26) rfl rfl a1_4.data.toList.length (by simp [DataW.weights, Tryd.underlying26, Tryd.underlying24, DataW.weightsEach]))
    simpa [reachBytes] using of_decide_eq_true this
  have z2 : a2.size ≤ 140737488351232 := by
    have := sized_string hsz (j := 2) (t := 9) rfl rfl
    simp only [Array.length_toList, reachBytes] at this
    exact this
  refine (walk a0_0 a0_1 a0_2 a0_3 a0_4 a0_5 a1_0 a1_1 a1_2 a1_3 a1_4 a1_5 a2 a3 W w0_0 w0_1 w0_2 z0_3 z0_4 w1_0 w1_1 w1_2 z1_3 z1_4 z2 w3 (Bl.tab_of hL)).mono fun e W' ⟨he, bel⟩ => ?_
  subst he
  exact ⟨_, rfl, _, _, _, [], _, [], hW', trodAll_mk1 (shut_bool Tryd.underlying4 _), (trodAll_cons_mk (Below.trod laidOut (by kernel_rfl) (of_decide_eq_true (by kernel_rfl)) k0 bel lt0) (trodAll_cons_mk (Below.trod laidOut (by kernel_rfl) (of_decide_eq_true (by kernel_rfl)) k1 bel lt1) (trodAll_cons_mk (shut_string Tryd.underlying9 w2) (trodAll_cons_mk (shut_int Tryd.underlying5 w3) trodAll_mk0)))), rfl, bel.frame _, fun h => by cases h⟩

theorem over : Rows.cmdBackRow.holds Tryd.pinned (OpenSpec.ofChange Rows.cmdBackSpec) :=
  OpenClaim.holds_of_cond 6 Tryd.f6 rfl rfl rfl rfl rfl rfl rfl ⟨rfl, rfl, rfl, rfl, rfl⟩ rfl rfl rfl rfl rfl (by kernel_rfl) Tryd.func6 (by kernel_rfl)
    (of_decide_eq_true (by kernel_rfl)) (by unfold Func.isWrapper; first | (rw [if_pos (by decide +kernel)]; kernel_rfl) | (rw [if_neg (by decide +kernel)]; exact ⟨rfl, rfl⟩))
    (fun os started H enc _ F => by rw [OpenClaim.pre_eq_preRow]; exact lifted os started H enc F)

/-- No parameter wants a stand-in. -/
theorem plain (f : FuncId) (fn : Func) (hf : Tryd.pinned.checked.prog.funcNamed "comitia/comitialaw07.CmdBack" = some f) (hfn : Tryd.pinned.checked.prog.funcs[f]? = some fn) :
    false = Tryd.pinned.checked.prog.looks [] ∧ ∀ (j : Nat) t, fn.params[j]? = some t → Tryd.pinned.checked.prog.wantsStandIn t = false := by
  obtain rfl : f = 6 := Option.some.inj ((show Tryd.prog.funcNamed "comitia/comitialaw07.CmdBack" = some 6 by kernel_rfl).symm.trans hf) |>.symm
  obtain rfl : fn = Tryd.f6 := (Option.some.inj (Tryd.func6.symm.trans hfn)).symm
  refine ⟨by kernel_rfl, fun j t ht => ?_⟩
  rw [Tryd.params6] at ht
  have hm : t ∈ [26, 26, 9, 5] := by simpa using Array.mem_of_getElem? ht
  have hall : ([26, 26, 9, 5].all fun u => !Tryd.prog.wantsStandIn u) = true := by kernel_rfl
  exact (show Tryd.prog.wantsStandIn t = false by simpa using List.all_eq_true.1 hall t hm)

theorem proved : Rows.CmdBackCardSaid :=
  Claim7.holds_tied_plain_at .later [] _ _ _ _ over (fun _ h => by cases h) (by kernel_rfl) (fun _ h => by cases h) cmdBack_row_tie rfl ⟨rfl, rfl⟩ (by kernel_rfl) rfl plain (by kernel_rfl)
end Go.Proofs.YtolgboedinbpeaaDoor.cmdBack
