/-
  Proved: for every two wishes the law CmdTells returns true and leaves its inputs as they were; the card ties the three tables of the library that the row lists to the text of the program. No condition beyond the form itself (each text at most 2^47 - 4096 bytes; the listed tables start as that text lays them).
-/
import Derived.Test.YtolgboedinbpeaaDoorCmdL
import Derived.Test.YtolgboedinbpeaaDoorTab
import Derived.Deep.RegionHeld3
import Derived.Test.YtolgboedinbpeaaDoorCards
import Derived.Test.YtolgboedinbpeaaDoorTie
import Derived.Deep.DeepHandedRow
import Derived.LaidMore
import Derived.SevenTiedAt
import Derived.WalkKit
import Derived.ProofKit
import Derived.OpenShut
import Derived.ShutString
import Derived.SizedLaws
import Derived.ChangeOld
import Derived.Below
import Derived.Carry
import Derived.Lib.SmallJoins
import Derived.Deep.SlicePairs
import Derived.SliceStrings
namespace Go.Proofs.YtolgboedinbpeaaDoor.cmdTells
open Go.ChangeShapes Go.WideShapes Go.ChangeAt Go.RowKit Go.Joins Go.Deep
open Go.ChangeMaps (open_string shut_string)
set_option linter.unusedVariables false

theorem own : ownKnob Tryd.prog.godebug = none := by kernel_rfl
theorem laidOut : laidOutB Tryd.prog = true := by kernel_rfl

set_option maxRecDepth 100000 in
set_option maxHeartbeats 4000000 in
theorem walk (a0_0 : Int) (a0_1 : Int) (a0_2 : Int) (a0_3 : ByteArray) (a0_4 : ByteArray) (a0_5 : Bool) (a1_0 : Int) (a1_1 : Int) (a1_2 : Int) (a1_3 : ByteArray) (a1_4 : ByteArray) (a1_5 : Bool) (w : World) (w0_0 : (Lit.int .i64 a0_0).wf = true) (w0_1 : (Lit.int .i64 a0_1).wf = true) (w0_2 : (Lit.int .u32 a0_2).wf = true) (z0_3 : a0_3.size ≤ 140737488351232) (z0_4 : a0_4.size ≤ 140737488351232) (w1_0 : (Lit.int .i64 a1_0).wf = true) (w1_1 : (Lit.int .i64 a1_1).wf = true) (w1_2 : (Lit.int .u32 a1_2).wf = true) (z1_3 : a1_3.size ≤ 140737488351232) (z1_4 : a1_4.size ≤ 140737488351232) (ht : Bl.Tab w) :
    Calls Tryd.prog 3 #[.agg #[.int .i64 a0_0, .int .i64 a0_1, .int .u32 a0_2, .string a0_3, .string a0_4, .bool a0_5], .agg #[.int .i64 a1_0, .int .i64 a1_1, .int .u32 a1_2, .string a1_3, .string a1_4, .bool a1_5]] w fun e w' => e = .returned (.bool true) ∧ Below w.heap.size w w' := by
  have qs0 : 0 ≤ a0_2 ∧ a0_2 ≤ 4294967295 := by simpa [Lit.wf, IntKind.min, IntKind.max, IntKind.signed, IntKind.bits] using w0_2
  have qc0 : -9223372036854775808 ≤ a0_1 ∧ a0_1 ≤ 9223372036854775807 := by simpa [Lit.wf, IntKind.min, IntKind.max, IntKind.signed, IntKind.bits] using w0_1
  obtain ⟨qa0, qb0⟩ := qs0
  obtain ⟨p1, d1, t1, l1, u1, W1⟩ : ∃ p d t l u, Hid (Cm.wishA a0_0 a0_1 a0_2 a0_3 a0_4 a0_5 = (p, d, t, l, u)) := ⟨_, _, _, _, _, Lib.hid rfl⟩
  obtain ⟨zs1, zt1, zd1, ze1, zl1, zu1⟩ := Cm.wishA_bd _ _ _ _ _ _ _ _ _ _ _ W1.out qa0 qb0 qc0.1 qc0.2 z0_3 z0_4
  have qs1 : 0 ≤ a1_2 ∧ a1_2 ≤ 4294967295 := by simpa [Lit.wf, IntKind.min, IntKind.max, IntKind.signed, IntKind.bits] using w1_2
  have qc1 : -9223372036854775808 ≤ a1_1 ∧ a1_1 ≤ 9223372036854775807 := by simpa [Lit.wf, IntKind.min, IntKind.max, IntKind.signed, IntKind.bits] using w1_1
  obtain ⟨qa1, qb1⟩ := qs1
  obtain ⟨p2, d2, t2, l2, u2, W2⟩ : ∃ p d t l u, Hid (Cm.wishA a1_0 a1_1 a1_2 a1_3 a1_4 a1_5 = (p, d, t, l, u)) := ⟨_, _, _, _, _, Lib.hid rfl⟩
  obtain ⟨zs2, zt2, zd2, ze2, zl2, zu2⟩ := Cm.wishA_bd _ _ _ _ _ _ _ _ _ _ _ W2.out qa1 qb1 qc1.1 qc1.2 z1_3 z1_4
  have htw := ht
  obtain ⟨y1, ok, Y1⟩ : ∃ x b, Hid (Cm.bytesC p1 d1 t1 l1 u1 = (x, b)) := ⟨_, _, Lib.hid rfl⟩
  obtain ⟨r1, R1⟩ : ∃ r, Hid (Cm.rightC p1 d1 t1 l1 u1 = r) := ⟨_, Lib.hid rfl⟩
  obtain ⟨c1, C1⟩ : ∃ r, Hid (Cm.clashC p1 d1 t1 l1 p2 d2 t2 l2 = r) := ⟨_, Lib.hid rfl⟩
  obtain ⟨e1, E1⟩ : ∃ r, Hid (Cm.textC p1 d1 t1 l1 u1 = r) := ⟨_, Lib.hid rfl⟩
  clear w0_0 w0_1 w0_2 w1_0 w1_1 w1_2 qc0 qc1
  go_enter Tryd.func3, Tryd.ntmps3
  go_wp2_with fail
  have bel' : Below w.heap.size w ((w.alloc (.cells #[.int .i64 a0_0, .int .i64 a0_1, .int .u32 a0_2, .string a0_3, .string a0_4, .bool a0_5] 26)).alloc (.cells #[.int .i64 a1_0, .int .i64 a1_1, .int .u32 a1_2, .string a1_3, .string a1_4, .bool a1_5] 26)) := Rw.below_then ((Below.refl _ _)) (Rw.below_2 _ _ _) (Nat.le_refl _)
  have k2 := (Rw.Row.newAt (w) [.int .i64 a0_0, .int .i64 a0_1, .int .u32 a0_2, .string a0_3, .string a0_4, .bool a0_5] (26) (w.heap.size) (by simp)).alloc (.cells #[.int .i64 a1_0, .int .i64 a1_1, .int .u32 a1_2, .string a1_3, .string a1_4, .bool a1_5] 26)
  have k3 := Rw.Row.newAt (w.alloc (.cells #[.int .i64 a0_0, .int .i64 a0_1, .int .u32 a0_2, .string a0_3, .string a0_4, .bool a0_5] 26)) [.int .i64 a1_0, .int .i64 a1_1, .int .u32 a1_2, .string a1_3, .string a1_4, .bool a1_5] (26) (w.heap.size + 1) (by simp)
  have ht' : Bl.Tab ((w.alloc (.cells #[.int .i64 a0_0, .int .i64 a0_1, .int .u32 a0_2, .string a0_3, .string a0_4, .bool a0_5] 26)).alloc (.cells #[.int .i64 a1_0, .int .i64 a1_1, .int .u32 a1_2, .string a1_3, .string a1_4, .bool a1_5] 26)) := Bl.Tab.over (ht) (Rw.below_2 _ _ _)
  clear ht
  have ht := ht'; clear ht'
  have bel := bel'; clear bel'
  refine (Cm.examples_any _ ht).mono ?_
  rintro e x2 ⟨rfl, hb⟩
  have belb := Rw.below_then bel hb bel.size; clear bel
  have k2b := k2.over hb; clear k2
  have k3b := k3.over hb; clear k3
  have htb := Bl.Tab.over ht hb; clear ht
  clear hb
  have k2 := k2b; clear k2b
  have k3 := k3b; clear k3b
  have ht := htb; clear htb
  have bel := belb; clear belb
  have ⟨k2_0, k2_0f⟩ := k2.2 0 _ rfl
  have ⟨k2_1, k2_1f⟩ := k2.2 1 _ rfl
  have ⟨k2_2, k2_2f⟩ := k2.2 2 _ rfl
  have ⟨k2_3, k2_3f⟩ := k2.2 3 _ rfl
  have ⟨k2_4, k2_4f⟩ := k2.2 4 _ rfl
  have ⟨k2_5, k2_5f⟩ := k2.2 5 _ rfl
  have k2_lt := k2.1
  have ⟨k3_0, k3_0f⟩ := k3.2 0 _ rfl
  have ⟨k3_1, k3_1f⟩ := k3.2 1 _ rfl
  have ⟨k3_2, k3_2f⟩ := k3.2 2 _ rfl
  have ⟨k3_3, k3_3f⟩ := k3.2 3 _ rfl
  have ⟨k3_4, k3_4f⟩ := k3.2 4 _ rfl
  have ⟨k3_5, k3_5f⟩ := k3.2 5 _ rfl
  have k3_lt := k3.1
  go_wp2_with fail
  clear ht
  refine (Cm.wish_any a0_0 a0_1 a0_2 a0_3 a0_4 a0_5 p1 d1 t1 l1 u1 W1.out qa0 qb0 _).mono ?_
  rintro e x3 ⟨rfl, hb⟩
  have belb := Rw.below_then bel hb bel.size; clear bel
  clear k2_0 k2_0f k2_1 k2_1f k2_2 k2_2f k2_3 k2_3f k2_4 k2_4f k2_5 k2_5f k2_lt k3_0 k3_0f k3_1 k3_1f k3_2 k3_2f k3_3 k3_3f k3_4 k3_4f k3_5 k3_5f k3_lt
  have k2b := k2.over hb; clear k2
  have k3b := k3.over hb; clear k3
  clear hb
  have k2 := k2b; clear k2b
  have k3 := k3b; clear k3b
  have bel := belb; clear belb
  have bel' : Below w.heap.size w (x3.alloc (.cells #[.int .i64 p1, .int .i64 d1, .int .u32 t1, .string l1, .string u1] 24)) := Rw.below_then (bel) (Rw.below_1 _ _) bel.size
  have k2' := (k2).alloc (.cells #[.int .i64 p1, .int .i64 d1, .int .u32 t1, .string l1, .string u1] 24)
  have k3' := (k3).alloc (.cells #[.int .i64 p1, .int .i64 d1, .int .u32 t1, .string l1, .string u1] 24)
  have k6 := Rw.Row.newAt (x3) [.int .i64 p1, .int .i64 d1, .int .u32 t1, .string l1, .string u1] (24) (x3.heap.size) (by simp)
  clear bel k2 k3
  have k2 := k2'; clear k2'
  have k3 := k3'; clear k3'
  have bel := bel'; clear bel'
  have ⟨k3_0, k3_0f⟩ := k3.2 0 _ rfl
  have ⟨k3_1, k3_1f⟩ := k3.2 1 _ rfl
  have ⟨k3_2, k3_2f⟩ := k3.2 2 _ rfl
  have ⟨k3_3, k3_3f⟩ := k3.2 3 _ rfl
  have ⟨k3_4, k3_4f⟩ := k3.2 4 _ rfl
  have ⟨k3_5, k3_5f⟩ := k3.2 5 _ rfl
  have k3_lt := k3.1
  go_wp2_with fail
  generalize x3.alloc (.cells #[.int .i64 p1, .int .i64 d1, .int .u32 t1, .string l1, .string u1] 24) = X3 at *
  generalize x3.heap.size = g3 at *
  refine (Cm.wish_any a1_0 a1_1 a1_2 a1_3 a1_4 a1_5 p2 d2 t2 l2 u2 W2.out qa1 qb1 _).mono ?_
  rintro e x4 ⟨rfl, hb⟩
  have belb := Rw.below_then bel hb bel.size; clear bel
  clear k3_0 k3_0f k3_1 k3_1f k3_2 k3_2f k3_3 k3_3f k3_4 k3_4f k3_5 k3_5f k3_lt
  have k2b := k2.over hb; clear k2
  have k3b := k3.over hb; clear k3
  have k6b := k6.over hb; clear k6
  clear hb
  have k2 := k2b; clear k2b
  have k3 := k3b; clear k3b
  have k6 := k6b; clear k6b
  have bel := belb; clear belb
  have bel' : Below w.heap.size w (x4.alloc (.cells #[.int .i64 p2, .int .i64 d2, .int .u32 t2, .string l2, .string u2] 24)) := Rw.below_then (bel) (Rw.below_1 _ _) bel.size
  have k2' := (k2).alloc (.cells #[.int .i64 p2, .int .i64 d2, .int .u32 t2, .string l2, .string u2] 24)
  have k3' := (k3).alloc (.cells #[.int .i64 p2, .int .i64 d2, .int .u32 t2, .string l2, .string u2] 24)
  have k6' := (k6).alloc (.cells #[.int .i64 p2, .int .i64 d2, .int .u32 t2, .string l2, .string u2] 24)
  have k7 := Rw.Row.newAt (x4) [.int .i64 p2, .int .i64 d2, .int .u32 t2, .string l2, .string u2] (24) (x4.heap.size) (by simp)
  clear bel k2 k3 k6
  have k2 := k2'; clear k2'
  have k3 := k3'; clear k3'
  have k6 := k6'; clear k6'
  have bel := bel'; clear bel'
  have ⟨k6_0, k6_0f⟩ := k6.2 0 _ rfl
  have ⟨k6_1, k6_1f⟩ := k6.2 1 _ rfl
  have ⟨k6_2, k6_2f⟩ := k6.2 2 _ rfl
  have ⟨k6_3, k6_3f⟩ := k6.2 3 _ rfl
  have ⟨k6_4, k6_4f⟩ := k6.2 4 _ rfl
  have k6_lt := k6.1
  go_wp2_with fail
  generalize x4.alloc (.cells #[.int .i64 p2, .int .i64 d2, .int .u32 t2, .string l2, .string u2] 24) = X4 at *
  generalize x4.heap.size = g4 at *
  clear k6_0 k6_0f k6_1 k6_1f k6_2 k6_2f k6_3 k6_3f k6_4 k6_4f k6_lt
  clear k2 k3
  refine (Cm.bytes_any p1 d1 t1 l1 u1 y1 ok Y1.out zs1 zt1 _).mono ?_
  rintro e x5 ⟨rfl, hb⟩
  have belb := Rw.below_then bel hb bel.size; clear bel
  have k6b := k6.over hb; clear k6
  have k7b := k7.over hb; clear k7
  clear hb
  have k6 := k6b; clear k6b
  have k7 := k7b; clear k7b
  have bel := belb; clear belb
  have ⟨k6_0, k6_0f⟩ := k6.2 0 _ rfl
  have ⟨k6_1, k6_1f⟩ := k6.2 1 _ rfl
  have ⟨k6_2, k6_2f⟩ := k6.2 2 _ rfl
  have ⟨k6_3, k6_3f⟩ := k6.2 3 _ rfl
  have ⟨k6_4, k6_4f⟩ := k6.2 4 _ rfl
  have k6_lt := k6.1
  go_wp2_with fail
  refine (Cm.refcmd_any p1 d1 t1 l1 u1 _).mono ?_
  rintro e x6 ⟨rfl, hb⟩
  have belb := Rw.below_then bel hb bel.size; clear bel
  clear k6_0 k6_0f k6_1 k6_1f k6_2 k6_2f k6_3 k6_3f k6_4 k6_4f k6_lt
  have k6b := k6.over hb; clear k6
  have k7b := k7.over hb; clear k7
  clear hb
  have k6 := k6b; clear k6b
  have k7 := k7b; clear k7b
  have bel := belb; clear belb
  go_wp2_with fail
  refine (Cm.refbytes_any p1 d1 t1 l1 u1 y1 ok Y1.out zs1 zt1 _).mono ?_
  rintro e x7 ⟨rfl, hb⟩
  have belb := Rw.below_then bel hb bel.size; clear bel
  have k6b := k6.over hb; clear k6
  have k7b := k7.over hb; clear k7
  clear hb
  have k6 := k6b; clear k6b
  have k7 := k7b; clear k7b
  have bel := belb; clear belb
  go_wp2
  have hd0 : Rw.Rows w w.heap.size [(g3, [.int .i64 p1, .int .i64 d1, .int .u32 t1, .string l1, .string u1]), (g4, [.int .i64 p2, .int .i64 d2, .int .u32 t2, .string l2, .string u2])] x7.drew := ⟨bel.drew, bel.size, by simp only [List.forall_mem_cons, List.not_mem_nil, false_imp_iff, implies_true, and_true]; exact ⟨k6.drew, k7.drew⟩⟩
  have HC := Lib.hid (show ∀ w', Rw.Rows w w.heap.size [(g3, [.int .i64 p1, .int .i64 d1, .int .u32 t1, .string l1, .string u1]), (g4, [.int .i64 p2, .int .i64 d2, .int .u32 t2, .string l2, .string u2])] w' → (w'.cell? ⟨g3, 0, none⟩ = some (.int .i64 p1) ∧ w'.cell? ⟨g3, 1, none⟩ = some (.int .i64 d1) ∧ w'.cell? ⟨g3, 2, none⟩ = some (.int .u32 t1) ∧ w'.cell? ⟨g3, 3, none⟩ = some (.string l1) ∧ w'.cell? ⟨g3, 4, none⟩ = some (.string u1) ∧ w'.cell? ⟨g4, 0, none⟩ = some (.int .i64 p2) ∧ w'.cell? ⟨g4, 1, none⟩ = some (.int .i64 d2) ∧ w'.cell? ⟨g4, 2, none⟩ = some (.int .u32 t2) ∧ w'.cell? ⟨g4, 3, none⟩ = some (.string l2) ∧ w'.cell? ⟨g4, 4, none⟩ = some (.string u2)) from fun w' h => ⟨((h.2.2 _ (.head _)).2 0 _ rfl).1, ((h.2.2 _ (.head _)).2 1 _ rfl).1, ((h.2.2 _ (.head _)).2 2 _ rfl).1, ((h.2.2 _ (.head _)).2 3 _ rfl).1, ((h.2.2 _ (.head _)).2 4 _ rfl).1, ((h.2.2 _ (.tail _ (.head _))).2 0 _ rfl).1, ((h.2.2 _ (.tail _ (.head _))).2 1 _ rfl).1, ((h.2.2 _ (.tail _ (.head _))).2 2 _ rfl).1, ((h.2.2 _ (.tail _ (.head _))).2 3 _ rfl).1, ((h.2.2 _ (.tail _ (.head _))).2 4 _ rfl).1⟩)
  clear bel k6 k7
  go_region_held3 (fun w' => w'.cell? ⟨g3, 0, none⟩ = some (.int .i64 p1) ∧ w'.cell? ⟨g3, 1, none⟩ = some (.int .i64 d1) ∧ w'.cell? ⟨g3, 2, none⟩ = some (.int .u32 t1) ∧ w'.cell? ⟨g3, 3, none⟩ = some (.string l1) ∧ w'.cell? ⟨g3, 4, none⟩ = some (.string u1) ∧ w'.cell? ⟨g4, 0, none⟩ = some (.int .i64 p2) ∧ w'.cell? ⟨g4, 1, none⟩ = some (.int .i64 d2) ∧ w'.cell? ⟨g4, 2, none⟩ = some (.int .u32 t2) ∧ w'.cell? ⟨g4, 3, none⟩ = some (.string l2) ∧ w'.cell? ⟨g4, 4, none⟩ = some (.string u2)) (exact HC.out _ (by assumption)) (first | (go_at_call 13; refine (Cm.refcmd_any _ _ _ _ _ _).mono ?_; rintro e w3 ⟨rfl, hb3⟩; have hp3 := Rw.Rows.keep hb3 (by assumption)) | (go_at_call 14; refine (Cm.right_any p1 d1 t1 l1 u1 r1 R1.out _).mono ?_; rintro e w3 ⟨rfl, hb3⟩; have hp3 := Rw.Rows.keep hb3 (by assumption)) | (go_at_call 15; refine (Cm.refright_any p1 d1 t1 l1 u1 r1 R1.out _).mono ?_; rintro e w3 ⟨rfl, hb3⟩; have hp3 := Rw.Rows.keep hb3 (by assumption)) | (go_at_call 16; refine (Cm.clash_any p1 d1 t1 l1 u1 p2 d2 t2 l2 u2 c1 C1.out _).mono ?_; rintro e w3 ⟨rfl, hb3⟩; have hp3 := Rw.Rows.keep hb3 (by assumption)) | (go_at_call 17; refine (Cm.refclash_any p1 d1 t1 l1 u1 p2 d2 t2 l2 u2 c1 C1.out _).mono ?_; rintro e w3 ⟨rfl, hb3⟩; have hp3 := Rw.Rows.keep hb3 (by assumption)) | (go_at_call 18; refine (Cm.text_any p1 d1 t1 l1 u1 e1 E1.out zs1 zt1 zd1 ze1 zl1 zu1 _ (Cm.tab_rows htw (by assumption))).mono ?_; rintro e w3 ⟨rfl, hb3⟩; have hp3 := Rw.Rows.keep hb3 (by assumption)) | (go_at_call 19; refine (Cm.reftext_any p1 d1 t1 l1 u1 e1 E1.out zs1 zt1 zd1 ze1 zl1 zu1 _).mono ?_; rintro e w3 ⟨rfl, hb3⟩; have hp3 := Rw.Rows.keep hb3 (by assumption)))
  go_wp2
  go_ret
  exact ⟨rfl, hp3.1⟩

theorem laid_met (os : Os) : laidMet Tryd.prog Rows.cmdTellsRow.laid ((World.doorLaid Tryd.prog 24 os).forCall (fun _ _ => 0) ⟨#[], #[.agg #[.int .i64 0, .int .i64 0, .int .u32 0, .string ByteArray.empty, .string ByteArray.empty, .bool false], .agg #[.int .i64 0, .int .i64 0, .int .u32 0, .string ByteArray.empty, .string ByteArray.empty, .bool false]], []⟩).memory :=
  laidMet_of_run' 8 (by kernel_rfl) (by kernel_rfl)
theorem reads (os : Os) {H : Type} (enc : TypeId × Value → H) : ∃ places, DataW.whole enc Tryd.prog ((World.doorLaid Tryd.prog 24 os).forCall (fun _ _ => 0) ⟨#[], #[.agg #[.int .i64 0, .int .i64 0, .int .u32 0, .string ByteArray.empty, .string ByteArray.empty, .bool false], .agg #[.int .i64 0, .int .i64 0, .int .u32 0, .string ByteArray.empty, .string ByteArray.empty, .bool false]], []⟩).memory Tryd.f3.params.toList Rows.cmdTellsSpec.vars false (#[.agg #[.int .i64 0, .int .i64 0, .int .u32 0, .string ByteArray.empty, .string ByteArray.empty, .bool false], .agg #[.int .i64 0, .int .i64 0, .int .u32 0, .string ByteArray.empty, .string ByteArray.empty, .bool false]] : Array Value).toList 8 = some ([.agg [.agg [.lit (.int .i64 0), .lit (.int .i64 0), .lit (.int .u32 0), .lit (.string []), .lit (.string [])], .lit (.bool false)], .agg [.agg [.lit (.int .i64 0), .lit (.int .i64 0), .lit (.int .u32 0), .lit (.string []), .lit (.string [])], .lit (.bool false)]], [], places) :=
  ⟨[], by kernel_rfl⟩

set_option maxRecDepth 100000 in
theorem lifted (os : Os) (started : os.Started) (H : Type) (enc : TypeId × Value → H) (F : Stop.Interp) :
    ReturnsInHanded {} Tryd.checked os 3 .any ((OpenSpec.ofChange Rows.cmdTellsSpec).preRow enc Tryd.prog Tryd.f3 Rows.cmdTellsRow.domain false Rows.cmdTellsRow.laid) (((OpenSpec.ofChange Rows.cmdTellsSpec).at F).post enc Tryd.prog Tryd.f3 false true false false) := by
  obtain ⟨places, hx⟩ := reads os enc
  refine returnsInHanded_of_row (C := Tryd.checked) (s := OpenSpec.ofChange Rows.cmdTellsSpec) own started (by kernel_rfl) Tryd.func3
    (witness_row_at (enc := enc) (C := Tryd.checked) false (World.doorLaid Tryd.prog 24 os) #[.agg #[.int .i64 0, .int .i64 0, .int .u32 0, .string ByteArray.empty, .string ByteArray.empty, .bool false], .agg #[.int .i64 0, .int .i64 0, .int .u32 0, .string ByteArray.empty, .string ByteArray.empty, .bool false]] rfl (by kernel_rfl) (by kernel_rfl) (by kernel_rfl)
      (OpenSpec.preRow_of_cond 8 hx (by kernel_rfl) (fun k hk => by cases hk) (by kernel_rfl) (laid_met os))) ?_
  intro W base args ds gs before hval0 hW _ _ hsz0 hL _ _
  have hval : ∀ (j : Nat) t v, Tryd.f3.params[j]? = some t → args[j]? = some v → Value.okWide Tryd.prog W .any base t v := hval0
  have hsz : (DataW.weightsEach Tryd.prog (Tryd.f3.params.toList ++ Rows.cmdTellsSpec.plain.varTypes Tryd.prog) (ds ++ gs)).all (· ≤ reachBytes) = true := hsz0
  have hW' := hW
  obtain ⟨p, q, hA0, hV, rfl, hfz, hnd⟩ := hW
  have hA : DataW.TrodAll enc Tryd.prog W 0 (fun _ => true) true Tryd.f3.params.toList args.toList ds p := hA0
  rw [Tryd.params3] at hA hval hsz
  obtain ⟨v0, vs0, d0, ds0, p0, q0, hargs, rfl, rfl, h0, r0⟩ := trodAll_cons hA
  obtain ⟨v1, vs1, d1, ds1, p1, q1, rfl, rfl, rfl, h1, r1⟩ := trodAll_cons r0
  obtain ⟨rfl, rfl, rfl⟩ := trodAll_nil r1
  obtain rfl : args = #[v0, v1] := by cases args; simp_all
  obtain ⟨rfl, rfl⟩ := trodVars_none hV
  have k0 := h0
  have lt0 : ∀ x ∈ p0, x.block < W.heap.size := by obtain ⟨m, hm⟩ := k0; exact DataW.trod_lt m _ _ _ hm
  have k1 := h1
  have lt1 : ∀ x ∈ p1, x.block < W.heap.size := by obtain ⟨m, hm⟩ := k1; exact DataW.trod_lt m _ _ _ hm
  obtain ⟨c0_0, c0_1, c0_2, c0_3, c0_4, c0_5, y0_0, y0_1, y0_2, y0_3, y0_4, y0_5, n0, m0, rfl, rfl, g0_0, g0_1, g0_2, g0_3, g0_4, g0_5⟩ := Rw.open_nest5 Tryd.underlying26 Tryd.underlying24 rfl rfl (by kernel_rfl) (by kernel_rfl) (by kernel_rfl) (by kernel_rfl) (hval 0 26 v0 rfl rfl) h0
  obtain ⟨a0_0, e0_0, rfl, w0_0⟩ := DataW.trod_int Tryd.underlying3 g0_0
  obtain rfl : c0_0 = .int .i64 a0_0 := by simpa using e0_0
  obtain ⟨a0_1, e0_1, rfl, w0_1⟩ := DataW.trod_int Tryd.underlying3 g0_1
  obtain rfl : c0_1 = .int .i64 a0_1 := by simpa using e0_1
  obtain ⟨a0_2, e0_2, rfl, w0_2⟩ := DataW.trod_int Tryd.underlying22 g0_2
  obtain rfl : c0_2 = .int .u32 a0_2 := by simpa using e0_2
  obtain ⟨a0_3, e0_3, rfl, w0_3⟩ := DataW.trod_string Tryd.underlying9 g0_3
  obtain rfl : c0_3 = .string a0_3 := by simpa using e0_3
  obtain ⟨a0_4, e0_4, rfl, w0_4⟩ := DataW.trod_string Tryd.underlying9 g0_4
  obtain rfl : c0_4 = .string a0_4 := by simpa using e0_4
  obtain ⟨a0_5, e0_5, rfl⟩ := DataW.trod_bool Tryd.underlying4 g0_5
  obtain rfl : c0_5 = .bool a0_5 := by simpa using e0_5
  obtain ⟨c1_0, c1_1, c1_2, c1_3, c1_4, c1_5, y1_0, y1_1, y1_2, y1_3, y1_4, y1_5, n1, m1, rfl, rfl, g1_0, g1_1, g1_2, g1_3, g1_4, g1_5⟩ := Rw.open_nest5 Tryd.underlying26 Tryd.underlying24 rfl rfl (by kernel_rfl) (by kernel_rfl) (by kernel_rfl) (by kernel_rfl) (hval 1 26 v1 rfl rfl) h1
  obtain ⟨a1_0, e1_0, rfl, w1_0⟩ := DataW.trod_int Tryd.underlying3 g1_0
  obtain rfl : c1_0 = .int .i64 a1_0 := by simpa using e1_0
  obtain ⟨a1_1, e1_1, rfl, w1_1⟩ := DataW.trod_int Tryd.underlying3 g1_1
  obtain rfl : c1_1 = .int .i64 a1_1 := by simpa using e1_1
  obtain ⟨a1_2, e1_2, rfl, w1_2⟩ := DataW.trod_int Tryd.underlying22 g1_2
  obtain rfl : c1_2 = .int .u32 a1_2 := by simpa using e1_2
  obtain ⟨a1_3, e1_3, rfl, w1_3⟩ := DataW.trod_string Tryd.underlying9 g1_3
  obtain rfl : c1_3 = .string a1_3 := by simpa using e1_3
  obtain ⟨a1_4, e1_4, rfl, w1_4⟩ := DataW.trod_string Tryd.underlying9 g1_4
  obtain rfl : c1_4 = .string a1_4 := by simpa using e1_4
  obtain ⟨a1_5, e1_5, rfl⟩ := DataW.trod_bool Tryd.underlying4 g1_5
  obtain rfl : c1_5 = .bool a1_5 := by simpa using e1_5
  clear hA0 hval0
  have z0_3 : a0_3.size ≤ 140737488351232 := by
    have := List.all_eq_true.1 hsz _ (DataW.weights_mem_each (j := 0) (t := 26) rfl rfl a0_3.data.toList.length (by simp [DataW.weights, Tryd.underlying26, Tryd.underlying24, DataW.weightsEach]))
    simpa [reachBytes] using of_decide_eq_true this
  have z0_4 : a0_4.size ≤ 140737488351232 := by
    have := List.all_eq_true.1 hsz _ (DataW.weights_mem_each (j := 0) (t := 26) rfl rfl a0_4.data.toList.length (by simp [DataW.weights, Tryd.underlying26, Tryd.underlying24, DataW.weightsEach]))
    simpa [reachBytes] using of_decide_eq_true this
  have z1_3 : a1_3.size ≤ 140737488351232 := by
    have := List.all_eq_true.1 hsz _ (DataW.weights_mem_each (j := 1) (t := 26) rfl rfl a1_3.data.toList.length (by simp [DataW.weights, Tryd.underlying26, Tryd.underlying24, DataW.weightsEach]))
    simpa [reachBytes] using of_decide_eq_true this
  have z1_4 : a1_4.size ≤ 140737488351232 := by
    have := List.all_eq_true.1 hsz _ (DataW.weights_mem_each (j := 1) (t := 26) rfl rfl a1_4.data.toList.length (by simp [DataW.weights, Tryd.underlying26, Tryd.underlying24, DataW.weightsEach]))
    simpa [reachBytes] using of_decide_eq_true this
  refine (walk a0_0 a0_1 a0_2 a0_3 a0_4 a0_5 a1_0 a1_1 a1_2 a1_3 a1_4 a1_5 W w0_0 w0_1 w0_2 z0_3 z0_4 w1_0 w1_1 w1_2 z1_3 z1_4 (Bl.tab_of hL)).mono fun e W' ⟨he, bel⟩ => ?_
  subst he
  exact ⟨_, rfl, _, _, _, [], _, [], hW', trodAll_mk1 (shut_bool Tryd.underlying4 _), (trodAll_cons_mk (Below.trod laidOut (by kernel_rfl) (of_decide_eq_true (by kernel_rfl)) k0 bel lt0) (trodAll_cons_mk (Below.trod laidOut (by kernel_rfl) (of_decide_eq_true (by kernel_rfl)) k1 bel lt1) trodAll_mk0)), rfl, bel.frame _, fun h => by cases h⟩

theorem over : Rows.cmdTellsRow.holds Tryd.pinned (OpenSpec.ofChange Rows.cmdTellsSpec) :=
  OpenClaim.holds_of_cond 3 Tryd.f3 rfl rfl rfl rfl rfl rfl rfl ⟨rfl, rfl, rfl, rfl, rfl⟩ rfl rfl rfl rfl rfl (by kernel_rfl) Tryd.func3 (by kernel_rfl)
    (of_decide_eq_true (by kernel_rfl)) (by unfold Func.isWrapper; first | (rw [if_pos (by decide +kernel)]; kernel_rfl) | (rw [if_neg (by decide +kernel)]; exact ⟨rfl, rfl⟩))
    (fun os started H enc _ F => by rw [OpenClaim.pre_eq_preRow]; exact lifted os started H enc F)

/-- No parameter wants a stand-in. -/
theorem plain (f : FuncId) (fn : Func) (hf : Tryd.pinned.checked.prog.funcNamed "comitia/comitialaw07.CmdTells" = some f) (hfn : Tryd.pinned.checked.prog.funcs[f]? = some fn) :
    false = Tryd.pinned.checked.prog.looks [] ∧ ∀ (j : Nat) t, fn.params[j]? = some t → Tryd.pinned.checked.prog.wantsStandIn t = false := by
  obtain rfl : f = 3 := Option.some.inj ((show Tryd.prog.funcNamed "comitia/comitialaw07.CmdTells" = some 3 by kernel_rfl).symm.trans hf) |>.symm
  obtain rfl : fn = Tryd.f3 := (Option.some.inj (Tryd.func3.symm.trans hfn)).symm
  refine ⟨by kernel_rfl, fun j t ht => ?_⟩
  rw [Tryd.params3] at ht
  have hm : t ∈ [26, 26] := by simpa using Array.mem_of_getElem? ht
  have hall : ([26, 26].all fun u => !Tryd.prog.wantsStandIn u) = true := by kernel_rfl
  exact (show Tryd.prog.wantsStandIn t = false by simpa using List.all_eq_true.1 hall t hm)

theorem proved : Rows.CmdTellsCardSaid :=
  Claim7.holds_tied_plain_at .later [] _ _ _ _ over (fun _ h => by cases h) (by kernel_rfl) (fun _ h => by cases h) cmdTells_row_tie rfl ⟨rfl, rfl⟩ (by kernel_rfl) rfl plain (by kernel_rfl)
end Go.Proofs.YtolgboedinbpeaaDoor.cmdTells
