/-
  Proved: for every wish, text, two bools, int and byte the law CmdReads returns true and leaves its inputs as they were; the card ties the three tables of the library that the row lists to the text of the program. No condition beyond the form itself (each text at most 2^47 - 4096 bytes; the listed tables start as that text lays them).
-/
import Derived.Test.YtolgboedinbpeaaDoorCmdL
import Derived.Test.YtolgboedinbpeaaDoorTab
import Derived.Deep.RegionHeld3
import Derived.Test.YtolgboedinbpeaaDoorCards
import Derived.Test.YtolgboedinbpeaaDoorTie
import Derived.Deep.DeepHandedRow
import Derived.LaidMore
import Derived.SevenTiedAt
import Derived.WalkKit
import Derived.ProofKit
import Derived.OpenShut
import Derived.ShutString
import Derived.SizedLaws
import Derived.ChangeOld
import Derived.Below
import Derived.Carry
import Derived.Lib.SmallJoins
import Derived.Deep.SlicePairs
import Derived.SliceStrings
namespace Go.Proofs.YtolgboedinbpeaaDoor.cmdReads
open Go.ChangeShapes Go.WideShapes Go.ChangeAt Go.RowKit Go.Joins Go.Deep
open Go.ChangeMaps (open_string shut_string)
set_option linter.unusedVariables false

theorem own : ownKnob Tryd.prog.godebug = none := by kernel_rfl
theorem laidOut : laidOutB Tryd.prog = true := by kernel_rfl

set_option maxRecDepth 100000 in
set_option maxHeartbeats 4000000 in
theorem walk (a0_0 : Int) (a0_1 : Int) (a0_2 : Int) (a0_3 : ByteArray) (a0_4 : ByteArray) (a0_5 : Bool) (a1 : ByteArray) (a2 : Bool) (a3 : Int) (a4 : Int) (a5 : Bool) (w : World) (w0_0 : (Lit.int .i64 a0_0).wf = true) (w0_1 : (Lit.int .i64 a0_1).wf = true) (w0_2 : (Lit.int .u32 a0_2).wf = true) (z0_3 : a0_3.size ≤ 140737488351232) (z0_4 : a0_4.size ≤ 140737488351232) (z1 : a1.size ≤ 140737488351232) (w3 : (Lit.int .i64 a3).wf = true) (w4 : (Lit.int .u8 a4).wf = true) (ht : Bl.Tab w) :
    Calls Tryd.prog 4 #[.agg #[.int .i64 a0_0, .int .i64 a0_1, .int .u32 a0_2, .string a0_3, .string a0_4, .bool a0_5], .string a1, .bool a2, .int .i64 a3, .int .u8 a4, .bool a5] w fun e w' => e = .returned (.bool true) ∧ Below w.heap.size w w' := by
  have qs0 : 0 ≤ a0_2 ∧ a0_2 ≤ 4294967295 := by simpa [Lit.wf, IntKind.min, IntKind.max, IntKind.signed, IntKind.bits] using w0_2
  have qc0 : -9223372036854775808 ≤ a0_1 ∧ a0_1 ≤ 9223372036854775807 := by simpa [Lit.wf, IntKind.min, IntKind.max, IntKind.signed, IntKind.bits] using w0_1
  obtain ⟨qa0, qb0⟩ := qs0
  obtain ⟨p1, d1, t1, l1, u1, W1⟩ : ∃ p d t l u, Hid (Cm.wishA a0_0 a0_1 a0_2 a0_3 a0_4 a0_5 = (p, d, t, l, u)) := ⟨_, _, _, _, _, Lib.hid rfl⟩
  obtain ⟨zs1, zt1, zd1, ze1, zl1, zu1⟩ := Cm.wishA_bd _ _ _ _ _ _ _ _ _ _ _ W1.out qa0 qb0 qc0.1 qc0.2 z0_3 z0_4
  have q3 : -9223372036854775808 ≤ a3 ∧ a3 ≤ 9223372036854775807 := by simpa [Lit.wf, IntKind.min, IntKind.max, IntKind.signed, IntKind.bits] using w3
  have q4 : 0 ≤ a4 ∧ a4 ≤ 255 := by simpa [Lit.wf, IntKind.min, IntKind.max, IntKind.signed, IntKind.bits] using w4
  obtain ⟨cb, rfl⟩ : ∃ n : Nat, a4 = (n : Int) := ⟨a4.toNat, by omega⟩
  have hcb : cb < 256 := by omega
  obtain ⟨y1, ok, hy1⟩ : ∃ x b, Cm.bytesC p1 d1 t1 l1 u1 = (x, b) := ⟨_, _, rfl⟩
  have hs1 := Cm.bytes_short hy1
  have Y1 := Lib.hid hy1
  have hsz : (y1 ++ a1).size ≤ 281474976710656 := by rw [Pk.cat_size]; omega
  have HSZ := Lib.hid hsz
  have hza : a1.size ≤ 281474976710656 := by omega
  have HZA := Lib.hid hza
  have hsum : ¬ 9223372036854775807 < y1.size + a1.size := by omega
  have Q3 := Lib.hid q3
  clear w0_0 w0_1 w0_2 w3 w4 qc0 hy1 hs1 hsz hza q3 q4
  cases a2
  · obtain ⟨o3, c3, e3, k3, v3, r3, b3, RB⟩ : ∃ o c e k v r b, Hid (Cm.readC a1 a5 = (o, c, e, k, v, r, b)) := ⟨_, _, _, _, _, _, _, Lib.hid rfl⟩
    have hq1 : ∀ W, (binOp .eql 32 (.agg #[.int .i64 o3, .int .i64 c3, .int .u32 e3, .string k3, .string v3]) (.agg #[.int .i64 o3, .int .i64 c3, .int .u32 e3, .string k3, .string v3])).run Tryd.prog W = Result.ok (Value.bool true) W := by
      intro W
      rw [Cm.run_eql 32 (.inr rfl)]; simp
    go_enter Tryd.func4, Tryd.ntmps4
    go_wp2_with fail
    have bel' : Below w.heap.size w (w.alloc (.cells #[.int .i64 a0_0, .int .i64 a0_1, .int .u32 a0_2, .string a0_3, .string a0_4, .bool a0_5] 26)) := Rw.below_then ((Below.refl _ _)) (Rw.below_1 _ _) (Nat.le_refl _)
    have k2 := Rw.Row.newAt (w) [.int .i64 a0_0, .int .i64 a0_1, .int .u32 a0_2, .string a0_3, .string a0_4, .bool a0_5] (26) (w.heap.size) (by simp)
    have ht' : Bl.Tab (w.alloc (.cells #[.int .i64 a0_0, .int .i64 a0_1, .int .u32 a0_2, .string a0_3, .string a0_4, .bool a0_5] 26)) := Bl.Tab.over (ht) (Rw.below_1 _ _)
    clear ht
    have ht := ht'; clear ht'
    have bel := bel'; clear bel'
    refine (Cm.examples_any _ ht).mono ?_
    rintro e x2 ⟨rfl, hb⟩
    have belb := Rw.below_then bel hb bel.size; clear bel
    have k2b := k2.over hb; clear k2
    have htb := Bl.Tab.over ht hb; clear ht
    clear hb
    have k2 := k2b; clear k2b
    have ht := htb; clear htb
    have bel := belb; clear belb
    go_wp2_with fail
    clear ht
    clear k2
    refine (Cm.read_any a1 a5 o3 c3 e3 k3 v3 r3 b3 RB.out HZA.out _).mono ?_
    rintro e x3 ⟨rfl, hb⟩
    have belb := Rw.below_then bel hb bel.size; clear bel
    clear hb
    have bel := belb; clear belb
    have bel' : Below w.heap.size w ((x3.alloc (.cells #[.int .i64 o3, .int .i64 c3, .int .u32 e3, .string k3, .string v3] 24)).alloc (.cells #[.string r3, .bool b3] 43)) := Rw.below_then (bel) (Rw.below_2 _ _ _) bel.size
    have k16 := (Rw.Row.newAt (x3) [.int .i64 o3, .int .i64 c3, .int .u32 e3, .string k3, .string v3] (24) (x3.heap.size) (by simp)).alloc (.cells #[.string r3, .bool b3] 43)
    have k17 := Rw.Row.newAt (x3.alloc (.cells #[.int .i64 o3, .int .i64 c3, .int .u32 e3, .string k3, .string v3] 24)) [.string r3, .bool b3] (43) (x3.heap.size + 1) (by simp)
    clear bel
    have bel := bel'; clear bel'
    go_wp2_with fail
    generalize (x3.alloc (.cells #[.int .i64 o3, .int .i64 c3, .int .u32 e3, .string k3, .string v3] 24)).alloc (.cells #[.string r3, .bool b3] 43) = X3 at *
    generalize x3.heap.size = g3 at *
    refine (Cm.refread_any a1 a5 o3 c3 e3 k3 v3 r3 b3 RB.out HZA.out _).mono ?_
    rintro e x4 ⟨rfl, hb⟩
    have belb := Rw.below_then bel hb bel.size; clear bel
    have k16b := k16.over hb; clear k16
    have k17b := k17.over hb; clear k17
    clear hb
    have k16 := k16b; clear k16b
    have k17 := k17b; clear k17b
    have bel := belb; clear belb
    have bel' : Below w.heap.size w ((x4.alloc (.cells #[.int .i64 o3, .int .i64 c3, .int .u32 e3, .string k3, .string v3] 32)).alloc (.cells #[.string r3, .bool b3] 46)) := Rw.below_then (bel) (Rw.below_2 _ _ _) bel.size
    have k16' := ((k16).alloc (.cells #[.int .i64 o3, .int .i64 c3, .int .u32 e3, .string k3, .string v3] 32)).alloc (.cells #[.string r3, .bool b3] 46)
    have k17' := ((k17).alloc (.cells #[.int .i64 o3, .int .i64 c3, .int .u32 e3, .string k3, .string v3] 32)).alloc (.cells #[.string r3, .bool b3] 46)
    have k18 := (Rw.Row.newAt (x4) [.int .i64 o3, .int .i64 c3, .int .u32 e3, .string k3, .string v3] (32) (x4.heap.size) (by simp)).alloc (.cells #[.string r3, .bool b3] 46)
    have k19 := Rw.Row.newAt (x4.alloc (.cells #[.int .i64 o3, .int .i64 c3, .int .u32 e3, .string k3, .string v3] 32)) [.string r3, .bool b3] (46) (x4.heap.size + 1) (by simp)
    clear bel k16 k17
    have k16 := k16'; clear k16'
    have k17 := k17'; clear k17'
    have bel := bel'; clear bel'
    go_wp2
    generalize (x4.alloc (.cells #[.int .i64 o3, .int .i64 c3, .int .u32 e3, .string k3, .string v3] 32)).alloc (.cells #[.string r3, .bool b3] 46) = X4 at *
    generalize x4.heap.size = g4 at *
    have hd0 : Rw.Rows w w.heap.size [(g3, [.int .i64 o3, .int .i64 c3, .int .u32 e3, .string k3, .string v3]), (g3 + 1, [.string r3, .bool b3]), (g4, [.int .i64 o3, .int .i64 c3, .int .u32 e3, .string k3, .string v3]), (g4 + 1, [.string r3, .bool b3])] X4.drew := ⟨bel.drew, bel.size, by simp only [List.forall_mem_cons, List.not_mem_nil, false_imp_iff, implies_true, and_true]; exact ⟨k16.drew, k17.drew, k18.drew, k19.drew⟩⟩
    have HC := Lib.hid (show ∀ w', Rw.Rows w w.heap.size [(g3, [.int .i64 o3, .int .i64 c3, .int .u32 e3, .string k3, .string v3]), (g3 + 1, [.string r3, .bool b3]), (g4, [.int .i64 o3, .int .i64 c3, .int .u32 e3, .string k3, .string v3]), (g4 + 1, [.string r3, .bool b3])] w' → (w'.cell? ⟨g3, 0, none⟩ = some (.int .i64 o3) ∧ w'.cell? ⟨g3, 1, none⟩ = some (.int .i64 c3) ∧ w'.cell? ⟨g3, 2, none⟩ = some (.int .u32 e3) ∧ w'.cell? ⟨g3, 3, none⟩ = some (.string k3) ∧ w'.cell? ⟨g3, 4, none⟩ = some (.string v3) ∧ w'.cell? ⟨g3 + 1, 0, none⟩ = some (.string r3) ∧ w'.cell? ⟨g3 + 1, 1, none⟩ = some (.bool b3) ∧ w'.cell? ⟨g4, 0, none⟩ = some (.int .i64 o3) ∧ w'.cell? ⟨g4, 1, none⟩ = some (.int .i64 c3) ∧ w'.cell? ⟨g4, 2, none⟩ = some (.int .u32 e3) ∧ w'.cell? ⟨g4, 3, none⟩ = some (.string k3) ∧ w'.cell? ⟨g4, 4, none⟩ = some (.string v3) ∧ w'.cell? ⟨g4 + 1, 0, none⟩ = some (.string r3) ∧ w'.cell? ⟨g4 + 1, 1, none⟩ = some (.bool b3)) from fun w' h => ⟨((h.2.2 _ (.head _)).2 0 _ rfl).1, ((h.2.2 _ (.head _)).2 1 _ rfl).1, ((h.2.2 _ (.head _)).2 2 _ rfl).1, ((h.2.2 _ (.head _)).2 3 _ rfl).1, ((h.2.2 _ (.head _)).2 4 _ rfl).1, ((h.2.2 _ (.tail _ (.head _))).2 0 _ rfl).1, ((h.2.2 _ (.tail _ (.head _))).2 1 _ rfl).1, ((h.2.2 _ (.tail _ (.tail _ (.head _)))).2 0 _ rfl).1, ((h.2.2 _ (.tail _ (.tail _ (.head _)))).2 1 _ rfl).1, ((h.2.2 _ (.tail _ (.tail _ (.head _)))).2 2 _ rfl).1, ((h.2.2 _ (.tail _ (.tail _ (.head _)))).2 3 _ rfl).1, ((h.2.2 _ (.tail _ (.tail _ (.head _)))).2 4 _ rfl).1, ((h.2.2 _ (.tail _ (.tail _ (.tail _ (.head _))))).2 0 _ rfl).1, ((h.2.2 _ (.tail _ (.tail _ (.tail _ (.head _))))).2 1 _ rfl).1⟩)
    clear bel k16 k17 k18 k19
    go_region_held3 (fun w' => w'.cell? ⟨g3, 0, none⟩ = some (.int .i64 o3) ∧ w'.cell? ⟨g3, 1, none⟩ = some (.int .i64 c3) ∧ w'.cell? ⟨g3, 2, none⟩ = some (.int .u32 e3) ∧ w'.cell? ⟨g3, 3, none⟩ = some (.string k3) ∧ w'.cell? ⟨g3, 4, none⟩ = some (.string v3) ∧ w'.cell? ⟨g3 + 1, 0, none⟩ = some (.string r3) ∧ w'.cell? ⟨g3 + 1, 1, none⟩ = some (.bool b3) ∧ w'.cell? ⟨g4, 0, none⟩ = some (.int .i64 o3) ∧ w'.cell? ⟨g4, 1, none⟩ = some (.int .i64 c3) ∧ w'.cell? ⟨g4, 2, none⟩ = some (.int .u32 e3) ∧ w'.cell? ⟨g4, 3, none⟩ = some (.string k3) ∧ w'.cell? ⟨g4, 4, none⟩ = some (.string v3) ∧ w'.cell? ⟨g4 + 1, 0, none⟩ = some (.string r3) ∧ w'.cell? ⟨g4 + 1, 1, none⟩ = some (.bool b3)) (exact HC.out _ (by assumption)) ((go_at_call 13; refine (Cm.refcmd_any _ _ _ _ _ _).mono ?_; rintro e w3 ⟨rfl, hb3⟩; have hp3 := Rw.Rows.keep hb3 (by assumption)))
    go_wp2
    go_ret
    exact ⟨rfl, hp3.1⟩
  · go_enter Tryd.func4, Tryd.ntmps4
    go_wp2_with fail
    have bel' : Below w.heap.size w (w.alloc (.cells #[.int .i64 a0_0, .int .i64 a0_1, .int .u32 a0_2, .string a0_3, .string a0_4, .bool a0_5] 26)) := Rw.below_then ((Below.refl _ _)) (Rw.below_1 _ _) (Nat.le_refl _)
    have k2 := Rw.Row.newAt (w) [.int .i64 a0_0, .int .i64 a0_1, .int .u32 a0_2, .string a0_3, .string a0_4, .bool a0_5] (26) (w.heap.size) (by simp)
    have ht' : Bl.Tab (w.alloc (.cells #[.int .i64 a0_0, .int .i64 a0_1, .int .u32 a0_2, .string a0_3, .string a0_4, .bool a0_5] 26)) := Bl.Tab.over (ht) (Rw.below_1 _ _)
    clear ht
    have ht := ht'; clear ht'
    have bel := bel'; clear bel'
    refine (Cm.examples_any _ ht).mono ?_
    rintro e x2 ⟨rfl, hb⟩
    have belb := Rw.below_then bel hb bel.size; clear bel
    have k2b := k2.over hb; clear k2
    have htb := Bl.Tab.over ht hb; clear ht
    clear hb
    have k2 := k2b; clear k2b
    have ht := htb; clear htb
    have bel := belb; clear belb
    have ⟨k2_0, k2_0f⟩ := k2.2 0 _ rfl
    have ⟨k2_1, k2_1f⟩ := k2.2 1 _ rfl
    have ⟨k2_2, k2_2f⟩ := k2.2 2 _ rfl
    have ⟨k2_3, k2_3f⟩ := k2.2 3 _ rfl
    have ⟨k2_4, k2_4f⟩ := k2.2 4 _ rfl
    have ⟨k2_5, k2_5f⟩ := k2.2 5 _ rfl
    have k2_lt := k2.1
    go_wp2_with fail
    clear ht
    refine (Cm.wish_any a0_0 a0_1 a0_2 a0_3 a0_4 a0_5 p1 d1 t1 l1 u1 W1.out qa0 qb0 _).mono ?_
    rintro e x3 ⟨rfl, hb⟩
    have belb := Rw.below_then bel hb bel.size; clear bel
    clear k2_0 k2_0f k2_1 k2_1f k2_2 k2_2f k2_3 k2_3f k2_4 k2_4f k2_5 k2_5f k2_lt
    have k2b := k2.over hb; clear k2
    clear hb
    have k2 := k2b; clear k2b
    have bel := belb; clear belb
    go_wp2_with fail
    clear k2
    refine (Cm.refcmd_any p1 d1 t1 l1 u1 _).mono ?_
    rintro e x4 ⟨rfl, hb⟩
    have belb := Rw.below_then bel hb bel.size; clear bel
    clear hb
    have bel := belb; clear belb
    go_wp2_with fail
    refine (Cm.refbytes_any p1 d1 t1 l1 u1 y1 ok Y1.out zs1 zt1 _).mono ?_
    rintro e x5 ⟨rfl, hb⟩
    have belb := Rw.below_then bel hb bel.size; clear bel
    clear hb
    have bel := belb; clear belb
    go_wp2_with fail
    refine (Cm.bend_any (y1 ++ a1) a3 cb hcb Q3.out HSZ.out _).mono ?_
    rintro e x6 ⟨y, rfl, hys, hb⟩
    have belb := Rw.below_then bel hb bel.size; clear bel
    clear hb
    have bel := belb; clear belb
    have HY : Hid (y.size ≤ 281474976710656) := Lib.hid (by rw [hys]; exact HSZ.out)
    clear hys
    obtain ⟨o3, c3, e3, k3, v3, r3, b3, RB⟩ : ∃ o c e k v r b, Hid (Cm.readC y a5 = (o, c, e, k, v, r, b)) := ⟨_, _, _, _, _, _, _, Lib.hid rfl⟩
    have hq1 : ∀ W, (binOp .eql 32 (.agg #[.int .i64 o3, .int .i64 c3, .int .u32 e3, .string k3, .string v3]) (.agg #[.int .i64 o3, .int .i64 c3, .int .u32 e3, .string k3, .string v3])).run Tryd.prog W = Result.ok (Value.bool true) W := by
      intro W
      rw [Cm.run_eql 32 (.inr rfl)]; simp
    go_wp2_with fail
    refine (Cm.read_any y a5 o3 c3 e3 k3 v3 r3 b3 RB.out HY.out _).mono ?_
    rintro e x7 ⟨rfl, hb⟩
    have belb := Rw.below_then bel hb bel.size; clear bel
    clear hb
    have bel := belb; clear belb
    have bel' : Below w.heap.size w ((x7.alloc (.cells #[.int .i64 o3, .int .i64 c3, .int .u32 e3, .string k3, .string v3] 24)).alloc (.cells #[.string r3, .bool b3] 43)) := Rw.below_then (bel) (Rw.below_2 _ _ _) bel.size
    have k16 := (Rw.Row.newAt (x7) [.int .i64 o3, .int .i64 c3, .int .u32 e3, .string k3, .string v3] (24) (x7.heap.size) (by simp)).alloc (.cells #[.string r3, .bool b3] 43)
    have k17 := Rw.Row.newAt (x7.alloc (.cells #[.int .i64 o3, .int .i64 c3, .int .u32 e3, .string k3, .string v3] 24)) [.string r3, .bool b3] (43) (x7.heap.size + 1) (by simp)
    clear bel
    have bel := bel'; clear bel'
    go_wp2_with fail
    generalize (x7.alloc (.cells #[.int .i64 o3, .int .i64 c3, .int .u32 e3, .string k3, .string v3] 24)).alloc (.cells #[.string r3, .bool b3] 43) = X7 at *
    generalize x7.heap.size = g7 at *
    refine (Cm.refread_any y a5 o3 c3 e3 k3 v3 r3 b3 RB.out HY.out _).mono ?_
    rintro e x8 ⟨rfl, hb⟩
    have belb := Rw.below_then bel hb bel.size; clear bel
    have k16b := k16.over hb; clear k16
    have k17b := k17.over hb; clear k17
    clear hb
    have k16 := k16b; clear k16b
    have k17 := k17b; clear k17b
    have bel := belb; clear belb
    have bel' : Below w.heap.size w ((x8.alloc (.cells #[.int .i64 o3, .int .i64 c3, .int .u32 e3, .string k3, .string v3] 32)).alloc (.cells #[.string r3, .bool b3] 46)) := Rw.below_then (bel) (Rw.below_2 _ _ _) bel.size
    have k16' := ((k16).alloc (.cells #[.int .i64 o3, .int .i64 c3, .int .u32 e3, .string k3, .string v3] 32)).alloc (.cells #[.string r3, .bool b3] 46)
    have k17' := ((k17).alloc (.cells #[.int .i64 o3, .int .i64 c3, .int .u32 e3, .string k3, .string v3] 32)).alloc (.cells #[.string r3, .bool b3] 46)
    have k18 := (Rw.Row.newAt (x8) [.int .i64 o3, .int .i64 c3, .int .u32 e3, .string k3, .string v3] (32) (x8.heap.size) (by simp)).alloc (.cells #[.string r3, .bool b3] 46)
    have k19 := Rw.Row.newAt (x8.alloc (.cells #[.int .i64 o3, .int .i64 c3, .int .u32 e3, .string k3, .string v3] 32)) [.string r3, .bool b3] (46) (x8.heap.size + 1) (by simp)
    clear bel k16 k17
    have k16 := k16'; clear k16'
    have k17 := k17'; clear k17'
    have bel := bel'; clear bel'
    go_wp2
    generalize (x8.alloc (.cells #[.int .i64 o3, .int .i64 c3, .int .u32 e3, .string k3, .string v3] 32)).alloc (.cells #[.string r3, .bool b3] 46) = X8 at *
    generalize x8.heap.size = g8 at *
    have hd0 : Rw.Rows w w.heap.size [(g7, [.int .i64 o3, .int .i64 c3, .int .u32 e3, .string k3, .string v3]), (g7 + 1, [.string r3, .bool b3]), (g8, [.int .i64 o3, .int .i64 c3, .int .u32 e3, .string k3, .string v3]), (g8 + 1, [.string r3, .bool b3])] X8.drew := ⟨bel.drew, bel.size, by simp only [List.forall_mem_cons, List.not_mem_nil, false_imp_iff, implies_true, and_true]; exact ⟨k16.drew, k17.drew, k18.drew, k19.drew⟩⟩
    have HC := Lib.hid (show ∀ w', Rw.Rows w w.heap.size [(g7, [.int .i64 o3, .int .i64 c3, .int .u32 e3, .string k3, .string v3]), (g7 + 1, [.string r3, .bool b3]), (g8, [.int .i64 o3, .int .i64 c3, .int .u32 e3, .string k3, .string v3]), (g8 + 1, [.string r3, .bool b3])] w' → (w'.cell? ⟨g7, 0, none⟩ = some (.int .i64 o3) ∧ w'.cell? ⟨g7, 1, none⟩ = some (.int .i64 c3) ∧ w'.cell? ⟨g7, 2, none⟩ = some (.int .u32 e3) ∧ w'.cell? ⟨g7, 3, none⟩ = some (.string k3) ∧ w'.cell? ⟨g7, 4, none⟩ = some (.string v3) ∧ w'.cell? ⟨g7 + 1, 0, none⟩ = some (.string r3) ∧ w'.cell? ⟨g7 + 1, 1, none⟩ = some (.bool b3) ∧ w'.cell? ⟨g8, 0, none⟩ = some (.int .i64 o3) ∧ w'.cell? ⟨g8, 1, none⟩ = some (.int .i64 c3) ∧ w'.cell? ⟨g8, 2, none⟩ = some (.int .u32 e3) ∧ w'.cell? ⟨g8, 3, none⟩ = some (.string k3) ∧ w'.cell? ⟨g8, 4, none⟩ = some (.string v3) ∧ w'.cell? ⟨g8 + 1, 0, none⟩ = some (.string r3) ∧ w'.cell? ⟨g8 + 1, 1, none⟩ = some (.bool b3)) from fun w' h => ⟨((h.2.2 _ (.head _)).2 0 _ rfl).1, ((h.2.2 _ (.head _)).2 1 _ rfl).1, ((h.2.2 _ (.head _)).2 2 _ rfl).1, ((h.2.2 _ (.head _)).2 3 _ rfl).1, ((h.2.2 _ (.head _)).2 4 _ rfl).1, ((h.2.2 _ (.tail _ (.head _))).2 0 _ rfl).1, ((h.2.2 _ (.tail _ (.head _))).2 1 _ rfl).1, ((h.2.2 _ (.tail _ (.tail _ (.head _)))).2 0 _ rfl).1, ((h.2.2 _ (.tail _ (.tail _ (.head _)))).2 1 _ rfl).1, ((h.2.2 _ (.tail _ (.tail _ (.head _)))).2 2 _ rfl).1, ((h.2.2 _ (.tail _ (.tail _ (.head _)))).2 3 _ rfl).1, ((h.2.2 _ (.tail _ (.tail _ (.head _)))).2 4 _ rfl).1, ((h.2.2 _ (.tail _ (.tail _ (.tail _ (.head _))))).2 0 _ rfl).1, ((h.2.2 _ (.tail _ (.tail _ (.tail _ (.head _))))).2 1 _ rfl).1⟩)
    clear bel k16 k17 k18 k19
    go_region_held3 (fun w' => w'.cell? ⟨g7, 0, none⟩ = some (.int .i64 o3) ∧ w'.cell? ⟨g7, 1, none⟩ = some (.int .i64 c3) ∧ w'.cell? ⟨g7, 2, none⟩ = some (.int .u32 e3) ∧ w'.cell? ⟨g7, 3, none⟩ = some (.string k3) ∧ w'.cell? ⟨g7, 4, none⟩ = some (.string v3) ∧ w'.cell? ⟨g7 + 1, 0, none⟩ = some (.string r3) ∧ w'.cell? ⟨g7 + 1, 1, none⟩ = some (.bool b3) ∧ w'.cell? ⟨g8, 0, none⟩ = some (.int .i64 o3) ∧ w'.cell? ⟨g8, 1, none⟩ = some (.int .i64 c3) ∧ w'.cell? ⟨g8, 2, none⟩ = some (.int .u32 e3) ∧ w'.cell? ⟨g8, 3, none⟩ = some (.string k3) ∧ w'.cell? ⟨g8, 4, none⟩ = some (.string v3) ∧ w'.cell? ⟨g8 + 1, 0, none⟩ = some (.string r3) ∧ w'.cell? ⟨g8 + 1, 1, none⟩ = some (.bool b3)) (exact HC.out _ (by assumption)) ((go_at_call 13; refine (Cm.refcmd_any _ _ _ _ _ _).mono ?_; rintro e w3 ⟨rfl, hb3⟩; have hp3 := Rw.Rows.keep hb3 (by assumption)))
    go_wp2
    go_ret
    exact ⟨rfl, hp3.1⟩

theorem laid_met (os : Os) : laidMet Tryd.prog Rows.cmdReadsRow.laid ((World.doorLaid Tryd.prog 24 os).forCall (fun _ _ => 0) ⟨#[], #[.agg #[.int .i64 0, .int .i64 0, .int .u32 0, .string ByteArray.empty, .string ByteArray.empty, .bool false], .string ByteArray.empty, .bool false, .int .i64 0, .int .u8 0, .bool false], []⟩).memory :=
  laidMet_of_run' 8 (by kernel_rfl) (by kernel_rfl)
theorem reads (os : Os) {H : Type} (enc : TypeId × Value → H) : ∃ places, DataW.whole enc Tryd.prog ((World.doorLaid Tryd.prog 24 os).forCall (fun _ _ => 0) ⟨#[], #[.agg #[.int .i64 0, .int .i64 0, .int .u32 0, .string ByteArray.empty, .string ByteArray.empty, .bool false], .string ByteArray.empty, .bool false, .int .i64 0, .int .u8 0, .bool false], []⟩).memory Tryd.f4.params.toList Rows.cmdReadsSpec.vars false (#[.agg #[.int .i64 0, .int .i64 0, .int .u32 0, .string ByteArray.empty, .string ByteArray.empty, .bool false], .string ByteArray.empty, .bool false, .int .i64 0, .int .u8 0, .bool false] : Array Value).toList 8 = some ([.agg [.agg [.lit (.int .i64 0), .lit (.int .i64 0), .lit (.int .u32 0), .lit (.string []), .lit (.string [])], .lit (.bool false)], .lit (.string []), .lit (.bool false), .lit (.int .i64 0), .lit (.int .u8 0), .lit (.bool false)], [], places) :=
  ⟨[], by kernel_rfl⟩

set_option maxRecDepth 100000 in
theorem lifted (os : Os) (started : os.Started) (H : Type) (enc : TypeId × Value → H) (F : Stop.Interp) :
    ReturnsInHanded {} Tryd.checked os 4 .any ((OpenSpec.ofChange Rows.cmdReadsSpec).preRow enc Tryd.prog Tryd.f4 Rows.cmdReadsRow.domain false Rows.cmdReadsRow.laid) (((OpenSpec.ofChange Rows.cmdReadsSpec).at F).post enc Tryd.prog Tryd.f4 false true false false) := by
  obtain ⟨places, hx⟩ := reads os enc
  refine returnsInHanded_of_row (C := Tryd.checked) (s := OpenSpec.ofChange Rows.cmdReadsSpec) own started (by kernel_rfl) Tryd.func4
    (witness_row_at (enc := enc) (C := Tryd.checked) false (World.doorLaid Tryd.prog 24 os) #[.agg #[.int .i64 0, .int .i64 0, .int .u32 0, .string ByteArray.empty, .string ByteArray.empty, .bool false], .string ByteArray.empty, .bool false, .int .i64 0, .int .u8 0, .bool false] rfl (by kernel_rfl) (by kernel_rfl) (by kernel_rfl)
      (OpenSpec.preRow_of_cond 8 hx (by kernel_rfl) (fun k hk => by cases hk) (by kernel_rfl) (laid_met os))) ?_
  intro W base args ds gs before hval0 hW _ _ hsz0 hL _ _
  have hval : ∀ (j : Nat) t v, Tryd.f4.params[j]? = some t → args[j]? = some v → Value.okWide Tryd.prog W .any base t v := hval0
  have hsz : (DataW.weightsEach Tryd.prog (Tryd.f4.params.toList ++ Rows.cmdReadsSpec.plain.varTypes Tryd.prog) (ds ++ gs)).all (· ≤ reachBytes) = true := hsz0
  have hW' := hW
  obtain ⟨p, q, hA0, hV, rfl, hfz, hnd⟩ := hW
  have hA : DataW.TrodAll enc Tryd.prog W 0 (fun _ => true) true Tryd.f4.params.toList args.toList ds p := hA0
  rw [Tryd.params4] at hA hval hsz
  obtain ⟨v0, vs0, d0, ds0, p0, q0, hargs, rfl, rfl, h0, r0⟩ := trodAll_cons hA
  obtain ⟨v1, vs1, d1, ds1, p1, q1, rfl, rfl, rfl, h1, r1⟩ := trodAll_cons r0
  obtain ⟨v2, vs2, d2, ds2, p2, q2, rfl, rfl, rfl, h2, r2⟩ := trodAll_cons r1
  obtain ⟨v3, vs3, d3, ds3, p3, q3, rfl, rfl, rfl, h3, r3⟩ := trodAll_cons r2
  obtain ⟨v4, vs4, d4, ds4, p4, q4, rfl, rfl, rfl, h4, r4⟩ := trodAll_cons r3
  obtain ⟨v5, vs5, d5, ds5, p5, q5, rfl, rfl, rfl, h5, r5⟩ := trodAll_cons r4
  obtain ⟨rfl, rfl, rfl⟩ := trodAll_nil r5
  obtain rfl : args = #[v0, v1, v2, v3, v4, v5] := by cases args; simp_all
  obtain ⟨rfl, rfl⟩ := trodVars_none hV
  have k0 := h0
  have lt0 : ∀ x ∈ p0, x.block < W.heap.size := by obtain ⟨m, hm⟩ := k0; exact DataW.trod_lt m _ _ _ hm
  obtain ⟨c0_0, c0_1, c0_2, c0_3, c0_4, c0_5, y0_0, y0_1, y0_2, y0_3, y0_4, y0_5, n0, m0, rfl, rfl, g0_0, g0_1, g0_2, g0_3, g0_4, g0_5⟩ := Rw.open_nest5 Tryd.underlying26 Tryd.underlying24 rfl rfl (by kernel_rfl) (by kernel_rfl) (by kernel_rfl) (by kernel_rfl) (hval 0 26 v0 rfl rfl) h0
  obtain ⟨a0_0, e0_0, rfl, w0_0⟩ := DataW.trod_int Tryd.underlying3 g0_0
  obtain rfl : c0_0 = .int .i64 a0_0 := by simpa using e0_0
  obtain ⟨a0_1, e0_1, rfl, w0_1⟩ := DataW.trod_int Tryd.underlying3 g0_1
  obtain rfl : c0_1 = .int .i64 a0_1 := by simpa using e0_1
  obtain ⟨a0_2, e0_2, rfl, w0_2⟩ := DataW.trod_int Tryd.underlying22 g0_2
  obtain rfl : c0_2 = .int .u32 a0_2 := by simpa using e0_2
  obtain ⟨a0_3, e0_3, rfl, w0_3⟩ := DataW.trod_string Tryd.underlying9 g0_3
  obtain rfl : c0_3 = .string a0_3 := by simpa using e0_3
  obtain ⟨a0_4, e0_4, rfl, w0_4⟩ := DataW.trod_string Tryd.underlying9 g0_4
  obtain rfl : c0_4 = .string a0_4 := by simpa using e0_4
  obtain ⟨a0_5, e0_5, rfl⟩ := DataW.trod_bool Tryd.underlying4 g0_5
  obtain rfl : c0_5 = .bool a0_5 := by simpa using e0_5
  obtain ⟨a1, rfl, rfl, rfl, w1⟩ := open_string Tryd.underlying9 (hval 1 9 v1 rfl rfl) h1
  obtain ⟨a2, rfl, rfl, rfl⟩ := open_bool Tryd.underlying4 (hval 2 4 v2 rfl rfl) h2
  obtain ⟨a3, rfl, rfl, rfl, w3⟩ := open_int Tryd.underlying3 (hval 3 3 v3 rfl rfl) h3
  obtain ⟨a4, rfl, rfl, rfl, w4⟩ := open_int Tryd.underlying5 (hval 4 5 v4 rfl rfl) h4
  obtain ⟨a5, rfl, rfl, rfl⟩ := open_bool Tryd.underlying4 (hval 5 4 v5 rfl rfl) h5
  clear hA0 hval0
  have z0_3 : a0_3.size ≤ 140737488351232 := by
    have := List.all_eq_true.1 hsz _ (DataW.weights_mem_each (j := 0) (t := 26) rfl rfl a0_3.data.toList.length (by simp [DataW.weights, Tryd.underlying26, Tryd.underlying24, DataW.weightsEach]))
    simpa [reachBytes] using of_decide_eq_true this
  have z0_4 : a0_4.size ≤ 140737488351232 := by
    have := List.all_eq_true.1 hsz _ (DataW.weights_mem_each (j := 0) (t := 26) rfl rfl a0_4.data.toList.length (by simp [DataW.weights, Tryd.underlying26, Tryd.underlying24, DataW.weightsEach]))
    simpa [reachBytes] using of_decide_eq_true this
  have z1 : a1.size ≤ 140737488351232 := by
    have := sized_string hsz (j := 1) (t := 9) rfl rfl
    simp only [Array.length_toList, reachBytes] at this
    exact this
  refine (walk a0_0 a0_1 a0_2 a0_3 a0_4 a0_5 a1 a2 a3 a4 a5 W w0_0 w0_1 w0_2 z0_3 z0_4 z1 w3 w4 (Bl.tab_of hL)).mono fun e W' ⟨he, bel⟩ => ?_
  subst he
  exact ⟨_, rfl, _, _, _, [], _, [], hW', trodAll_mk1 (shut_bool Tryd.underlying4 _), (trodAll_cons_mk (Below.trod laidOut (by kernel_rfl) (of_decide_eq_true (by kernel_rfl)) k0 bel lt0) (trodAll_cons_mk (shut_string Tryd.underlying9 w1) (trodAll_cons_mk (shut_bool Tryd.underlying4 _) (trodAll_cons_mk (shut_int Tryd.underlying3 w3) (trodAll_cons_mk (shut_int Tryd.underlying5 w4) (trodAll_cons_mk (shut_bool Tryd.underlying4 _) trodAll_mk0)))))), rfl, bel.frame _, fun h => by cases h⟩

theorem over : Rows.cmdReadsRow.holds Tryd.pinned (OpenSpec.ofChange Rows.cmdReadsSpec) :=
  OpenClaim.holds_of_cond 4 Tryd.f4 rfl rfl rfl rfl rfl rfl rfl ⟨rfl, rfl, rfl, rfl, rfl⟩ rfl rfl rfl rfl rfl (by kernel_rfl) Tryd.func4 (by kernel_rfl)
    (of_decide_eq_true (by kernel_rfl)) (by unfold Func.isWrapper; first | (rw [if_pos (by decide +kernel)]; kernel_rfl) | (rw [if_neg (by decide +kernel)]; exact ⟨rfl, rfl⟩))
    (fun os started H enc _ F => by rw [OpenClaim.pre_eq_preRow]; exact lifted os started H enc F)

/-- No parameter wants a stand-in. -/
theorem plain (f : FuncId) (fn : Func) (hf : Tryd.pinned.checked.prog.funcNamed "comitia/comitialaw07.CmdReads" = some f) (hfn : Tryd.pinned.checked.prog.funcs[f]? = some fn) :
    false = Tryd.pinned.checked.prog.looks [] ∧ ∀ (j : Nat) t, fn.params[j]? = some t → Tryd.pinned.checked.prog.wantsStandIn t = false := by
  obtain rfl : f = 4 := Option.some.inj ((show Tryd.prog.funcNamed "comitia/comitialaw07.CmdReads" = some 4 by kernel_rfl).symm.trans hf) |>.symm
  obtain rfl : fn = Tryd.f4 := (Option.some.inj (Tryd.func4.symm.trans hfn)).symm
  refine ⟨by kernel_rfl, fun j t ht => ?_⟩
  rw [Tryd.params4] at ht
  have hm : t ∈ [26, 9, 4, 3, 5, 4] := by simpa using Array.mem_of_getElem? ht
  have hall : ([26, 9, 4, 3, 5, 4].all fun u => !Tryd.prog.wantsStandIn u) = true := by kernel_rfl
  exact (show Tryd.prog.wantsStandIn t = false by simpa using List.all_eq_true.1 hall t hm)

theorem proved : Rows.CmdReadsCardSaid :=
  Claim7.holds_tied_plain_at .later [] _ _ _ _ over (fun _ h => by cases h) (by kernel_rfl) (fun _ h => by cases h) cmdReads_row_tie rfl ⟨rfl, rfl⟩ (by kernel_rfl) rfl plain (by kernel_rfl)
end Go.Proofs.YtolgboedinbpeaaDoor.cmdReads
