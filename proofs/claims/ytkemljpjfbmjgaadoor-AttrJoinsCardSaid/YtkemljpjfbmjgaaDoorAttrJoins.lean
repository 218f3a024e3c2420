/-
  Proved: for every three numbers with lists of pairs, flags and slices of bytes the law AttrJoins returns true and leaves its inputs as they were; the card ties the three tables of the library that the row lists to the text of the program. No condition beyond the form itself (each text at most 2^47 - 4096 bytes; the listed tables start as that text lays them).
-/
import Derived.Test.YtkemljpjfbmjgaaDoorAttrL
import Derived.Test.YtkemljpjfbmjgaaDoorAttrA
import Derived.Test.YtkemljpjfbmjgaaDoorSpan
import Derived.Test.YtkemljpjfbmjgaaDoorBox
import Derived.Test.YtkemljpjfbmjgaaDoorTab
import Derived.Test.YtkemljpjfbmjgaaDoorDepsD
import Derived.Laws.Cover1
import Derived.Test.YtkemljpjfbmjgaaDoorCards
import Derived.Test.YtkemljpjfbmjgaaDoorTie
import Derived.Deep.DeepHandedRow
import Derived.LaidMore
import Derived.SevenTiedAt
import Derived.WalkKit
import Derived.ProofKit
import Derived.OpenShut
import Derived.ShutString
import Derived.SizedLaws
import Derived.ChangeOld
import Derived.Below
import Derived.Carry
import Derived.Lib.SmallJoins
import Derived.Deep.SlicePairs
import Derived.SliceStrings
import Derived.ChangeSlices
namespace Go.Proofs.YtkemljpjfbmjgaaDoor.attrJoins
open Go.ChangeShapes Go.WideShapes Go.ChangeAt Go.RowKit Go.Joins Go.Deep
open Go.ChangeMaps (open_string shut_string)
set_option linter.unusedVariables false

theorem own : ownKnob Tryd.prog.godebug = none := by kernel_rfl
theorem laidOut : laidOutB Tryd.prog = true := by kernel_rfl

theorem joins_facts (ka kb kc : Nat) (za zb zc : List Dp.ID) (ha : Dp.IsSet za) (hb : Dp.IsSet zb) (hc : Dp.IsSet zc) :
    Dp.joinD zb za = Dp.joinD za zb ∧ Dp.joinD za (Dp.joinD zb zc) = Dp.joinD (Dp.joinD za zb) zc ∧ Dp.joinD (Dp.joinD (Dp.joinD za zb) zc) zb = Dp.joinD (Dp.joinD za zb) zc ∧
    Dp.IsSet (Dp.joinD za zb) ∧ Dp.IsSet (Dp.joinD (Dp.joinD za zb) zc) ∧ Dp.IsSet (Dp.joinD zb zc) ∧ ∀ x ∈ za, Dp.hasD (Dp.joinD (Dp.joinD za zb) zc) x = true := by
  have s1 : Dp.IsSet (Dp.joinD za zb) := Dp.IsSet.join ha _
  have s2 : Dp.IsSet (Dp.joinD (Dp.joinD za zb) zc) := Dp.IsSet.join s1 _
  refine ⟨Dp.join_comm hb ha, (Dp.join_assoc ha hb hc).symm, ?_, s1, s2, Dp.IsSet.join hb _, fun x hx => ?_⟩
  · exact (Prod.mk.inj (At.join_in (a := (0, Dp.joinD (Dp.joinD za zb) zc)) (b := (0, zb)) s2 hb (fun x hx => Dp.mem_join.2 (.inl ((Dp.mem_join_set hb).2 (.inr hx)))) (Nat.le_refl _))).2
  · exact decide_eq_true (Dp.mem_join.2 (.inl (Dp.mem_join.2 (.inl hx))))

set_option maxRecDepth 100000 in
set_option maxHeartbeats 4000000 in
theorem walk (a0_0 : Int) (a0_1 : Option Addr) (len0_1 cap0_1 : Nat) (a0_2 : Bool) (a0_3 : Option Addr) (len0_3 cap0_3 : Nat) (a1_0 : Int) (a1_1 : Option Addr) (len1_1 cap1_1 : Nat) (a1_2 : Bool) (a1_3 : Option Addr) (len1_3 cap1_3 : Nat) (a2_0 : Int) (a2_1 : Option Addr) (len2_1 cap2_1 : Nat) (a2_2 : Bool) (a2_3 : Option Addr) (len2_3 cap2_3 : Nat) (w : World) (w0_0 : (Lit.int .u32 a0_0).wf = true) (w0_1 : ∀ i, i < len0_1 → ∃ (x : Addr) (e0 e1 : Int), a0_1 = some x ∧ x.block < w.heap.size ∧ w.cell? (x.add (i * 2)) = some (.int .i64 e0) ∧ w.cell? (x.add (i * 2 + 1)) = some (.int .i64 e1) ∧ (Lit.int .i64 e0).wf = true ∧ (Lit.int .i64 e1).wf = true) (l0_1 : len0_1 ≤ cap0_1) (m0_1 : cap0_1 ≤ maxLen) (o0_1 : a0_1 = none → cap0_1 = 0) (w0_3 : ∀ i, i < len0_3 → ∃ (x : Addr) (e0 : Int), a0_3 = some x ∧ x.block < w.heap.size ∧ w.cell? (x.add i) = some (.int .u8 e0) ∧ (Lit.int .u8 e0).wf = true) (l0_3 : len0_3 ≤ cap0_3) (m0_3 : cap0_3 ≤ maxLen) (w1_0 : (Lit.int .u32 a1_0).wf = true) (w1_1 : ∀ i, i < len1_1 → ∃ (x : Addr) (e0 e1 : Int), a1_1 = some x ∧ x.block < w.heap.size ∧ w.cell? (x.add (i * 2)) = some (.int .i64 e0) ∧ w.cell? (x.add (i * 2 + 1)) = some (.int .i64 e1) ∧ (Lit.int .i64 e0).wf = true ∧ (Lit.int .i64 e1).wf = true) (l1_1 : len1_1 ≤ cap1_1) (m1_1 : cap1_1 ≤ maxLen) (o1_1 : a1_1 = none → cap1_1 = 0) (w1_3 : ∀ i, i < len1_3 → ∃ (x : Addr) (e0 : Int), a1_3 = some x ∧ x.block < w.heap.size ∧ w.cell? (x.add i) = some (.int .u8 e0) ∧ (Lit.int .u8 e0).wf = true) (l1_3 : len1_3 ≤ cap1_3) (m1_3 : cap1_3 ≤ maxLen) (w2_0 : (Lit.int .u32 a2_0).wf = true) (w2_1 : ∀ i, i < len2_1 → ∃ (x : Addr) (e0 e1 : Int), a2_1 = some x ∧ x.block < w.heap.size ∧ w.cell? (x.add (i * 2)) = some (.int .i64 e0) ∧ w.cell? (x.add (i * 2 + 1)) = some (.int .i64 e1) ∧ (Lit.int .i64 e0).wf = true ∧ (Lit.int .i64 e1).wf = true) (l2_1 : len2_1 ≤ cap2_1) (m2_1 : cap2_1 ≤ maxLen) (o2_1 : a2_1 = none → cap2_1 = 0) (w2_3 : ∀ i, i < len2_3 → ∃ (x : Addr) (e0 : Int), a2_3 = some x ∧ x.block < w.heap.size ∧ w.cell? (x.add i) = some (.int .u8 e0) ∧ (Lit.int .u8 e0).wf = true) (l2_3 : len2_3 ≤ cap2_3) (m2_3 : cap2_3 ≤ maxLen) (ht : Bl.Tab w) :
    Calls Tryd.prog 5 #[.agg #[.int .u32 a0_0, .slice a0_1 len0_1 cap0_1, .bool a0_2, .slice a0_3 len0_3 cap0_3], .agg #[.int .u32 a1_0, .slice a1_1 len1_1 cap1_1, .bool a1_2, .slice a1_3 len1_3 cap1_3], .agg #[.int .u32 a2_0, .slice a2_1 len2_1 cap2_1, .bool a2_2, .slice a2_3 len2_3 cap2_3]] w fun e w' => e = .returned (.bool true) ∧ Below w.heap.size w w' := by
  obtain ⟨na, rfl, hna⟩ := At.nat_of w0_0
  obtain ⟨ba, rfl, hba⟩ := Dp.Bts.of w0_3
  have TA := Lib.hid hba
  obtain ⟨za, hza⟩ : ∃ z, Hid (Dp.fewD (ba.take 20) = z) := ⟨_, Lib.hid rfl⟩
  obtain ⟨ka, hka⟩ : ∃ k, Hid (na % 5 = k) := ⟨_, Lib.hid rfl⟩
  have FA := At.few_facts hza.out
  have ua : ka < 4294967296 := by have := hka.out; omega
  clear hba w0_0 w0_3 w0_1
  obtain ⟨nb, rfl, hnb⟩ := At.nat_of w1_0
  obtain ⟨bb, rfl, hbb⟩ := Dp.Bts.of w1_3
  have TB := Lib.hid hbb
  obtain ⟨zb, hzb⟩ : ∃ z, Hid (Dp.fewD (bb.take 20) = z) := ⟨_, Lib.hid rfl⟩
  obtain ⟨kb, hkb⟩ : ∃ k, Hid (nb % 5 = k) := ⟨_, Lib.hid rfl⟩
  have FB := At.few_facts hzb.out
  have ub : kb < 4294967296 := by have := hkb.out; omega
  clear hbb w1_0 w1_3 w1_1
  obtain ⟨nc, rfl, hnc⟩ := At.nat_of w2_0
  obtain ⟨bc, rfl, hbc⟩ := Dp.Bts.of w2_3
  have TC := Lib.hid hbc
  obtain ⟨zc, hzc⟩ : ∃ z, Hid (Dp.fewD (bc.take 20) = z) := ⟨_, Lib.hid rfl⟩
  obtain ⟨kc, hkc⟩ : ∃ k, Hid (nc % 5 = k) := ⟨_, Lib.hid rfl⟩
  have FC := At.few_facts hzc.out
  have uc : kc < 4294967296 := by have := hkc.out; omega
  clear hbc w2_0 w2_3 w2_1
  obtain ⟨jab, hjab⟩ : ∃ j, Hid (max ka kb = j) := ⟨_, Lib.hid rfl⟩
  obtain ⟨jj, hjj⟩ : ∃ j, Hid (max jab kc = j) := ⟨_, Lib.hid rfl⟩
  obtain ⟨jbc, hjbc⟩ : ∃ j, Hid (max kb kc = j) := ⟨_, Lib.hid rfl⟩
  obtain ⟨f1, f2, f3, f4, f5, f6, f7⟩ := joins_facts ka kb kc za zb zc FA.1 FB.1 FC.1
  have l1 := At.join_length zb za
  have l2 := At.join_length zc (Dp.joinD za zb)
  have l3 := At.join_length zc zb
  obtain ⟨zab, hzab⟩ : ∃ z, Dp.joinD za zb = z := ⟨_, rfl⟩
  rw [hzab] at f1 f2 f3 f4 f5 f7 l1 l2
  obtain ⟨zj, hzj⟩ : ∃ z, Dp.joinD zab zc = z := ⟨_, rfl⟩
  rw [hzj] at f2 f3 f5 f7 l2
  obtain ⟨zbc, hzbc⟩ : ∃ z, Dp.joinD zb zc = z := ⟨_, rfl⟩
  rw [hzbc] at f2 f6 l3
  have F1 := Lib.hid f1
  have F2 := Lib.hid f2
  have F3 := Lib.hid f3
  have F4 := Lib.hid f4
  have F5 := Lib.hid f5
  have F6 := Lib.hid f6
  have F7 := Lib.hid f7
  have HZ1 := Lib.hid hzab
  have HZ2 := Lib.hid hzj
  have HZ3 := Lib.hid hzbc
  have LA : Hid (za.length ≤ 36) := Lib.hid FA.2.1
  have LB : Hid (zb.length ≤ 36) := Lib.hid FB.2.1
  have LC : Hid (zc.length ≤ 36) := Lib.hid FC.2.1
  have LAB : Hid (zab.length ≤ 72) := Lib.hid (by have := LA.out; have := LB.out; omega)
  have LJ : Hid (zj.length ≤ 108) := Lib.hid (by have := LAB.out; have := LC.out; omega)
  have LBC : Hid (zbc.length ≤ 72) := Lib.hid (by have := LB.out; have := LC.out; omega)
  have SA := Lib.hid FA.1
  have SB := Lib.hid FB.1
  have SC := Lib.hid FC.1
  have HR : Hid (At.rightA (jj, zj) = true) := Lib.hid ((At.right_iff (jj, zj)).2 ⟨f5, by have := LJ.out; show zj.length ≤ 400; omega⟩)
  have hmax : ∀ W, (Builtin.max_ #[22, 22, 22] 22 #[.int .u32 (ka : Int), .int .u32 (kb : Int), .int .u32 (kc : Int)]).run Tryd.prog W = .ok (.int .u32 (jj : Int)) W := by
    intro W
    rw [run_max_int3]
    have h1 := hjab.out
    have h2 := hjj.out
    have : (if (kc : Int) > (if (kb : Int) > (ka : Int) then (kb : Int) else (ka : Int)) then (kc : Int) else (if (kb : Int) > (ka : Int) then (kb : Int) else (ka : Int))) = (jj : Int) := by
      split <;> split <;> omega
    rw [this]
  have lza : za.length ≤ 9223372036854775807 := by have := LA.out; omega
  have HT := Lib.hid ht
  clear ht FA FB FC f1 f2 f3 f4 f5 f6 f7 l1 l2 l3 hzab hzj hzbc
  go_enter Tryd.func5, Tryd.ntmps5
  go_wp2_with fail
  have RA := Lib.hid (((At.row_new w (.int .u32 na) (.slice a0_1 len0_1 cap0_1) (.bool a0_2) (.slice a0_3 ba.length cap0_3) 28).alloc (.cells #[.int .u32 nb, .slice a1_1 len1_1 cap1_1, .bool a1_2, .slice a1_3 bb.length cap1_3] 28)).alloc (.cells #[.int .u32 nc, .slice a2_1 len2_1 cap2_1, .bool a2_2, .slice a2_3 bc.length cap2_3] 28))
  have RB := Lib.hid ((At.row_newAt (w.alloc (.cells #[.int .u32 na, .slice a0_1 len0_1 cap0_1, .bool a0_2, .slice a0_3 ba.length cap0_3] 28)) (.int .u32 nb) (.slice a1_1 len1_1 cap1_1) (.bool a1_2) (.slice a1_3 bb.length cap1_3) 28 (w.heap.size + 1) (by simp)).alloc (.cells #[.int .u32 nc, .slice a2_1 len2_1 cap2_1, .bool a2_2, .slice a2_3 bc.length cap2_3] 28))
  have RC := Lib.hid (At.row_newAt ((w.alloc (.cells #[.int .u32 na, .slice a0_1 len0_1 cap0_1, .bool a0_2, .slice a0_3 ba.length cap0_3] 28)).alloc (.cells #[.int .u32 nb, .slice a1_1 len1_1 cap1_1, .bool a1_2, .slice a1_3 bb.length cap1_3] 28)) (.int .u32 nc) (.slice a2_1 len2_1 cap2_1) (.bool a2_2) (.slice a2_3 bc.length cap2_3) 28 (w.heap.size + 1 + 1) (by simp))
  have B := Lib.hid (Bl.below_3 w (.cells #[.int .u32 na, .slice a0_1 len0_1 cap0_1, .bool a0_2, .slice a0_3 ba.length cap0_3] 28) (.cells #[.int .u32 nb, .slice a1_1 len1_1 cap1_1, .bool a1_2, .slice a1_3 bb.length cap1_3] 28) (.cells #[.int .u32 nc, .slice a2_1 len2_1 cap2_1, .bool a2_2, .slice a2_3 bc.length cap2_3] 28))
  generalize ((w.alloc (.cells #[.int .u32 na, .slice a0_1 len0_1 cap0_1, .bool a0_2, .slice a0_3 ba.length cap0_3] 28)).alloc (.cells #[.int .u32 nb, .slice a1_1 len1_1 cap1_1, .bool a1_2, .slice a1_3 bb.length cap1_3] 28)).alloc (.cells #[.int .u32 nc, .slice a2_1 len2_1 cap2_1, .bool a2_2, .slice a2_3 bc.length cap2_3] 28) = v0 at *
  refine (At.examples_any v0 (HT.out.over B.out)).mono ?_
  rintro e v1 ⟨rfl, hb⟩
  replace RA := Lib.hid (RA.out.over hb)
  replace RB := Lib.hid (RB.out.over hb)
  replace RC := Lib.hid (RC.out.over hb)
  replace B := Lib.hid (B.out.trans (hb.mono B.out.size))
  clear hb
  have ⟨ra0, ra1, ra2, ra3, ra4, ra5⟩ := At.row_four RA.out
  have ⟨rb0, rb1, rb2, rb3, rb4, rb5⟩ := At.row_four RB.out
  have ⟨rc0, rc1, rc2, rc3, rc4, rc5⟩ := At.row_four RC.out
  go_wp2_with fail
  clear ra0 ra1 ra2 ra3 ra4 ra5 rb0 rb1 rb2 rb3 rb4 rb5 rc0 rc1 rc2 rc3 rc4 rc5
  replace B := Lib.hid (At.below_own (At.below_own (At.below_own B.out (k := w.heap.size) (Nat.le_refl _) (.bool true)) (k := w.heap.size + 1) (by omega) (.bool true)) (k := w.heap.size + 1 + 1) (by omega) (.bool true))
  replace RA := Lib.hid (((At.row_own RA.out (.bool true)).far ⟨w.heap.size + 1, 2, none⟩ (by simp) (.bool true)).far ⟨w.heap.size + 1 + 1, 2, none⟩ (by simp; omega) (.bool true))
  replace RB := Lib.hid ((At.row_own (RB.out.far ⟨w.heap.size, 2, none⟩ (by simp) (.bool true)) (.bool true)).far ⟨w.heap.size + 1 + 1, 2, none⟩ (by simp) (.bool true))
  replace RC := Lib.hid (At.row_own ((RC.out.far ⟨w.heap.size, 2, none⟩ (by simp; omega) (.bool true)).far ⟨w.heap.size + 1, 2, none⟩ (by simp) (.bool true)) (.bool true))
  generalize ((v1.setCell ⟨w.heap.size, 2, none⟩ (.bool true)).setCell ⟨w.heap.size + 1, 2, none⟩ (.bool true)).setCell ⟨w.heap.size + 1 + 1, 2, none⟩ (.bool true) = w1 at *
  refine (At.attr_own na ka hka.out ba za hza.out a0_1 len0_1 cap0_1 a0_3 cap0_3 l0_3 m0_3 w1 (TA.out.kept B.out)).mono ?_
  rintro e v2 ⟨pa, ca, rfl, ia, hb⟩
  replace RA := Lib.hid (RA.out.over hb)
  replace RB := Lib.hid (RB.out.over hb)
  replace RC := Lib.hid (RC.out.over hb)
  replace B := Lib.hid (B.out.trans (hb.mono B.out.size))
  clear hb
  have IA := Lib.hid ia
  clear ia
  have ⟨rb0, rb1, rb2, rb3, rb4, rb5⟩ := At.row_four RB.out
  go_wp2_with fail
  have hb := Bl.below_1 v2 (.cells #[.int .u32 ka, .slice pa za.length ca] 25)
  clear rb0 rb1 rb2 rb3 rb4 rb5
  replace RA := Lib.hid (RA.out.over hb)
  replace RB := Lib.hid (RB.out.over hb)
  replace RC := Lib.hid (RC.out.over hb)
  replace IA := Lib.hid (IA.out.kept hb)
  replace B := Lib.hid (B.out.trans (hb.mono B.out.size))
  have PA := Lib.hid (Bl.Pair.newAt (v2) (.int .u32 ka) (.slice pa za.length ca) 25 (v2.heap.size) (by simp))
  generalize v2.alloc (.cells #[.int .u32 ka, .slice pa za.length ca] 25) = v3 at *
  generalize v2.heap.size = g3 at *
  clear hb
  refine (At.attr_own nb kb hkb.out bb zb hzb.out a1_1 len1_1 cap1_1 a1_3 cap1_3 l1_3 m1_3 v3 (TB.out.kept B.out)).mono ?_
  rintro e v4 ⟨pb, cb, rfl, ib, hb⟩
  replace RA := Lib.hid (RA.out.over hb)
  replace RB := Lib.hid (RB.out.over hb)
  replace RC := Lib.hid (RC.out.over hb)
  replace IA := Lib.hid (IA.out.kept hb)
  replace PA := Lib.hid (PA.out.over hb)
  replace B := Lib.hid (B.out.trans (hb.mono B.out.size))
  clear hb
  have IB := Lib.hid ib
  clear ib
  have ⟨rc0, rc1, rc2, rc3, rc4, rc5⟩ := At.row_four RC.out
  go_wp2_with fail
  have hb := Bl.below_1 v4 (.cells #[.int .u32 kb, .slice pb zb.length cb] 25)
  clear rc0 rc1 rc2 rc3 rc4 rc5
  replace RA := Lib.hid (RA.out.over hb)
  replace RB := Lib.hid (RB.out.over hb)
  replace RC := Lib.hid (RC.out.over hb)
  replace IA := Lib.hid (IA.out.kept hb)
  replace PA := Lib.hid (PA.out.over hb)
  replace IB := Lib.hid (IB.out.kept hb)
  replace B := Lib.hid (B.out.trans (hb.mono B.out.size))
  have PB := Lib.hid (Bl.Pair.newAt (v4) (.int .u32 kb) (.slice pb zb.length cb) 25 (v4.heap.size) (by simp))
  generalize v4.alloc (.cells #[.int .u32 kb, .slice pb zb.length cb] 25) = v5 at *
  generalize v4.heap.size = g5 at *
  clear hb
  refine (At.attr_own nc kc hkc.out bc zc hzc.out a2_1 len2_1 cap2_1 a2_3 cap2_3 l2_3 m2_3 v5 (TC.out.kept B.out)).mono ?_
  rintro e v6 ⟨pc, cc, rfl, ic, hb⟩
  replace RA := Lib.hid (RA.out.over hb)
  replace RB := Lib.hid (RB.out.over hb)
  replace RC := Lib.hid (RC.out.over hb)
  replace IA := Lib.hid (IA.out.kept hb)
  replace PA := Lib.hid (PA.out.over hb)
  replace IB := Lib.hid (IB.out.kept hb)
  replace PB := Lib.hid (PB.out.over hb)
  replace B := Lib.hid (B.out.trans (hb.mono B.out.size))
  clear hb
  have IC := Lib.hid ic
  clear ic
  have ⟨pa_0, pa_1, pa_2, pa_3, pa_4⟩ := PA.out
  have ⟨pb_0, pb_1, pb_2, pb_3, pb_4⟩ := PB.out
  go_wp2_with fail
  have hb := Bl.below_1 v6 (.cells #[.int .u32 kc, .slice pc zc.length cc] 25)
  clear pa_0 pa_1 pa_2 pa_3 pa_4 pb_0 pb_1 pb_2 pb_3 pb_4
  replace RA := Lib.hid (RA.out.over hb)
  replace RB := Lib.hid (RB.out.over hb)
  replace RC := Lib.hid (RC.out.over hb)
  replace IA := Lib.hid (IA.out.kept hb)
  replace PA := Lib.hid (PA.out.over hb)
  replace IB := Lib.hid (IB.out.kept hb)
  replace PB := Lib.hid (PB.out.over hb)
  replace IC := Lib.hid (IC.out.kept hb)
  replace B := Lib.hid (B.out.trans (hb.mono B.out.size))
  have PC := Lib.hid (Bl.Pair.newAt (v6) (.int .u32 kc) (.slice pc zc.length cc) 25 (v6.heap.size) (by simp))
  generalize v6.alloc (.cells #[.int .u32 kc, .slice pc zc.length cc] 25) = v7 at *
  generalize v6.heap.size = g7 at *
  clear hb
  clear RA RB RC
  refine (At.join_any ka kb jab hjab.out za zb zab HZ1.out SA.out SB.out (by have := LA.out; omega) (by have := LB.out; omega) pa pb ca cb v7 IA.out IB.out).mono ?_
  rintro e v8 ⟨pd, cd, rfl, id, hb⟩
  replace IA := Lib.hid (IA.out.kept hb)
  replace PA := Lib.hid (PA.out.over hb)
  replace IB := Lib.hid (IB.out.kept hb)
  replace PB := Lib.hid (PB.out.over hb)
  replace IC := Lib.hid (IC.out.kept hb)
  replace PC := Lib.hid (PC.out.over hb)
  replace B := Lib.hid (B.out.trans (hb.mono B.out.size))
  clear hb
  have ID := Lib.hid id
  clear id
  have ⟨pc_0, pc_1, pc_2, pc_3, pc_4⟩ := PC.out
  go_wp2_with fail
  have hb := Bl.below_1 v8 (.cells #[.int .u32 jab, .slice pd zab.length cd] 25)
  clear pc_0 pc_1 pc_2 pc_3 pc_4
  replace IA := Lib.hid (IA.out.kept hb)
  replace PA := Lib.hid (PA.out.over hb)
  replace IB := Lib.hid (IB.out.kept hb)
  replace PB := Lib.hid (PB.out.over hb)
  replace IC := Lib.hid (IC.out.kept hb)
  replace PC := Lib.hid (PC.out.over hb)
  replace ID := Lib.hid (ID.out.kept hb)
  replace B := Lib.hid (B.out.trans (hb.mono B.out.size))
  have PD := Lib.hid (Bl.Pair.newAt (v8) (.int .u32 jab) (.slice pd zab.length cd) 25 (v8.heap.size) (by simp))
  generalize v8.alloc (.cells #[.int .u32 jab, .slice pd zab.length cd] 25) = v9 at *
  generalize v8.heap.size = g9 at *
  clear hb
  refine (At.join_any jab kc jj hjj.out zab zc zj HZ2.out F4.out SC.out (by have := LAB.out; omega) (by have := LC.out; omega) pd pc cd cc v9 ID.out IC.out).mono ?_
  rintro e v10 ⟨pe, ce, rfl, ie, hb⟩
  replace IA := Lib.hid (IA.out.kept hb)
  replace PA := Lib.hid (PA.out.over hb)
  replace IB := Lib.hid (IB.out.kept hb)
  replace PB := Lib.hid (PB.out.over hb)
  replace IC := Lib.hid (IC.out.kept hb)
  replace PC := Lib.hid (PC.out.over hb)
  replace ID := Lib.hid (ID.out.kept hb)
  replace PD := Lib.hid (PD.out.over hb)
  replace B := Lib.hid (B.out.trans (hb.mono B.out.size))
  clear hb
  have IE := Lib.hid ie
  clear ie
  go_wp2_with fail
  have hb := Bl.below_1 v10 (.cells #[.int .u32 jj, .slice pe zj.length ce] 25)
  replace IA := Lib.hid (IA.out.kept hb)
  replace PA := Lib.hid (PA.out.over hb)
  replace IB := Lib.hid (IB.out.kept hb)
  replace PB := Lib.hid (PB.out.over hb)
  replace IC := Lib.hid (IC.out.kept hb)
  replace PC := Lib.hid (PC.out.over hb)
  replace ID := Lib.hid (ID.out.kept hb)
  replace PD := Lib.hid (PD.out.over hb)
  replace IE := Lib.hid (IE.out.kept hb)
  replace B := Lib.hid (B.out.trans (hb.mono B.out.size))
  have PE := Lib.hid (Bl.Pair.newAt (v10) (.int .u32 jj) (.slice pe zj.length ce) 25 (v10.heap.size) (by simp))
  generalize v10.alloc (.cells #[.int .u32 jj, .slice pe zj.length ce] 25) = v11 at *
  generalize v10.heap.size = g11 at *
  clear hb
  go_loopw [13] (fun i W => ∃ k : Nat, k ≤ za.length ∧ i = .int .i64 k ∧ Hid (Below v11.heap.size v11 W)) (fun i _ => za.length - (intOf i).toNat)
  case atStart => exact ⟨0, by omega, rfl, Lib.hid (Below.refl _ _)⟩
  case round =>
    obtain ⟨m, hm, rfl, hW⟩ := hrel
    have hb := hW.out
    replace IA := Lib.hid (IA.out.kept hb)
    replace PA := Lib.hid (PA.out.over hb)
    replace IB := Lib.hid (IB.out.kept hb)
    replace PB := Lib.hid (PB.out.over hb)
    replace IC := Lib.hid (IC.out.kept hb)
    replace PC := Lib.hid (PC.out.over hb)
    replace ID := Lib.hid (ID.out.kept hb)
    replace PD := Lib.hid (PD.out.over hb)
    replace IE := Lib.hid (IE.out.kept hb)
    replace PE := Lib.hid (PE.out.over hb)
    replace B := Lib.hid (B.out.trans (hb.mono B.out.size))
    clear hb
    have ⟨pa_0, pa_1, pa_2, pa_3, pa_4⟩ := PA.out
    by_cases hlt : m < za.length
    · obtain ⟨x, p1, p2, ex, rfl, hxb, c0, c1⟩ := IA.out.toIds.at hlt
      have HH : Hid (Dp.hasD zj (p1, p2) = true) := Lib.hid (F7.out _ (by rw [← ex, List.getD_eq_getElem?_getD, List.getElem?_eq_getElem hlt]; exact List.getElem_mem hlt))
      have HC : Hid (∀ w', Below wr.heap.size wr w' → w'.cell? ⟨g3, 1, none⟩ = some (.slice (some x) za.length ca) ∧ w'.cell? ⟨g11, 1, none⟩ = some (.slice pe zj.length ce) ∧ w'.cell? (x.add (m * 2)) = some (.int .i64 p1) ∧ w'.cell? ⟨(x.add (m * 2)).block, (x.add (m * 2)).off + 1, none⟩ = some (.int .i64 p2)) := Lib.hid (fun w' h => ⟨(PA.out.over h).2.2.1, (PE.out.over h).2.2.1, (h.cell (by rw [Dp.block_of_add]; exact hxb)).trans c0, (h.cell (p := ⟨(x.add (m * 2)).block, (x.add (m * 2)).off + 1, none⟩) (by rw [Dp.block_of_add]; exact hxb)).trans c1⟩)
      have k : Below wr.heap.size wr wr.drew := (Below.refl _ _).drew
      clear ex c0 c1
      go_wp2_with fail
      clear pa_0 pa_1 pa_2 pa_3 pa_4
      refine wp_region_held_drew (S := fun w' => w'.cell? ⟨g3, 1, none⟩ = some (.slice (some x) za.length ca) ∧ w'.cell? ⟨g11, 1, none⟩ = some (.slice pe zj.length ce) ∧ w'.cell? (x.add (m * 2)) = some (.int .i64 p1) ∧ w'.cell? ⟨(x.add (m * 2)).block, (x.add (m * 2)).off + 1, none⟩ = some (.int .i64 p2)) (by kernel_rfl) (HC.out _ k) (fun hHeld => ?_)
      refine Dp.take_yes (i := 0) (oi := ⟨some 39, _, _, _, _, _⟩) (v := ?_) rfl (by kernel_rfl) (by kernel_rfl) (by kernel_rfl) (fun _ _ _ h => h) (by kernel_rfl) ?_ (by assumption) ?_
      rotate_left
      · (intro w' hSw; (try dsimp only at hSw); first | (go_simp; done) | (go_simp; with_reducible rfl))
      (try simp only [Act.put]); (try simp only [List.setIfInBounds_toArray]); (try simp only [List.set_cons_succ]); (try simp only [List.set_cons_zero])
      refine Dp.take_yes (i := 1) (oi := ⟨some 40, _, _, _, _, _⟩) (v := ?_) rfl (by kernel_rfl) (by kernel_rfl) (by kernel_rfl) (fun _ _ _ h => h) (by kernel_rfl) ?_ (by assumption) ?_
      rotate_left
      · (intro w' hSw; (try dsimp only at hSw); first | (go_simp; done) | (go_simp; with_reducible rfl))
      (try simp only [Act.put]); (try simp only [List.setIfInBounds_toArray]); (try simp only [List.set_cons_succ]); (try simp only [List.set_cons_zero])
      refine Dp.take_yes (i := 2) (oi := ⟨some 41, _, _, _, _, _⟩) (v := ?_) rfl (by kernel_rfl) (by kernel_rfl) (by kernel_rfl) (fun _ _ _ h => h) (by kernel_rfl) ?_ (by assumption) ?_
      rotate_left
      · (intro w' hSw; (try dsimp only at hSw); first | (go_simp; done) | (go_simp; with_reducible rfl))
      (try simp only [Act.put]); (try simp only [List.setIfInBounds_toArray]); (try simp only [List.set_cons_succ]); (try simp only [List.set_cons_zero])
      refine Dp.take_yes (i := 3) (oi := ⟨some 42, _, _, _, _, _⟩) (v := ?_) rfl (by kernel_rfl) (by kernel_rfl) (by kernel_rfl) (fun _ _ _ h => h) (by kernel_rfl) ?_ (by assumption) ?_
      rotate_left
      · (intro w' hSw; (try dsimp only at hSw); first | (go_simp; done) | (go_simp; with_reducible rfl))
      (try simp only [Act.put]); (try simp only [List.setIfInBounds_toArray]); (try simp only [List.set_cons_succ]); (try simp only [List.set_cons_zero])
      refine Dp.take_yes (i := 4) (oi := ⟨some 43, _, _, _, _, _⟩) (v := ?_) rfl (by kernel_rfl) (by kernel_rfl) (by kernel_rfl) (fun _ _ _ h => h) (by kernel_rfl) ?_ (by assumption) ?_
      rotate_left
      · (intro w' hSw; (try dsimp only at hSw); first | (go_simp; done) | (go_simp; with_reducible rfl))
      (try simp only [Act.put]); (try simp only [List.setIfInBounds_toArray]); (try simp only [List.set_cons_succ]); (try simp only [List.set_cons_zero])
      refine Dp.take_yes (i := 5) (oi := ⟨some 44, _, _, _, _, _⟩) (v := ?_) rfl (by kernel_rfl) (by kernel_rfl) (by kernel_rfl) (fun _ _ _ h => h) (by kernel_rfl) ?_ (by assumption) ?_
      rotate_left
      · (intro w' hSw; (try dsimp only at hSw); first | (go_simp; done) | (go_simp; with_reducible rfl))
      (try simp only [Act.put]); (try simp only [List.setIfInBounds_toArray]); (try simp only [List.set_cons_succ]); (try simp only [List.set_cons_zero])
      refine Dp.take_yes (i := 6) (oi := ⟨some 45, _, _, _, _, _⟩) (v := ?_) rfl (by kernel_rfl) (by kernel_rfl) (by kernel_rfl) (fun _ _ _ h => h) (by kernel_rfl) ?_ (by assumption) ?_
      rotate_left
      · (intro w' hSw; (try dsimp only at hSw); first | (go_simp; done) | (go_simp; with_reducible rfl))
      (try simp only [Act.put]); (try simp only [List.setIfInBounds_toArray]); (try simp only [List.set_cons_succ]); (try simp only [List.set_cons_zero])
      refine wpAnyH_ready (rs := [7]) (by kernel_rfl) (by simp) ?_
      refine AllReadyH.cons (o := ⟨some 46, _, _, _, _, _⟩) rfl (fun K hK => ?_) AllReadyH.nil
      go_simp
      go_at_call 25
      refine (Dp.has_any zj p1 p2 true HH.out F5.out pe ce (by have := LJ.out; omega) _ (IE.out.kept k).toIds).mono ?_
      rintro e y1 ⟨rfl, hb⟩
      replace k := Dp.keep2 hb k
      clear hb
      (try go_wp2_with fail)
      refine hK.out _ _ (HC.out _ (by assumption)) (fun hHeld2 => ?_)
      clear hK hHeld; have hHeld := hHeld2; clear hHeld2
      (try simp only [Act.put]); (try simp only [List.setIfInBounds_toArray]); (try simp only [List.set_cons_succ]); (try simp only [List.set_cons_zero])
      refine Dp.take_yes (i := 8) (oi := ⟨some 47, _, _, _, _, _⟩) (v := ?_) rfl (by kernel_rfl) (by kernel_rfl) (by kernel_rfl) (fun _ _ _ h => h) (by kernel_rfl) ?_ (by assumption) ?_
      rotate_left
      · (intro w' hSw; (try dsimp only at hSw); first | (go_simp; done) | (go_simp; with_reducible rfl))
      (try simp only [Act.put]); (try simp only [List.setIfInBounds_toArray]); (try simp only [List.set_cons_succ]); (try simp only [List.set_cons_zero])
      refine wpAnyH_done (by kernel_rfl) ?_ _
      go_wp2
      exact ⟨⟨m + 1, by omega, by go_num, Lib.hid (hW.out.trans (k.mono hW.out.size))⟩, by simp [intOf]; omega⟩
    · obtain rfl : m = za.length := by omega
      go_wp2_with fail
      clear pa_0 pa_1 pa_2 pa_3 pa_4
      have HC : Hid (∀ w', Below wr.heap.size wr w' → w'.cell? ⟨g3, 0, none⟩ = some (.int .u32 ka) ∧ w'.cell? ⟨g3, 1, none⟩ = some (.slice pa za.length ca) ∧ w'.cell? ⟨g5, 0, none⟩ = some (.int .u32 kb) ∧ w'.cell? ⟨g5, 1, none⟩ = some (.slice pb zb.length cb) ∧ w'.cell? ⟨g7, 0, none⟩ = some (.int .u32 kc) ∧ w'.cell? ⟨g7, 1, none⟩ = some (.slice pc zc.length cc) ∧ w'.cell? ⟨g9, 0, none⟩ = some (.int .u32 jab) ∧ w'.cell? ⟨g9, 1, none⟩ = some (.slice pd zab.length cd) ∧ w'.cell? ⟨g11, 0, none⟩ = some (.int .u32 jj) ∧ w'.cell? ⟨g11, 1, none⟩ = some (.slice pe zj.length ce)) := Lib.hid (fun w' h => ⟨(PA.out.over h).2.1, (PA.out.over h).2.2.1, (PB.out.over h).2.1, (PB.out.over h).2.2.1, (PC.out.over h).2.1, (PC.out.over h).2.2.1, (PD.out.over h).2.1, (PD.out.over h).2.2.1, (PE.out.over h).2.1, (PE.out.over h).2.2.1⟩)
      have k : Below wr.heap.size wr wr.drew := (Below.refl _ _).drew
      refine wp_region_held_drew (S := fun w' => w'.cell? ⟨g3, 0, none⟩ = some (.int .u32 ka) ∧ w'.cell? ⟨g3, 1, none⟩ = some (.slice pa za.length ca) ∧ w'.cell? ⟨g5, 0, none⟩ = some (.int .u32 kb) ∧ w'.cell? ⟨g5, 1, none⟩ = some (.slice pb zb.length cb) ∧ w'.cell? ⟨g7, 0, none⟩ = some (.int .u32 kc) ∧ w'.cell? ⟨g7, 1, none⟩ = some (.slice pc zc.length cc) ∧ w'.cell? ⟨g9, 0, none⟩ = some (.int .u32 jab) ∧ w'.cell? ⟨g9, 1, none⟩ = some (.slice pd zab.length cd) ∧ w'.cell? ⟨g11, 0, none⟩ = some (.int .u32 jj) ∧ w'.cell? ⟨g11, 1, none⟩ = some (.slice pe zj.length ce)) (by kernel_rfl) (HC.out _ k) (fun hHeld => ?_)
      refine Dp.take_yes (i := 0) (oi := ⟨some 48, _, _, _, _, _⟩) (v := ?_) rfl (by kernel_rfl) (by kernel_rfl) (by kernel_rfl) (fun _ _ _ h => h) (by kernel_rfl) ?_ (by assumption) ?_
      rotate_left
      · (intro w' hSw; (try dsimp only at hSw); first | (go_simp; done) | (go_simp; with_reducible rfl))
      (try simp only [Act.put]); (try simp only [List.setIfInBounds_toArray]); (try simp only [List.set_cons_succ]); (try simp only [List.set_cons_zero])
      refine Dp.take_yes (i := 1) (oi := ⟨some 49, _, _, _, _, _⟩) (v := ?_) rfl (by kernel_rfl) (by kernel_rfl) (by kernel_rfl) (fun _ _ _ h => h) (by kernel_rfl) ?_ (by assumption) ?_
      rotate_left
      · (intro w' hSw; (try dsimp only at hSw); first | (go_simp; done) | (go_simp; with_reducible rfl))
      (try simp only [Act.put]); (try simp only [List.setIfInBounds_toArray]); (try simp only [List.set_cons_succ]); (try simp only [List.set_cons_zero])
      refine Dp.take_yes (i := 2) (oi := ⟨some 50, _, _, _, _, _⟩) (v := ?_) rfl (by kernel_rfl) (by kernel_rfl) (by kernel_rfl) (fun _ _ _ h => h) (by kernel_rfl) ?_ (by assumption) ?_
      rotate_left
      · (intro w' hSw; (try dsimp only at hSw); first | (go_simp; done) | (go_simp; with_reducible rfl))
      (try simp only [Act.put]); (try simp only [List.setIfInBounds_toArray]); (try simp only [List.set_cons_succ]); (try simp only [List.set_cons_zero])
      refine Dp.take_yes (i := 3) (oi := ⟨some 51, _, _, _, _, _⟩) (v := ?_) rfl (by kernel_rfl) (by kernel_rfl) (by kernel_rfl) (fun _ _ _ h => h) (by kernel_rfl) ?_ (by assumption) ?_
      rotate_left
      · (intro w' hSw; (try dsimp only at hSw); first | (go_simp; done) | (go_simp; with_reducible rfl))
      (try simp only [Act.put]); (try simp only [List.setIfInBounds_toArray]); (try simp only [List.set_cons_succ]); (try simp only [List.set_cons_zero])
      refine Dp.take_yes (i := 4) (oi := ⟨some 52, _, _, _, _, _⟩) (v := ?_) rfl (by kernel_rfl) (by kernel_rfl) (by kernel_rfl) (fun _ _ _ h => h) (by kernel_rfl) ?_ (by assumption) ?_
      rotate_left
      · (intro w' hSw; (try dsimp only at hSw); first | (go_simp; done) | (go_simp; with_reducible rfl))
      (try simp only [Act.put]); (try simp only [List.setIfInBounds_toArray]); (try simp only [List.set_cons_succ]); (try simp only [List.set_cons_zero])
      refine wpAnyH_ready (rs := [5]) (by kernel_rfl) (by simp) ?_
      refine AllReadyH.cons (o := ⟨some 53, _, _, _, _, _⟩) rfl (fun K hK => ?_) AllReadyH.nil
      go_simp
      go_at_call 14
      refine (At.join_any kb ka jab (by have := hjab.out; omega) zb za zab F1.out SB.out SA.out (by have := LB.out; omega) (by have := LA.out; omega) pb pa cb ca _ (IB.out.kept k) (IA.out.kept k)).mono ?_
      rintro e y1 ⟨j1, d1, rfl, i1, hb⟩
      replace k := Dp.keep2 hb k
      clear hb
      (try go_wp2_with fail)
      refine hK.out _ _ (HC.out _ (by assumption)) (fun hHeld2 => ?_)
      clear hK hHeld; have hHeld := hHeld2; clear hHeld2
      (try simp only [Act.put]); (try simp only [List.setIfInBounds_toArray]); (try simp only [List.set_cons_succ]); (try simp only [List.set_cons_zero])
      refine wpAnyH_ready (rs := [6]) (by kernel_rfl) (by simp) ?_
      refine AllReadyH.cons (o := ⟨some 54, _, _, _, _, _⟩) rfl (fun K hK => ?_) AllReadyH.nil
      go_simp
      go_at_call 19
      refine (At.same_any jab jab zab zab true (decide_eq_true rfl) pd j1 cd d1 _ (ID.out.kept k) i1).mono ?_
      rintro e y2 ⟨rfl, hb⟩
      replace k := Dp.keep2 hb k
      clear hb
      (try go_wp2_with fail)
      refine hK.out _ _ (HC.out _ (by assumption)) (fun hHeld2 => ?_)
      clear hK hHeld; have hHeld := hHeld2; clear hHeld2
      (try simp only [Act.put]); (try simp only [List.setIfInBounds_toArray]); (try simp only [List.set_cons_succ]); (try simp only [List.set_cons_zero])
      refine Dp.take_yes (i := 7) (oi := ⟨some 55, _, _, _, _, _⟩) (v := ?_) rfl (by kernel_rfl) (by kernel_rfl) (by kernel_rfl) (fun _ _ _ h => h) (by kernel_rfl) ?_ (by assumption) ?_
      rotate_left
      · (intro w' hSw; (try dsimp only at hSw); first | (go_simp; done) | (go_simp; with_reducible rfl))
      (try simp only [Act.put]); (try simp only [List.setIfInBounds_toArray]); (try simp only [List.set_cons_succ]); (try simp only [List.set_cons_zero])
      refine Dp.take_yes (i := 8) (oi := ⟨some 56, _, _, _, _, _⟩) (v := ?_) rfl (by kernel_rfl) (by kernel_rfl) (by kernel_rfl) (fun _ _ _ h => h) (by kernel_rfl) ?_ (by assumption) ?_
      rotate_left
      · (intro w' hSw; (try dsimp only at hSw); first | (go_simp; done) | (go_simp; with_reducible rfl))
      (try simp only [Act.put]); (try simp only [List.setIfInBounds_toArray]); (try simp only [List.set_cons_succ]); (try simp only [List.set_cons_zero])
      refine Dp.take_yes (i := 9) (oi := ⟨some 57, _, _, _, _, _⟩) (v := ?_) rfl (by kernel_rfl) (by kernel_rfl) (by kernel_rfl) (fun _ _ _ h => h) (by kernel_rfl) ?_ (by assumption) ?_
      rotate_left
      · (intro w' hSw; (try dsimp only at hSw); first | (go_simp; done) | (go_simp; with_reducible rfl))
      (try simp only [Act.put]); (try simp only [List.setIfInBounds_toArray]); (try simp only [List.set_cons_succ]); (try simp only [List.set_cons_zero])
      refine Dp.take_yes (i := 10) (oi := ⟨some 58, _, _, _, _, _⟩) (v := ?_) rfl (by kernel_rfl) (by kernel_rfl) (by kernel_rfl) (fun _ _ _ h => h) (by kernel_rfl) ?_ (by assumption) ?_
      rotate_left
      · (intro w' hSw; (try dsimp only at hSw); first | (go_simp; done) | (go_simp; with_reducible rfl))
      (try simp only [Act.put]); (try simp only [List.setIfInBounds_toArray]); (try simp only [List.set_cons_succ]); (try simp only [List.set_cons_zero])
      refine Dp.take_yes (i := 11) (oi := ⟨some 59, _, _, _, _, _⟩) (v := ?_) rfl (by kernel_rfl) (by kernel_rfl) (by kernel_rfl) (fun _ _ _ h => h) (by kernel_rfl) ?_ (by assumption) ?_
      rotate_left
      · (intro w' hSw; (try dsimp only at hSw); first | (go_simp; done) | (go_simp; with_reducible rfl))
      (try simp only [Act.put]); (try simp only [List.setIfInBounds_toArray]); (try simp only [List.set_cons_succ]); (try simp only [List.set_cons_zero])
      refine Dp.take_yes (i := 12) (oi := ⟨some 60, _, _, _, _, _⟩) (v := ?_) rfl (by kernel_rfl) (by kernel_rfl) (by kernel_rfl) (fun _ _ _ h => h) (by kernel_rfl) ?_ (by assumption) ?_
      rotate_left
      · (intro w' hSw; (try dsimp only at hSw); first | (go_simp; done) | (go_simp; with_reducible rfl))
      (try simp only [Act.put]); (try simp only [List.setIfInBounds_toArray]); (try simp only [List.set_cons_succ]); (try simp only [List.set_cons_zero])
      refine wpAnyH_ready (rs := [13]) (by kernel_rfl) (by simp) ?_
      refine AllReadyH.cons (o := ⟨some 61, _, _, _, _, _⟩) rfl (fun K hK => ?_) AllReadyH.nil
      go_simp
      go_at_call 14
      refine (At.join_any kb kc jbc hjbc.out zb zc zbc HZ3.out SB.out SC.out (by have := LB.out; omega) (by have := LC.out; omega) pb pc cb cc _ (IB.out.kept k) (IC.out.kept k)).mono ?_
      rintro e y3 ⟨j2, d2, rfl, i2, hb⟩
      replace k := Dp.keep2 hb k
      clear hb
      (try go_wp2_with fail)
      refine hK.out _ _ (HC.out _ (by assumption)) (fun hHeld2 => ?_)
      clear hK hHeld; have hHeld := hHeld2; clear hHeld2
      (try simp only [Act.put]); (try simp only [List.setIfInBounds_toArray]); (try simp only [List.set_cons_succ]); (try simp only [List.set_cons_zero])
      refine wpAnyH_ready (rs := [14]) (by kernel_rfl) (by simp) ?_
      refine AllReadyH.cons (o := ⟨some 62, _, _, _, _, _⟩) rfl (fun K hK => ?_) AllReadyH.nil
      go_simp
      go_at_call 14
      refine (At.join_any ka jbc jj (by have := hjab.out; have := hjj.out; have := hjbc.out; omega) za zbc zj F2.out SA.out F6.out (by have := LA.out; omega) (by have := LBC.out; omega) pa j2 ca d2 _ (IA.out.kept k) i2).mono ?_
      rintro e y4 ⟨j3, d3, rfl, i3, hb⟩
      replace k := Dp.keep2 hb k
      clear hb
      (try go_wp2_with fail)
      refine hK.out _ _ (HC.out _ (by assumption)) (fun hHeld2 => ?_)
      clear hK hHeld; have hHeld := hHeld2; clear hHeld2
      (try simp only [Act.put]); (try simp only [List.setIfInBounds_toArray]); (try simp only [List.set_cons_succ]); (try simp only [List.set_cons_zero])
      refine wpAnyH_ready (rs := [15]) (by kernel_rfl) (by simp) ?_
      refine AllReadyH.cons (o := ⟨some 63, _, _, _, _, _⟩) rfl (fun K hK => ?_) AllReadyH.nil
      go_simp
      go_at_call 19
      refine (At.same_any jj jj zj zj true (decide_eq_true rfl) pe j3 ce d3 _ (IE.out.kept k) i3).mono ?_
      rintro e y5 ⟨rfl, hb⟩
      replace k := Dp.keep2 hb k
      clear hb
      (try go_wp2_with fail)
      refine hK.out _ _ (HC.out _ (by assumption)) (fun hHeld2 => ?_)
      clear hK hHeld; have hHeld := hHeld2; clear hHeld2
      (try simp only [Act.put]); (try simp only [List.setIfInBounds_toArray]); (try simp only [List.set_cons_succ]); (try simp only [List.set_cons_zero])
      refine Dp.take_yes (i := 16) (oi := ⟨some 64, _, _, _, _, _⟩) (v := ?_) rfl (by kernel_rfl) (by kernel_rfl) (by kernel_rfl) (fun _ _ _ h => h) (by kernel_rfl) ?_ (by assumption) ?_
      rotate_left
      · (intro w' hSw; (try dsimp only at hSw); first | (go_simp; done) | (go_simp; with_reducible rfl))
      (try simp only [Act.put]); (try simp only [List.setIfInBounds_toArray]); (try simp only [List.set_cons_succ]); (try simp only [List.set_cons_zero])
      refine Dp.take_yes (i := 17) (oi := ⟨some 65, _, _, _, _, _⟩) (v := ?_) rfl (by kernel_rfl) (by kernel_rfl) (by kernel_rfl) (fun _ _ _ h => h) (by kernel_rfl) ?_ (by assumption) ?_
      rotate_left
      · (intro w' hSw; (try dsimp only at hSw); first | (go_simp; done) | (go_simp; with_reducible rfl))
      (try simp only [Act.put]); (try simp only [List.setIfInBounds_toArray]); (try simp only [List.set_cons_succ]); (try simp only [List.set_cons_zero])
      refine Dp.take_yes (i := 18) (oi := ⟨some 66, _, _, _, _, _⟩) (v := ?_) rfl (by kernel_rfl) (by kernel_rfl) (by kernel_rfl) (fun _ _ _ h => h) (by kernel_rfl) ?_ (by assumption) ?_
      rotate_left
      · (intro w' hSw; (try dsimp only at hSw); first | (go_simp; done) | (go_simp; with_reducible rfl))
      (try simp only [Act.put]); (try simp only [List.setIfInBounds_toArray]); (try simp only [List.set_cons_succ]); (try simp only [List.set_cons_zero])
      refine Dp.take_yes (i := 19) (oi := ⟨some 67, _, _, _, _, _⟩) (v := ?_) rfl (by kernel_rfl) (by kernel_rfl) (by kernel_rfl) (fun _ _ _ h => h) (by kernel_rfl) ?_ (by assumption) ?_
      rotate_left
      · (intro w' hSw; (try dsimp only at hSw); first | (go_simp; done) | (go_simp; with_reducible rfl))
      (try simp only [Act.put]); (try simp only [List.setIfInBounds_toArray]); (try simp only [List.set_cons_succ]); (try simp only [List.set_cons_zero])
      refine Dp.take_yes (i := 21) (oi := ⟨some 69, _, _, _, _, _⟩) (v := ?_) rfl (by kernel_rfl) (by kernel_rfl) (by kernel_rfl) (fun _ _ _ h => h) (by kernel_rfl) ?_ (by assumption) ?_
      rotate_left
      · (intro w' hSw; (try dsimp only at hSw); first | (go_simp; done) | (go_simp; with_reducible rfl))
      (try simp only [Act.put]); (try simp only [List.setIfInBounds_toArray]); (try simp only [List.set_cons_succ]); (try simp only [List.set_cons_zero])
      refine wpAnyH_ready (rs := [20]) (by kernel_rfl) (by simp) ?_
      refine AllReadyH.cons (o := ⟨some 68, _, _, _, _, _⟩) rfl (fun K hK => ?_) AllReadyH.nil
      go_simp
      go_at_call 14
      refine (At.join_any jj kb jj (by have := hjab.out; have := hjj.out; omega) zj zb zj F3.out F5.out SB.out (by have := LJ.out; omega) (by have := LB.out; omega) pe pb ce cb _ (IE.out.kept k) (IB.out.kept k)).mono ?_
      rintro e y6 ⟨j4, d4, rfl, i4, hb⟩
      replace k := Dp.keep2 hb k
      clear hb
      (try go_wp2_with fail)
      refine hK.out _ _ (HC.out _ (by assumption)) (fun hHeld2 => ?_)
      clear hK hHeld; have hHeld := hHeld2; clear hHeld2
      (try simp only [Act.put]); (try simp only [List.setIfInBounds_toArray]); (try simp only [List.set_cons_succ]); (try simp only [List.set_cons_zero])
      refine wpAnyH_ready (rs := [22]) (by kernel_rfl) (by simp) ?_
      refine AllReadyH.cons (o := ⟨some 70, _, _, _, _, _⟩) rfl (fun K hK => ?_) AllReadyH.nil
      go_simp
      go_at_call 19
      refine (At.same_any jj jj zj zj true (decide_eq_true rfl) j4 pe d4 ce _ i4 (IE.out.kept k)).mono ?_
      rintro e y7 ⟨rfl, hb⟩
      replace k := Dp.keep2 hb k
      clear hb
      (try go_wp2_with fail)
      refine hK.out _ _ (HC.out _ (by assumption)) (fun hHeld2 => ?_)
      clear hK hHeld; have hHeld := hHeld2; clear hHeld2
      (try simp only [Act.put]); (try simp only [List.setIfInBounds_toArray]); (try simp only [List.set_cons_succ]); (try simp only [List.set_cons_zero])
      refine Dp.take_yes (i := 23) (oi := ⟨some 71, _, _, _, _, _⟩) (v := ?_) rfl (by kernel_rfl) (by kernel_rfl) (by kernel_rfl) (fun _ _ _ h => h) (by kernel_rfl) ?_ (by assumption) ?_
      rotate_left
      · (intro w' hSw; (try dsimp only at hSw); first | (go_simp; done) | (go_simp; with_reducible rfl))
      (try simp only [Act.put]); (try simp only [List.setIfInBounds_toArray]); (try simp only [List.set_cons_succ]); (try simp only [List.set_cons_zero])
      refine Dp.take_yes (i := 24) (oi := ⟨some 72, _, _, _, _, _⟩) (v := ?_) rfl (by kernel_rfl) (by kernel_rfl) (by kernel_rfl) (fun _ _ _ h => h) (by kernel_rfl) ?_ (by assumption) ?_
      rotate_left
      · (intro w' hSw; (try dsimp only at hSw); first | (go_simp; done) | (go_simp; with_reducible rfl))
      (try simp only [Act.put]); (try simp only [List.setIfInBounds_toArray]); (try simp only [List.set_cons_succ]); (try simp only [List.set_cons_zero])
      refine Dp.take_yes (i := 25) (oi := ⟨some 73, _, _, _, _, _⟩) (v := ?_) rfl (by kernel_rfl) (by kernel_rfl) (by kernel_rfl) (fun _ _ _ h => h) (by kernel_rfl) ?_ (by assumption) ?_
      rotate_left
      · (intro w' hSw; (try dsimp only at hSw); first | (go_simp; done) | (go_simp; with_reducible rfl))
      (try simp only [Act.put]); (try simp only [List.setIfInBounds_toArray]); (try simp only [List.set_cons_succ]); (try simp only [List.set_cons_zero])
      refine Dp.take_yes (i := 26) (oi := ⟨some 74, _, _, _, _, _⟩) (v := ?_) rfl (by kernel_rfl) (by kernel_rfl) (by kernel_rfl) (fun _ _ _ h => h) (by kernel_rfl) ?_ (by assumption) ?_
      rotate_left
      · (intro w' hSw; (try dsimp only at hSw); first | (go_simp; done) | (go_simp; with_reducible rfl))
      (try simp only [Act.put]); (try simp only [List.setIfInBounds_toArray]); (try simp only [List.set_cons_succ]); (try simp only [List.set_cons_zero])
      refine Dp.take_yes (i := 27) (oi := ⟨some 75, _, _, _, _, _⟩) (v := ?_) rfl (by kernel_rfl) (by kernel_rfl) (by kernel_rfl) (fun _ _ _ h => h) (by kernel_rfl) ?_ (by assumption) ?_
      rotate_left
      · (intro w' hSw; (try dsimp only at hSw); first | (go_simp; done) | (go_simp; with_reducible rfl))
      (try simp only [Act.put]); (try simp only [List.setIfInBounds_toArray]); (try simp only [List.set_cons_succ]); (try simp only [List.set_cons_zero])
      refine Dp.take_yes (i := 28) (oi := ⟨some 76, _, _, _, _, _⟩) (v := ?_) rfl (by kernel_rfl) (by kernel_rfl) (by kernel_rfl) (fun _ _ _ h => h) (by kernel_rfl) ?_ (by assumption) ?_
      rotate_left
      · (intro w' hSw; (try dsimp only at hSw); first | (go_simp; done) | (go_simp; with_reducible rfl))
      (try simp only [Act.put]); (try simp only [List.setIfInBounds_toArray]); (try simp only [List.set_cons_succ]); (try simp only [List.set_cons_zero])
      refine Dp.take_yes (i := 29) (oi := ⟨some 77, _, _, _, _, _⟩) (v := ?_) rfl (by kernel_rfl) (by kernel_rfl) (by kernel_rfl) (fun _ _ _ h => h) (by kernel_rfl) ?_ (by assumption) ?_
      rotate_left
      · (intro w' hSw; (try dsimp only at hSw); first | (go_simp; done) | (go_simp; with_reducible rfl))
      (try simp only [Act.put]); (try simp only [List.setIfInBounds_toArray]); (try simp only [List.set_cons_succ]); (try simp only [List.set_cons_zero])
      refine Dp.take_yes (i := 30) (oi := ⟨some 78, _, _, _, _, _⟩) (v := ?_) rfl (by kernel_rfl) (by kernel_rfl) (by kernel_rfl) (fun _ _ _ h => h) (by kernel_rfl) ?_ (by assumption) ?_
      rotate_left
      · (intro w' hSw; (try dsimp only at hSw); first | (go_simp; done) | (go_simp; with_reducible rfl))
      (try simp only [Act.put]); (try simp only [List.setIfInBounds_toArray]); (try simp only [List.set_cons_succ]); (try simp only [List.set_cons_zero])
      refine Dp.take_yes (i := 31) (oi := ⟨some 79, _, _, _, _, _⟩) (v := ?_) rfl (by kernel_rfl) (by kernel_rfl) (by kernel_rfl) (fun _ _ _ h => h) (by kernel_rfl) ?_ (by assumption) ?_
      rotate_left
      · (intro w' hSw; (try dsimp only at hSw); first | (go_simp; done) | (go_simp; with_reducible rfl))
      (try simp only [Act.put]); (try simp only [List.setIfInBounds_toArray]); (try simp only [List.set_cons_succ]); (try simp only [List.set_cons_zero])
      refine Dp.take_yes (i := 32) (oi := ⟨some 80, _, _, _, _, _⟩) (v := ?_) rfl (by kernel_rfl) (by kernel_rfl) (by kernel_rfl) (fun _ _ _ h => h) (by kernel_rfl) ?_ (by assumption) ?_
      rotate_left
      · (intro w' hSw; (try dsimp only at hSw); first | (go_simp; done) | (go_simp; with_reducible rfl))
      (try simp only [Act.put]); (try simp only [List.setIfInBounds_toArray]); (try simp only [List.set_cons_succ]); (try simp only [List.set_cons_zero])
      refine Dp.take_yes (i := 33) (oi := ⟨some 81, _, _, _, _, _⟩) (v := ?_) rfl (by kernel_rfl) (by kernel_rfl) (by kernel_rfl) (fun _ _ _ h => h) (by kernel_rfl) ?_ (by assumption) ?_
      rotate_left
      · (intro w' hSw; (try dsimp only at hSw); first | (go_simp; done) | (go_simp; with_reducible rfl))
      (try simp only [Act.put]); (try simp only [List.setIfInBounds_toArray]); (try simp only [List.set_cons_succ]); (try simp only [List.set_cons_zero])
      refine Dp.take_yes (i := 34) (oi := ⟨some 82, _, _, _, _, _⟩) (v := ?_) rfl (by kernel_rfl) (by kernel_rfl) (by kernel_rfl) (fun _ _ _ h => h) (by kernel_rfl) ?_ (by assumption) ?_
      rotate_left
      · (intro w' hSw; (try dsimp only at hSw); first | (go_simp; done) | (go_simp; with_reducible rfl))
      (try simp only [Act.put]); (try simp only [List.setIfInBounds_toArray]); (try simp only [List.set_cons_succ]); (try simp only [List.set_cons_zero])
      refine Dp.take_yes (i := 35) (oi := ⟨some 83, _, _, _, _, _⟩) (v := ?_) rfl (by kernel_rfl) (by kernel_rfl) (by kernel_rfl) (fun _ _ _ h => h) (by kernel_rfl) ?_ (by assumption) ?_
      rotate_left
      · (intro w' hSw; (try dsimp only at hSw); first | (go_simp; done) | (go_simp; with_reducible rfl))
      (try simp only [Act.put]); (try simp only [List.setIfInBounds_toArray]); (try simp only [List.set_cons_succ]); (try simp only [List.set_cons_zero])
      refine Dp.take_yes (i := 36) (oi := ⟨some 84, _, _, _, _, _⟩) (v := ?_) rfl (by kernel_rfl) (by kernel_rfl) (by kernel_rfl) (fun _ _ _ h => h) (by kernel_rfl) ?_ (by assumption) ?_
      rotate_left
      · (intro w' hSw; (try dsimp only at hSw); first | (go_simp; done) | (go_simp; with_reducible rfl))
      (try simp only [Act.put]); (try simp only [List.setIfInBounds_toArray]); (try simp only [List.set_cons_succ]); (try simp only [List.set_cons_zero])
      refine Dp.take_yes (i := 37) (oi := ⟨some 85, _, _, _, _, _⟩) (v := ?_) rfl (by kernel_rfl) (by kernel_rfl) (by kernel_rfl) (fun _ _ _ h => h) (by kernel_rfl) ?_ (by assumption) ?_
      rotate_left
      · (intro w' hSw; (try dsimp only at hSw); first | (go_simp; done) | (go_simp; with_reducible rfl))
      (try simp only [Act.put]); (try simp only [List.setIfInBounds_toArray]); (try simp only [List.set_cons_succ]); (try simp only [List.set_cons_zero])
      refine wpAnyH_ready (rs := [38]) (by kernel_rfl) (by simp) ?_
      refine AllReadyH.cons (o := ⟨some 86, _, _, _, _, _⟩) rfl (fun K hK => ?_) AllReadyH.nil
      go_simp
      go_at_call 17
      refine (At.right_any jj zj true HR.out pe ce _ (IE.out.kept k).toIds).mono ?_
      rintro e y8 ⟨rfl, hb⟩
      replace k := Dp.keep2 hb k
      clear hb
      (try go_wp2_with fail)
      refine hK.out _ _ (HC.out _ (by assumption)) (fun hHeld2 => ?_)
      clear hK hHeld; have hHeld := hHeld2; clear hHeld2
      (try simp only [Act.put]); (try simp only [List.setIfInBounds_toArray]); (try simp only [List.set_cons_succ]); (try simp only [List.set_cons_zero])
      refine Dp.take_yes (i := 39) (oi := ⟨some 87, _, _, _, _, _⟩) (v := ?_) rfl (by kernel_rfl) (by kernel_rfl) (by kernel_rfl) (fun _ _ _ h => h) (by kernel_rfl) ?_ (by assumption) ?_
      rotate_left
      · (intro w' hSw; (try dsimp only at hSw); first | (go_simp; done) | (go_simp; with_reducible rfl))
      (try simp only [Act.put]); (try simp only [List.setIfInBounds_toArray]); (try simp only [List.set_cons_succ]); (try simp only [List.set_cons_zero])
      refine Dp.take_yes (i := 40) (oi := ⟨some 88, _, _, _, _, _⟩) (v := ?_) rfl (by kernel_rfl) (by kernel_rfl) (by kernel_rfl) (fun _ _ _ h => h) (by kernel_rfl) ?_ (by assumption) ?_
      rotate_left
      · (intro w' hSw; (try dsimp only at hSw); first | (go_simp; done) | (go_simp; with_reducible rfl))
      (try simp only [Act.put]); (try simp only [List.setIfInBounds_toArray]); (try simp only [List.set_cons_succ]); (try simp only [List.set_cons_zero])
      refine Dp.take_yes (i := 41) (oi := ⟨some 89, _, _, _, _, _⟩) (v := ?_) rfl (by kernel_rfl) (by kernel_rfl) (by kernel_rfl) (fun _ _ _ h => h) (by kernel_rfl) ?_ (by assumption) ?_
      rotate_left
      · (intro w' hSw; (try dsimp only at hSw); first | (go_simp; done) | (go_simp; with_reducible rfl))
      (try simp only [Act.put]); (try simp only [List.setIfInBounds_toArray]); (try simp only [List.set_cons_succ]); (try simp only [List.set_cons_zero])
      refine Dp.take_yes (i := 42) (oi := ⟨some 90, _, _, _, _, _⟩) (v := ?_) rfl (by kernel_rfl) (by kernel_rfl) (by kernel_rfl) (fun _ _ _ h => h) (by kernel_rfl) ?_ (by assumption) ?_
      rotate_left
      · (intro w' hSw; (try dsimp only at hSw); first | (go_simp; done) | (go_simp; with_reducible rfl))
      (try simp only [Act.put]); (try simp only [List.setIfInBounds_toArray]); (try simp only [List.set_cons_succ]); (try simp only [List.set_cons_zero])
      refine wpAnyH_ready (rs := [43]) (by kernel_rfl) (by simp) ?_
      refine AllReadyH.cons (o := ⟨some 91, _, _, _, _, _⟩) rfl (fun K hK => ?_) AllReadyH.nil
      go_simp
      go_at_call 19
      refine (At.same_any ka ka za za true (decide_eq_true rfl) pa pa ca ca _ (IA.out.kept k) (IA.out.kept k)).mono ?_
      rintro e y9 ⟨rfl, hb⟩
      replace k := Dp.keep2 hb k
      clear hb
      (try go_wp2_with fail)
      refine hK.out _ _ (HC.out _ (by assumption)) (fun hHeld2 => ?_)
      clear hK hHeld; have hHeld := hHeld2; clear hHeld2
      (try simp only [Act.put]); (try simp only [List.setIfInBounds_toArray]); (try simp only [List.set_cons_succ]); (try simp only [List.set_cons_zero])
      refine Dp.take_yes (i := 44) (oi := ⟨some 92, _, _, _, _, _⟩) (v := ?_) rfl (by kernel_rfl) (by kernel_rfl) (by kernel_rfl) (fun _ _ _ h => h) (by kernel_rfl) ?_ (by assumption) ?_
      rotate_left
      · (intro w' hSw; (try dsimp only at hSw); first | (go_simp; done) | (go_simp; with_reducible rfl))
      (try simp only [Act.put]); (try simp only [List.setIfInBounds_toArray]); (try simp only [List.set_cons_succ]); (try simp only [List.set_cons_zero])
      refine Dp.take_yes (i := 45) (oi := ⟨some 6, _, _, _, _, _⟩) (v := ?_) rfl (by kernel_rfl) (by kernel_rfl) (by kernel_rfl) (fun _ _ _ h => h) (by kernel_rfl) ?_ (by assumption) ?_
      rotate_left
      · (intro w' hSw; (try dsimp only at hSw); first | (go_simp; done) | (go_simp; with_reducible rfl))
      (try simp only [Act.put]); (try simp only [List.setIfInBounds_toArray]); (try simp only [List.set_cons_succ]); (try simp only [List.set_cons_zero])
      refine wpAnyH_done (by kernel_rfl) ?_ _
      go_wp2
      go_ret
      exact ⟨rfl, B.out.trans (k.mono B.out.size)⟩

theorem laid_met (os : Os) : laidMet Tryd.prog Rows.attrJoinsRow.laid ((World.doorLaid Tryd.prog 24 os).forCall (fun _ _ => 0) ⟨#[], #[.agg #[.int .u32 0, .slice none 0 0, .bool false, .slice none 0 0], .agg #[.int .u32 0, .slice none 0 0, .bool false, .slice none 0 0], .agg #[.int .u32 0, .slice none 0 0, .bool false, .slice none 0 0]], []⟩).memory :=
  laidMet_of_run' 8 (by kernel_rfl) (by kernel_rfl)
theorem reads (os : Os) {H : Type} (enc : TypeId × Value → H) : ∃ places, DataW.whole enc Tryd.prog ((World.doorLaid Tryd.prog 24 os).forCall (fun _ _ => 0) ⟨#[], #[.agg #[.int .u32 0, .slice none 0 0, .bool false, .slice none 0 0], .agg #[.int .u32 0, .slice none 0 0, .bool false, .slice none 0 0], .agg #[.int .u32 0, .slice none 0 0, .bool false, .slice none 0 0]], []⟩).memory Tryd.f5.params.toList Rows.attrJoinsSpec.vars false (#[.agg #[.int .u32 0, .slice none 0 0, .bool false, .slice none 0 0], .agg #[.int .u32 0, .slice none 0 0, .bool false, .slice none 0 0], .agg #[.int .u32 0, .slice none 0 0, .bool false, .slice none 0 0]] : Array Value).toList 8 = some ([.agg [.agg [.lit (.int .u32 0), .nil], .lit (.bool false), .nil], .agg [.agg [.lit (.int .u32 0), .nil], .lit (.bool false), .nil], .agg [.agg [.lit (.int .u32 0), .nil], .lit (.bool false), .nil]], [], places) :=
  ⟨[], by kernel_rfl⟩

set_option maxRecDepth 100000 in
theorem lifted (os : Os) (started : os.Started) (H : Type) (enc : TypeId × Value → H) (F : Stop.Interp) :
    ReturnsInHanded {} Tryd.checked os 5 .any ((OpenSpec.ofChange Rows.attrJoinsSpec).preRow enc Tryd.prog Tryd.f5 Rows.attrJoinsRow.domain false Rows.attrJoinsRow.laid) (((OpenSpec.ofChange Rows.attrJoinsSpec).at F).post enc Tryd.prog Tryd.f5 false true false false) := by
  obtain ⟨places, hx⟩ := reads os enc
  refine returnsInHanded_of_row (C := Tryd.checked) (s := OpenSpec.ofChange Rows.attrJoinsSpec) own started (by kernel_rfl) Tryd.func5
    (witness_row_at (enc := enc) (C := Tryd.checked) false (World.doorLaid Tryd.prog 24 os) #[.agg #[.int .u32 0, .slice none 0 0, .bool false, .slice none 0 0], .agg #[.int .u32 0, .slice none 0 0, .bool false, .slice none 0 0], .agg #[.int .u32 0, .slice none 0 0, .bool false, .slice none 0 0]] rfl (by kernel_rfl) (by kernel_rfl) (by kernel_rfl)
      (OpenSpec.preRow_of_cond 8 hx (by kernel_rfl) (fun k hk => by cases hk) (by kernel_rfl) (laid_met os))) ?_
  intro W base args ds gs before hval0 hW _ _ hsz0 hL _ _
  have hval : ∀ (j : Nat) t v, Tryd.f5.params[j]? = some t → args[j]? = some v → Value.okWide Tryd.prog W .any base t v := hval0
  have hsz : (DataW.weightsEach Tryd.prog (Tryd.f5.params.toList ++ Rows.attrJoinsSpec.plain.varTypes Tryd.prog) (ds ++ gs)).all (· ≤ reachBytes) = true := hsz0
  have hW' := hW
  obtain ⟨p, q, hA0, hV, rfl, hfz, hnd⟩ := hW
  have hA : DataW.TrodAll enc Tryd.prog W 0 (fun _ => true) true Tryd.f5.params.toList args.toList ds p := hA0
  rw [Tryd.params5] at hA hval hsz
  obtain ⟨v0, vs0, d0, ds0, p0, q0, hargs, rfl, rfl, h0, r0⟩ := trodAll_cons hA
  obtain ⟨v1, vs1, d1, ds1, p1, q1, rfl, rfl, rfl, h1, r1⟩ := trodAll_cons r0
  obtain ⟨v2, vs2, d2, ds2, p2, q2, rfl, rfl, rfl, h2, r2⟩ := trodAll_cons r1
  obtain ⟨rfl, rfl, rfl⟩ := trodAll_nil r2
  obtain rfl : args = #[v0, v1, v2] := by cases args; simp_all
  obtain ⟨rfl, rfl⟩ := trodVars_none hV
  have k0 := h0
  have lt0 : ∀ x ∈ p0, x.block < W.heap.size := by obtain ⟨m, hm⟩ := k0; exact DataW.trod_lt m _ _ _ hm
  have k1 := h1
  have lt1 : ∀ x ∈ p1, x.block < W.heap.size := by obtain ⟨m, hm⟩ := k1; exact DataW.trod_lt m _ _ _ hm
  have k2 := h2
  have lt2 : ∀ x ∈ p2, x.block < W.heap.size := by obtain ⟨m, hm⟩ := k2; exact DataW.trod_lt m _ _ _ hm
  obtain ⟨c0_0, c0_1, c0_2, c0_3, y0_0, y0_1, y0_2, y0_3, n0, m0, rfl, rfl, g0_0, g0_1, g0_2, g0_3⟩ := Rw.open_nest2 Tryd.underlying28 Tryd.underlying25 rfl rfl rfl (by kernel_rfl) (by kernel_rfl) (by kernel_rfl) (by kernel_rfl) (by kernel_rfl) (hval 0 28 v0 rfl rfl) h0
  obtain ⟨a0_0, e0_0, rfl, w0_0⟩ := DataW.trod_int Tryd.underlying22 g0_0
  obtain rfl : c0_0 = .int .u32 a0_0 := by simpa using e0_0
  obtain ⟨a0_1, len0_1, cap0_1, e0_1, w0_1, l0_1, m0_1, o0_1⟩ := Rw.pairs_of Tryd.underlying23 Tryd.underlying58 (by kernel_rfl) rfl rfl (by kernel_rfl) (by kernel_rfl) Tryd.underlying3 Tryd.underlying3 g0_1
  obtain rfl : c0_1 = .slice a0_1 len0_1 cap0_1 := e0_1
  obtain ⟨a0_2, e0_2, rfl⟩ := DataW.trod_bool Tryd.underlying4 g0_2
  obtain rfl : c0_2 = .bool a0_2 := by simpa using e0_2
  obtain ⟨a0_3, len0_3, cap0_3, e0_3, w0_3, l0_3, m0_3⟩ := Rw.ints_of Tryd.underlying26 Tryd.underlying5 (by kernel_rfl) g0_3
  obtain rfl : c0_3 = .slice a0_3 len0_3 cap0_3 := e0_3
  obtain ⟨c1_0, c1_1, c1_2, c1_3, y1_0, y1_1, y1_2, y1_3, n1, m1, rfl, rfl, g1_0, g1_1, g1_2, g1_3⟩ := Rw.open_nest2 Tryd.underlying28 Tryd.underlying25 rfl rfl rfl (by kernel_rfl) (by kernel_rfl) (by kernel_rfl) (by kernel_rfl) (by kernel_rfl) (hval 1 28 v1 rfl rfl) h1
  obtain ⟨a1_0, e1_0, rfl, w1_0⟩ := DataW.trod_int Tryd.underlying22 g1_0
  obtain rfl : c1_0 = .int .u32 a1_0 := by simpa using e1_0
  obtain ⟨a1_1, len1_1, cap1_1, e1_1, w1_1, l1_1, m1_1, o1_1⟩ := Rw.pairs_of Tryd.underlying23 Tryd.underlying58 (by kernel_rfl) rfl rfl (by kernel_rfl) (by kernel_rfl) Tryd.underlying3 Tryd.underlying3 g1_1
  obtain rfl : c1_1 = .slice a1_1 len1_1 cap1_1 := e1_1
  obtain ⟨a1_2, e1_2, rfl⟩ := DataW.trod_bool Tryd.underlying4 g1_2
  obtain rfl : c1_2 = .bool a1_2 := by simpa using e1_2
  obtain ⟨a1_3, len1_3, cap1_3, e1_3, w1_3, l1_3, m1_3⟩ := Rw.ints_of Tryd.underlying26 Tryd.underlying5 (by kernel_rfl) g1_3
  obtain rfl : c1_3 = .slice a1_3 len1_3 cap1_3 := e1_3
  obtain ⟨c2_0, c2_1, c2_2, c2_3, y2_0, y2_1, y2_2, y2_3, n2, m2, rfl, rfl, g2_0, g2_1, g2_2, g2_3⟩ := Rw.open_nest2 Tryd.underlying28 Tryd.underlying25 rfl rfl rfl (by kernel_rfl) (by kernel_rfl) (by kernel_rfl) (by kernel_rfl) (by kernel_rfl) (hval 2 28 v2 rfl rfl) h2
  obtain ⟨a2_0, e2_0, rfl, w2_0⟩ := DataW.trod_int Tryd.underlying22 g2_0
  obtain rfl : c2_0 = .int .u32 a2_0 := by simpa using e2_0
  obtain ⟨a2_1, len2_1, cap2_1, e2_1, w2_1, l2_1, m2_1, o2_1⟩ := Rw.pairs_of Tryd.underlying23 Tryd.underlying58 (by kernel_rfl) rfl rfl (by kernel_rfl) (by kernel_rfl) Tryd.underlying3 Tryd.underlying3 g2_1
  obtain rfl : c2_1 = .slice a2_1 len2_1 cap2_1 := e2_1
  obtain ⟨a2_2, e2_2, rfl⟩ := DataW.trod_bool Tryd.underlying4 g2_2
  obtain rfl : c2_2 = .bool a2_2 := by simpa using e2_2
  obtain ⟨a2_3, len2_3, cap2_3, e2_3, w2_3, l2_3, m2_3⟩ := Rw.ints_of Tryd.underlying26 Tryd.underlying5 (by kernel_rfl) g2_3
  obtain rfl : c2_3 = .slice a2_3 len2_3 cap2_3 := e2_3
  clear hA0 hval0
  refine (walk a0_0 a0_1 len0_1 cap0_1 a0_2 a0_3 len0_3 cap0_3 a1_0 a1_1 len1_1 cap1_1 a1_2 a1_3 len1_3 cap1_3 a2_0 a2_1 len2_1 cap2_1 a2_2 a2_3 len2_3 cap2_3 W w0_0 w0_1 l0_1 m0_1 o0_1 w0_3 l0_3 m0_3 w1_0 w1_1 l1_1 m1_1 o1_1 w1_3 l1_3 m1_3 w2_0 w2_1 l2_1 m2_1 o2_1 w2_3 l2_3 m2_3 (Bl.tab_of hL)).mono fun e W' ⟨he, bel⟩ => ?_
  subst he
  exact ⟨_, rfl, _, _, _, [], _, [], hW', trodAll_mk1 (shut_bool Tryd.underlying4 _), (trodAll_cons_mk (Below.trod laidOut (by kernel_rfl) (of_decide_eq_true (by kernel_rfl)) k0 bel lt0) (trodAll_cons_mk (Below.trod laidOut (by kernel_rfl) (of_decide_eq_true (by kernel_rfl)) k1 bel lt1) (trodAll_cons_mk (Below.trod laidOut (by kernel_rfl) (of_decide_eq_true (by kernel_rfl)) k2 bel lt2) trodAll_mk0))), rfl, bel.frame _, fun h => by cases h⟩

theorem over : Rows.attrJoinsRow.holds Tryd.pinned (OpenSpec.ofChange Rows.attrJoinsSpec) :=
  OpenClaim.holds_of_cond 5 Tryd.f5 rfl rfl rfl rfl rfl rfl rfl ⟨rfl, rfl, rfl, rfl, rfl⟩ rfl rfl rfl rfl rfl (by kernel_rfl) Tryd.func5 (by kernel_rfl)
    (of_decide_eq_true (by kernel_rfl)) (by unfold Func.isWrapper; first | (rw [if_pos (by decide +kernel)]; kernel_rfl) | (rw [if_neg (by decide +kernel)]; exact ⟨rfl, rfl⟩))
    (fun os started H enc _ F => by rw [OpenClaim.pre_eq_preRow]; exact lifted os started H enc F)

/-- No parameter wants a stand-in. -/
theorem plain (f : FuncId) (fn : Func) (hf : Tryd.pinned.checked.prog.funcNamed "comitia/comitialaw09.AttrJoins" = some f) (hfn : Tryd.pinned.checked.prog.funcs[f]? = some fn) :
    false = Tryd.pinned.checked.prog.looks [] ∧ ∀ (j : Nat) t, fn.params[j]? = some t → Tryd.pinned.checked.prog.wantsStandIn t = false := by
  obtain rfl : f = 5 := Option.some.inj ((show Tryd.prog.funcNamed "comitia/comitialaw09.AttrJoins" = some 5 by kernel_rfl).symm.trans hf) |>.symm
  obtain rfl : fn = Tryd.f5 := (Option.some.inj (Tryd.func5.symm.trans hfn)).symm
  refine ⟨by kernel_rfl, fun j t ht => ?_⟩
  rw [Tryd.params5] at ht
  have hm : t ∈ [28, 28, 28] := by simpa using Array.mem_of_getElem? ht
  have hall : ([28, 28, 28].all fun u => !Tryd.prog.wantsStandIn u) = true := by kernel_rfl
  exact (show Tryd.prog.wantsStandIn t = false by simpa using List.all_eq_true.1 hall t hm)

theorem proved : Rows.AttrJoinsCardSaid :=
  Claim7.holds_tied_plain_at .later [] _ _ _ _ over (fun _ h => by cases h) (by kernel_rfl) (fun _ h => by cases h) attrJoins_row_tie rfl ⟨rfl, rfl⟩ (by kernel_rfl) rfl plain (by kernel_rfl)
end Go.Proofs.YtkemljpjfbmjgaaDoor.attrJoins
