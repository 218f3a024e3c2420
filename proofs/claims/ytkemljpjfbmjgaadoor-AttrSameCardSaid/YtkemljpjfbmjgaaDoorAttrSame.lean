/-
  Proved: for every two numbers with lists of pairs, flags and slices of bytes, and flag, the law AttrSame returns true and leaves its inputs as they were; the card ties the three tables of the library that the row lists to the text of the program. No condition beyond the form itself (each text at most 2^47 - 4096 bytes; the listed tables start as that text lays them).
-/
import Derived.Test.YtkemljpjfbmjgaaDoorAttrL
import Derived.Test.YtkemljpjfbmjgaaDoorAttrA
import Derived.Test.YtkemljpjfbmjgaaDoorSpan
import Derived.Test.YtkemljpjfbmjgaaDoorBox
import Derived.Test.YtkemljpjfbmjgaaDoorTab
import Derived.Test.YtkemljpjfbmjgaaDoorDepsD
import Derived.Test.YtkemljpjfbmjgaaDoorCards
import Derived.Test.YtkemljpjfbmjgaaDoorTie
import Derived.Deep.DeepHandedRow
import Derived.LaidMore
import Derived.SevenTiedAt
import Derived.WalkKit
import Derived.ProofKit
import Derived.OpenShut
import Derived.ShutString
import Derived.SizedLaws
import Derived.ChangeOld
import Derived.Below
import Derived.Carry
import Derived.Lib.SmallJoins
import Derived.Deep.SlicePairs
import Derived.SliceStrings
import Derived.ChangeSlices
namespace Go.Proofs.YtkemljpjfbmjgaaDoor.attrSame
open Go.ChangeShapes Go.WideShapes Go.ChangeAt Go.RowKit Go.Joins Go.Deep
open Go.ChangeMaps (open_string shut_string)
set_option linter.unusedVariables false

theorem own : ownKnob Tryd.prog.godebug = none := by kernel_rfl
theorem laidOut : laidOutB Tryd.prog = true := by kernel_rfl

theorem same_put (a b : At.AT) (s t : ByteArray) (q : Bool) (ha : a.1 < 4294967296) (hb : b.1 < 4294967296) (h : At.putA a = (s, true)) (k : At.putA b = (t, true)) (hq : decide (a = b) = q) : (s.toList == t.toList) = q := by
  rw [← hq, Bool.eq_iff_iff, beq_iff_eq, decide_eq_true_eq, ByteArray.toList_eq, ByteArray.toList_eq]
  constructor
  · intro e
    have e2 : s = t := ByteArray.ext (Array.ext' e)
    exact At.put_inj a b s ha hb h (by rw [k, e2])
  · rintro rfl
    rw [h] at k
    rw [(Prod.mk.inj k).1]
theorem same_text (a b : At.AT) (s t : ByteArray) (q : Bool) (ha : Dp.IsSet a.2) (hb : Dp.IsSet b.2) (h : (⟨(At.textA a).toArray⟩ : ByteArray) = s) (k : (⟨(At.textA b).toArray⟩ : ByteArray) = t) (hq : decide (a = b) = q) : (s.toList == t.toList) = q := by
  rw [← hq, Bool.eq_iff_iff, beq_iff_eq, decide_eq_true_eq, ByteArray.toList_eq, ByteArray.toList_eq, ← h, ← k]
  constructor
  · intro e; exact At.text_inj a b ha hb (by simpa using e)
  · rintro rfl; rfl

set_option maxRecDepth 100000 in
set_option maxHeartbeats 4000000 in
theorem walk (a0_0 : Int) (a0_1 : Option Addr) (len0_1 cap0_1 : Nat) (a0_2 : Bool) (a0_3 : Option Addr) (len0_3 cap0_3 : Nat) (a1_0 : Int) (a1_1 : Option Addr) (len1_1 cap1_1 : Nat) (a1_2 : Bool) (a1_3 : Option Addr) (len1_3 cap1_3 : Nat) (a2 : Bool) (w : World) (w0_0 : (Lit.int .u32 a0_0).wf = true) (w0_1 : ∀ i, i < len0_1 → ∃ (x : Addr) (e0 e1 : Int), a0_1 = some x ∧ x.block < w.heap.size ∧ w.cell? (x.add (i * 2)) = some (.int .i64 e0) ∧ w.cell? (x.add (i * 2 + 1)) = some (.int .i64 e1) ∧ (Lit.int .i64 e0).wf = true ∧ (Lit.int .i64 e1).wf = true) (l0_1 : len0_1 ≤ cap0_1) (m0_1 : cap0_1 ≤ maxLen) (o0_1 : a0_1 = none → cap0_1 = 0) (w0_3 : ∀ i, i < len0_3 → ∃ (x : Addr) (e0 : Int), a0_3 = some x ∧ x.block < w.heap.size ∧ w.cell? (x.add i) = some (.int .u8 e0) ∧ (Lit.int .u8 e0).wf = true) (l0_3 : len0_3 ≤ cap0_3) (m0_3 : cap0_3 ≤ maxLen) (w1_0 : (Lit.int .u32 a1_0).wf = true) (w1_1 : ∀ i, i < len1_1 → ∃ (x : Addr) (e0 e1 : Int), a1_1 = some x ∧ x.block < w.heap.size ∧ w.cell? (x.add (i * 2)) = some (.int .i64 e0) ∧ w.cell? (x.add (i * 2 + 1)) = some (.int .i64 e1) ∧ (Lit.int .i64 e0).wf = true ∧ (Lit.int .i64 e1).wf = true) (l1_1 : len1_1 ≤ cap1_1) (m1_1 : cap1_1 ≤ maxLen) (o1_1 : a1_1 = none → cap1_1 = 0) (w1_3 : ∀ i, i < len1_3 → ∃ (x : Addr) (e0 : Int), a1_3 = some x ∧ x.block < w.heap.size ∧ w.cell? (x.add i) = some (.int .u8 e0) ∧ (Lit.int .u8 e0).wf = true) (l1_3 : len1_3 ≤ cap1_3) (m1_3 : cap1_3 ≤ maxLen) (ht : Bl.Tab w) :
    Calls Tryd.prog 7 #[.agg #[.int .u32 a0_0, .slice a0_1 len0_1 cap0_1, .bool a0_2, .slice a0_3 len0_3 cap0_3], .agg #[.int .u32 a1_0, .slice a1_1 len1_1 cap1_1, .bool a1_2, .slice a1_3 len1_3 cap1_3], .bool a2] w fun e w' => e = .returned (.bool true) ∧ Below w.heap.size w w' := by
  obtain ⟨na, rfl, hna⟩ := At.nat_of w0_0
  obtain ⟨ba, rfl, hba⟩ := Dp.Bts.of w0_3
  have TA := Lib.hid hba
  obtain ⟨za, hza⟩ : ∃ z, Hid (Dp.fewD (ba.take 20) = z) := ⟨_, Lib.hid rfl⟩
  obtain ⟨ka, hka⟩ : ∃ k, Hid (na % 5 = k) := ⟨_, Lib.hid rfl⟩
  have FA := At.few_facts hza.out
  have ua : ka < 4294967296 := by have := hka.out; omega
  clear hba w0_0 w0_3 w0_1
  obtain ⟨nb, rfl, hnb⟩ := At.nat_of w1_0
  obtain ⟨bb, rfl, hbb⟩ := Dp.Bts.of w1_3
  have TB := Lib.hid hbb
  obtain ⟨zb, hzb⟩ : ∃ z, Hid (Dp.fewD (bb.take 20) = z) := ⟨_, Lib.hid rfl⟩
  obtain ⟨kb, hkb⟩ : ∃ k, Hid (nb % 5 = k) := ⟨_, Lib.hid rfl⟩
  have FB := At.few_facts hzb.out
  have ub : kb < 4294967296 := by have := hkb.out; omega
  clear hbb w1_0 w1_3 w1_1
  obtain ⟨sa, hsa0, lsa⟩ := At.put_yes ka za FA.1 FA.2.2.2
  have hsa := Lib.hid hsa0
  have HT := Lib.hid ht
  clear hsa0 lsa ht
  go_enter Tryd.func7, Tryd.ntmps7
  go_wp2_with fail
  have RA := Lib.hid ((At.row_new w (.int .u32 na) (.slice a0_1 len0_1 cap0_1) (.bool a0_2) (.slice a0_3 ba.length cap0_3) 28).alloc (.cells #[.int .u32 nb, .slice a1_1 len1_1 cap1_1, .bool a1_2, .slice a1_3 bb.length cap1_3] 28))
  have RB := Lib.hid (At.row_newAt (w.alloc (.cells #[.int .u32 na, .slice a0_1 len0_1 cap0_1, .bool a0_2, .slice a0_3 ba.length cap0_3] 28)) (.int .u32 nb) (.slice a1_1 len1_1 cap1_1) (.bool a1_2) (.slice a1_3 bb.length cap1_3) 28 (w.heap.size + 1) (by simp))
  have B := Lib.hid (Bl.below_2 w (.cells #[.int .u32 na, .slice a0_1 len0_1 cap0_1, .bool a0_2, .slice a0_3 ba.length cap0_3] 28) (.cells #[.int .u32 nb, .slice a1_1 len1_1 cap1_1, .bool a1_2, .slice a1_3 bb.length cap1_3] 28))
  generalize (w.alloc (.cells #[.int .u32 na, .slice a0_1 len0_1 cap0_1, .bool a0_2, .slice a0_3 ba.length cap0_3] 28)).alloc (.cells #[.int .u32 nb, .slice a1_1 len1_1 cap1_1, .bool a1_2, .slice a1_3 bb.length cap1_3] 28) = v0 at *
  refine (At.examples_any v0 (HT.out.over B.out)).mono ?_
  rintro e v1 ⟨rfl, hb⟩
  replace RA := Lib.hid (RA.out.over hb)
  replace RB := Lib.hid (RB.out.over hb)
  replace B := Lib.hid (B.out.trans (hb.mono B.out.size))
  clear hb
  have ⟨ra0, ra1, ra2, ra3, ra4, ra5⟩ := At.row_four RA.out
  have ⟨rb0, rb1, rb2, rb3, rb4, rb5⟩ := At.row_four RB.out
  go_wp2_with fail
  clear ra0 ra1 ra2 ra3 ra4 ra5 rb0 rb1 rb2 rb3 rb4 rb5
  replace B := Lib.hid (At.below_own (At.below_own B.out (k := w.heap.size) (Nat.le_refl _) (.bool true)) (k := w.heap.size + 1) (Nat.le_succ _) (.bool true))
  replace RA := Lib.hid ((At.row_own RA.out (.bool true)).far ⟨w.heap.size + 1, 2, none⟩ (by simp) (.bool true))
  replace RB := Lib.hid (At.row_own (RB.out.far ⟨w.heap.size, 2, none⟩ (by simp) (.bool true)) (.bool true))
  generalize (v1.setCell ⟨w.heap.size, 2, none⟩ (.bool true)).setCell ⟨w.heap.size + 1, 2, none⟩ (.bool true) = w1 at *
  refine (At.attr_own na ka hka.out ba za hza.out a0_1 len0_1 cap0_1 a0_3 cap0_3 l0_3 m0_3 w1 (TA.out.kept B.out)).mono ?_
  rintro e v2 ⟨pa, ca, rfl, ia, hb⟩
  replace RA := Lib.hid (RA.out.over hb)
  replace RB := Lib.hid (RB.out.over hb)
  replace B := Lib.hid (B.out.trans (hb.mono B.out.size))
  clear hb
  have IA := Lib.hid ia
  clear ia
  have ⟨rb0, rb1, rb2, rb3, rb4, rb5⟩ := At.row_four RB.out
  go_wp2_with fail
  have hb := Bl.below_1 v2 (.cells #[.int .u32 ka, .slice pa za.length ca] 25)
  clear rb0 rb1 rb2 rb3 rb4 rb5
  replace RA := Lib.hid (RA.out.over hb)
  replace RB := Lib.hid (RB.out.over hb)
  replace IA := Lib.hid (IA.out.kept hb)
  replace B := Lib.hid (B.out.trans (hb.mono B.out.size))
  have PA := Lib.hid (Bl.Pair.newAt (v2) (.int .u32 ka) (.slice pa za.length ca) 25 (v2.heap.size) (by simp))
  generalize v2.alloc (.cells #[.int .u32 ka, .slice pa za.length ca] 25) = v3 at *
  generalize v2.heap.size = g3 at *
  clear hb
  refine (At.attr_own nb kb hkb.out bb zb hzb.out a1_1 len1_1 cap1_1 a1_3 cap1_3 l1_3 m1_3 v3 (TB.out.kept B.out)).mono ?_
  rintro e v4 ⟨pb, cb, rfl, ib, hb⟩
  replace RA := Lib.hid (RA.out.over hb)
  replace RB := Lib.hid (RB.out.over hb)
  replace IA := Lib.hid (IA.out.kept hb)
  replace PA := Lib.hid (PA.out.over hb)
  replace B := Lib.hid (B.out.trans (hb.mono B.out.size))
  clear hb
  have IB := Lib.hid ib
  clear ib
  have ⟨pa_0, pa_1, pa_2, pa_3, pa_4⟩ := PA.out
  cases a2 with
  | false =>
    go_wp2_with fail
    have hb := Bl.below_1 v4 (.cells #[.int .u32 kb, .slice pb zb.length cb] 25)
    clear pa_0 pa_1 pa_2 pa_3 pa_4
    replace RA := Lib.hid (RA.out.over hb)
    replace RB := Lib.hid (RB.out.over hb)
    replace IA := Lib.hid (IA.out.kept hb)
    replace PA := Lib.hid (PA.out.over hb)
    replace IB := Lib.hid (IB.out.kept hb)
    replace B := Lib.hid (B.out.trans (hb.mono B.out.size))
    have PB := Lib.hid (Bl.Pair.newAt (v4) (.int .u32 kb) (.slice pb zb.length cb) 25 (v4.heap.size) (by simp))
    generalize v4.alloc (.cells #[.int .u32 kb, .slice pb zb.length cb] 25) = v5 at *
    generalize v4.heap.size = g5 at *
    clear hb
    obtain ⟨sb, hsb, lsb⟩ := At.put_yes kb zb FB.1 FB.2.2.2
    obtain ⟨q, hq⟩ : ∃ q, Hid (decide (((ka, za) : At.AT) = (kb, zb)) = q) := ⟨_, Lib.hid rfl⟩
    obtain ⟨ta, hta⟩ : ∃ t, Hid ((⟨(At.textA (ka, za)).toArray⟩ : ByteArray) = t) := ⟨_, Lib.hid rfl⟩
    obtain ⟨tb, htb⟩ : ∃ t, Hid ((⟨(At.textA (kb, zb)).toArray⟩ : ByteArray) = t) := ⟨_, Lib.hid rfl⟩
    have e1 := same_put (ka, za) (kb, zb) sa sb q ua ub hsa.out hsb hq.out
    have e2 := same_text (ka, za) (kb, zb) ta tb q FA.1 FB.1 hta.out htb.out hq.out
    have LA : Hid (za.length ≤ 36) := Lib.hid FA.2.1
    have LZ : Hid (zb.length ≤ 36) := Lib.hid FB.2.1
    have HSA := Lib.hid FA.1
    have JN : Hid (Dp.joinD za [] = za) := Lib.hid (Prod.mk.inj (At.join_nil (a := (ka, za)) FA.1)).2
    have NJ : Hid (Dp.joinD [] za = za) := Lib.hid (Prod.mk.inj (At.nil_join (a := (ka, za)) FA.1)).2
    have GA := Lib.hid FA.2.2.1
    have GZ := Lib.hid FB.2.2.1
    have HSB := Lib.hid hsb
    clear hsb lsb FA FB
    go_wp2_with fail
    refine (At.put_any ka ua za sa true hsa.out (by have := LA.out; omega) pa ca v5 IA.out.toIds).mono ?_
    rintro e v6 ⟨rfl, hb⟩
    replace RA := Lib.hid (RA.out.over hb)
    replace RB := Lib.hid (RB.out.over hb)
    replace IA := Lib.hid (IA.out.kept hb)
    replace PA := Lib.hid (PA.out.over hb)
    replace IB := Lib.hid (IB.out.kept hb)
    replace PB := Lib.hid (PB.out.over hb)
    replace B := Lib.hid (B.out.trans (hb.mono B.out.size))
    clear hb
    have ⟨pb_0, pb_1, pb_2, pb_3, pb_4⟩ := PB.out
    go_wp2_with fail
    refine (At.put_any kb ub zb sb true HSB.out (by have := LZ.out; omega) pb cb v6 IB.out.toIds).mono ?_
    rintro e v7 ⟨rfl, hb⟩
    clear pb_0 pb_1 pb_2 pb_3 pb_4
    replace RA := Lib.hid (RA.out.over hb)
    replace RB := Lib.hid (RB.out.over hb)
    replace IA := Lib.hid (IA.out.kept hb)
    replace PA := Lib.hid (PA.out.over hb)
    replace IB := Lib.hid (IB.out.kept hb)
    replace PB := Lib.hid (PB.out.over hb)
    replace B := Lib.hid (B.out.trans (hb.mono B.out.size))
    clear hb
    go_wp2_with fail
    have HC : Hid (∀ w', Below v7.heap.size v7 w' → w'.cell? ⟨g3, 0, none⟩ = some (.int .u32 ka) ∧ w'.cell? ⟨g3, 1, none⟩ = some (.slice pa za.length ca) ∧ w'.cell? ⟨g5, 0, none⟩ = some (.int .u32 kb) ∧ w'.cell? ⟨g5, 1, none⟩ = some (.slice pb zb.length cb)) := Lib.hid (fun w' h => ⟨(PA.out.over h).2.1, (PA.out.over h).2.2.1, (PB.out.over h).2.1, (PB.out.over h).2.2.1⟩)
    have k : Below v7.heap.size v7 v7.drew := (Below.refl _ _).drew
    refine wp_region_held_drew (S := fun w' => w'.cell? ⟨g3, 0, none⟩ = some (.int .u32 ka) ∧ w'.cell? ⟨g3, 1, none⟩ = some (.slice pa za.length ca) ∧ w'.cell? ⟨g5, 0, none⟩ = some (.int .u32 kb) ∧ w'.cell? ⟨g5, 1, none⟩ = some (.slice pb zb.length cb)) (by kernel_rfl) (HC.out _ k) (fun hHeld => ?_)
    refine Dp.take_yes (i := 0) (oi := ⟨some 37, _, _, _, _, _⟩) (v := ?_) rfl (by kernel_rfl) (by kernel_rfl) (by kernel_rfl) (fun _ _ _ h => h) (by kernel_rfl) ?_ (by assumption) ?_
    rotate_left
    · (intro w' hSw; (try dsimp only at hSw); first | (go_simp; done) | (go_simp; with_reducible rfl))
    (try simp only [Act.put]); (try simp only [List.setIfInBounds_toArray]); (try simp only [List.set_cons_succ]); (try simp only [List.set_cons_zero])
    refine Dp.take_yes (i := 1) (oi := ⟨some 38, _, _, _, _, _⟩) (v := ?_) rfl (by kernel_rfl) (by kernel_rfl) (by kernel_rfl) (fun _ _ _ h => h) (by kernel_rfl) ?_ (by assumption) ?_
    rotate_left
    · (intro w' hSw; (try dsimp only at hSw); first | (go_simp; done) | (go_simp; with_reducible rfl))
    (try simp only [Act.put]); (try simp only [List.setIfInBounds_toArray]); (try simp only [List.set_cons_succ]); (try simp only [List.set_cons_zero])
    refine Dp.take_yes (i := 2) (oi := ⟨some 39, _, _, _, _, _⟩) (v := ?_) rfl (by kernel_rfl) (by kernel_rfl) (by kernel_rfl) (fun _ _ _ h => h) (by kernel_rfl) ?_ (by assumption) ?_
    rotate_left
    · (intro w' hSw; (try dsimp only at hSw); first | (go_simp; done) | (go_simp; with_reducible rfl))
    (try simp only [Act.put]); (try simp only [List.setIfInBounds_toArray]); (try simp only [List.set_cons_succ]); (try simp only [List.set_cons_zero])
    refine Dp.take_yes (i := 3) (oi := ⟨some 40, _, _, _, _, _⟩) (v := ?_) rfl (by kernel_rfl) (by kernel_rfl) (by kernel_rfl) (fun _ _ _ h => h) (by kernel_rfl) ?_ (by assumption) ?_
    rotate_left
    · (intro w' hSw; (try dsimp only at hSw); first | (go_simp; done) | (go_simp; with_reducible rfl))
    (try simp only [Act.put]); (try simp only [List.setIfInBounds_toArray]); (try simp only [List.set_cons_succ]); (try simp only [List.set_cons_zero])
    refine Dp.take_yes (i := 4) (oi := ⟨some 41, _, _, _, _, _⟩) (v := ?_) rfl (by kernel_rfl) (by kernel_rfl) (by kernel_rfl) (fun _ _ _ h => h) (by kernel_rfl) ?_ (by assumption) ?_
    rotate_left
    · (intro w' hSw; (try dsimp only at hSw); first | (go_simp; done) | (go_simp; with_reducible rfl))
    (try simp only [Act.put]); (try simp only [List.setIfInBounds_toArray]); (try simp only [List.set_cons_succ]); (try simp only [List.set_cons_zero])
    refine Dp.take_yes (i := 5) (oi := ⟨some 42, _, _, _, _, _⟩) (v := ?_) rfl (by kernel_rfl) (by kernel_rfl) (by kernel_rfl) (fun _ _ _ h => h) (by kernel_rfl) ?_ (by assumption) ?_
    rotate_left
    · (intro w' hSw; (try dsimp only at hSw); first | (go_simp; done) | (go_simp; with_reducible rfl))
    (try simp only [Act.put]); (try simp only [List.setIfInBounds_toArray]); (try simp only [List.set_cons_succ]); (try simp only [List.set_cons_zero])
    refine Dp.take_yes (i := 6) (oi := ⟨some 43, _, _, _, _, _⟩) (v := ?_) rfl (by kernel_rfl) (by kernel_rfl) (by kernel_rfl) (fun _ _ _ h => h) (by kernel_rfl) ?_ (by assumption) ?_
    rotate_left
    · (intro w' hSw; (try dsimp only at hSw); first | (go_simp; done) | (go_simp; with_reducible rfl))
    (try simp only [Act.put]); (try simp only [List.setIfInBounds_toArray]); (try simp only [List.set_cons_succ]); (try simp only [List.set_cons_zero])
    refine Dp.take_yes (i := 7) (oi := ⟨some 44, _, _, _, _, _⟩) (v := ?_) rfl (by kernel_rfl) (by kernel_rfl) (by kernel_rfl) (fun _ _ _ h => h) (by kernel_rfl) ?_ (by assumption) ?_
    rotate_left
    · (intro w' hSw; (try dsimp only at hSw); first | (go_simp; done) | (go_simp; with_reducible rfl))
    (try simp only [Act.put]); (try simp only [List.setIfInBounds_toArray]); (try simp only [List.set_cons_succ]); (try simp only [List.set_cons_zero])
    refine Dp.take_yes (i := 8) (oi := ⟨some 45, _, _, _, _, _⟩) (v := ?_) rfl (by kernel_rfl) (by kernel_rfl) (by kernel_rfl) (fun _ _ _ h => h) (by kernel_rfl) ?_ (by assumption) ?_
    rotate_left
    · (intro w' hSw; (try dsimp only at hSw); first | (go_simp; done) | (go_simp; with_reducible rfl))
    (try simp only [Act.put]); (try simp only [List.setIfInBounds_toArray]); (try simp only [List.set_cons_succ]); (try simp only [List.set_cons_zero])
    refine Dp.take_yes (i := 9) (oi := ⟨some 46, _, _, _, _, _⟩) (v := ?_) rfl (by kernel_rfl) (by kernel_rfl) (by kernel_rfl) (fun _ _ _ h => h) (by kernel_rfl) ?_ (by assumption) ?_
    rotate_left
    · (intro w' hSw; (try dsimp only at hSw); first | (go_simp; done) | (go_simp; with_reducible rfl))
    (try simp only [Act.put]); (try simp only [List.setIfInBounds_toArray]); (try simp only [List.set_cons_succ]); (try simp only [List.set_cons_zero])
    refine Dp.take_yes (i := 11) (oi := ⟨some 48, _, _, _, _, _⟩) (v := ?_) rfl (by kernel_rfl) (by kernel_rfl) (by kernel_rfl) (fun _ _ _ h => h) (by kernel_rfl) ?_ (by assumption) ?_
    rotate_left
    · (intro w' hSw; (try dsimp only at hSw); first | (go_simp; done) | (go_simp; with_reducible rfl))
    (try simp only [Act.put]); (try simp only [List.setIfInBounds_toArray]); (try simp only [List.set_cons_succ]); (try simp only [List.set_cons_zero])
    refine Dp.take_yes (i := 12) (oi := ⟨some 49, _, _, _, _, _⟩) (v := ?_) rfl (by kernel_rfl) (by kernel_rfl) (by kernel_rfl) (fun _ _ _ h => h) (by kernel_rfl) ?_ (by assumption) ?_
    rotate_left
    · (intro w' hSw; (try dsimp only at hSw); first | (go_simp; done) | (go_simp; with_reducible rfl))
    (try simp only [Act.put]); (try simp only [List.setIfInBounds_toArray]); (try simp only [List.set_cons_succ]); (try simp only [List.set_cons_zero])
    refine Dp.take_yes (i := 13) (oi := ⟨some 50, _, _, _, _, _⟩) (v := ?_) rfl (by kernel_rfl) (by kernel_rfl) (by kernel_rfl) (fun _ _ _ h => h) (by kernel_rfl) ?_ (by assumption) ?_
    rotate_left
    · (intro w' hSw; (try dsimp only at hSw); first | (go_simp; done) | (go_simp; with_reducible rfl))
    (try simp only [Act.put]); (try simp only [List.setIfInBounds_toArray]); (try simp only [List.set_cons_succ]); (try simp only [List.set_cons_zero])
    refine wpAnyH_ready (rs := [10]) (by kernel_rfl) (by simp) ?_
    refine AllReadyH.cons (o := ⟨some 47, _, _, _, _, _⟩) rfl (fun K hK => ?_) AllReadyH.nil
    go_simp
    go_at_call 19
    refine (At.same_any ka kb za zb q hq.out pa pb ca cb _ (IA.out.kept k) (IB.out.kept k)).mono ?_
    rintro e y1 ⟨rfl, hb⟩
    replace k := Dp.keep2 hb k
    clear hb
    (try go_wp2_with fail)
    refine hK.out _ _ (HC.out _ (by assumption)) (fun hHeld2 => ?_)
    clear hK hHeld; have hHeld := hHeld2; clear hHeld2
    (try simp only [Act.put]); (try simp only [List.setIfInBounds_toArray]); (try simp only [List.set_cons_succ]); (try simp only [List.set_cons_zero])
    refine Dp.take_yes (i := 14) (oi := ⟨some 51, _, _, _, _, _⟩) (v := ?_) rfl (by kernel_rfl) (by kernel_rfl) (by kernel_rfl) (fun _ _ _ h => h) (by kernel_rfl) ?_ (by assumption) ?_
    rotate_left
    · (intro w' hSw; (try dsimp only at hSw); first | (go_simp; done) | (go_simp; with_reducible rfl))
    (try simp only [Act.put]); (try simp only [List.setIfInBounds_toArray]); (try simp only [List.set_cons_succ]); (try simp only [List.set_cons_zero])
    refine Dp.take_yes (i := 15) (oi := ⟨some 52, _, _, _, _, _⟩) (v := ?_) rfl (by kernel_rfl) (by kernel_rfl) (by kernel_rfl) (fun _ _ _ h => h) (by kernel_rfl) ?_ (by assumption) ?_
    rotate_left
    · (intro w' hSw; (try dsimp only at hSw); first | (go_simp; done) | (go_simp; with_reducible rfl))
    (try simp only [Act.put]); (try simp only [List.setIfInBounds_toArray]); (try simp only [List.set_cons_succ]); (try simp only [List.set_cons_zero])
    refine Dp.take_yes (i := 16) (oi := ⟨some 53, _, _, _, _, _⟩) (v := ?_) rfl (by kernel_rfl) (by kernel_rfl) (by kernel_rfl) (fun _ _ _ h => h) (by kernel_rfl) ?_ (by assumption) ?_
    rotate_left
    · (intro w' hSw; (try dsimp only at hSw); first | (go_simp; done) | (go_simp; with_reducible rfl))
    (try simp only [Act.put]); (try simp only [List.setIfInBounds_toArray]); (try simp only [List.set_cons_succ]); (try simp only [List.set_cons_zero])
    refine Dp.take_yes (i := 17) (oi := ⟨some 54, _, _, _, _, _⟩) (v := ?_) rfl (by kernel_rfl) (by kernel_rfl) (by kernel_rfl) (fun _ _ _ h => h) (by kernel_rfl) ?_ (by assumption) ?_
    rotate_left
    · (intro w' hSw; (try dsimp only at hSw); first | (go_simp; done) | (go_simp; with_reducible rfl))
    (try simp only [Act.put]); (try simp only [List.setIfInBounds_toArray]); (try simp only [List.set_cons_succ]); (try simp only [List.set_cons_zero])
    refine Dp.take_yes (i := 18) (oi := ⟨some 55, _, _, _, _, _⟩) (v := ?_) rfl (by kernel_rfl) (by kernel_rfl) (by kernel_rfl) (fun _ _ _ h => h) (by kernel_rfl) ?_ (by assumption) ?_
    rotate_left
    · (intro w' hSw; (try dsimp only at hSw); first | (go_simp; done) | (go_simp; with_reducible rfl))
    (try simp only [Act.put]); (try simp only [List.setIfInBounds_toArray]); (try simp only [List.set_cons_succ]); (try simp only [List.set_cons_zero])
    refine Dp.take_yes (i := 20) (oi := ⟨some 57, _, _, _, _, _⟩) (v := ?_) rfl (by kernel_rfl) (by kernel_rfl) (by kernel_rfl) (fun _ _ _ h => h) (by kernel_rfl) ?_ (by assumption) ?_
    rotate_left
    · (intro w' hSw; (try dsimp only at hSw); first | (go_simp; done) | (go_simp; with_reducible rfl))
    (try simp only [Act.put]); (try simp only [List.setIfInBounds_toArray]); (try simp only [List.set_cons_succ]); (try simp only [List.set_cons_zero])
    refine Dp.take_yes (i := 22) (oi := ⟨some 59, _, _, _, _, _⟩) (v := ?_) rfl (by kernel_rfl) (by kernel_rfl) (by kernel_rfl) (fun _ _ _ h => h) (by kernel_rfl) ?_ (by assumption) ?_
    rotate_left
    · (intro w' hSw; (try dsimp only at hSw); first | (go_simp; done) | (go_simp; with_reducible rfl))
    (try simp only [Act.put]); (try simp only [List.setIfInBounds_toArray]); (try simp only [List.set_cons_succ]); (try simp only [List.set_cons_zero])
    refine wpAnyH_ready (rs := [19]) (by kernel_rfl) (by simp) ?_
    refine AllReadyH.cons (o := ⟨some 56, _, _, _, _, _⟩) rfl (fun K hK => ?_) AllReadyH.nil
    go_simp
    go_at_call 19
    refine (At.same_any ka kb za zb q hq.out pa pb ca cb _ (IA.out.kept k) (IB.out.kept k)).mono ?_
    rintro e y2 ⟨rfl, hb⟩
    replace k := Dp.keep2 hb k
    clear hb
    (try go_wp2_with fail)
    refine hK.out _ _ (HC.out _ (by assumption)) (fun hHeld2 => ?_)
    clear hK hHeld; have hHeld := hHeld2; clear hHeld2
    (try simp only [Act.put]); (try simp only [List.setIfInBounds_toArray]); (try simp only [List.set_cons_succ]); (try simp only [List.set_cons_zero])
    refine wpAnyH_ready (rs := [21]) (by kernel_rfl) (by simp) ?_
    refine AllReadyH.cons (o := ⟨some 58, _, _, _, _, _⟩) rfl (fun K hK => ?_) AllReadyH.nil
    go_simp
    go_at_call 20
    refine (At.text_any ka ua za ta hta.out GA.out (by have := LA.out; omega) pa ca _ (IA.out.kept k).toIds (HT.out.over (B.out.trans (k.mono B.out.size)))).mono ?_
    rintro e y3 ⟨rfl, hb⟩
    replace k := Dp.keep2 hb k
    clear hb
    (try go_wp2_with fail)
    refine hK.out _ _ (HC.out _ (by assumption)) (fun hHeld2 => ?_)
    clear hK hHeld; have hHeld := hHeld2; clear hHeld2
    (try simp only [Act.put]); (try simp only [List.setIfInBounds_toArray]); (try simp only [List.set_cons_succ]); (try simp only [List.set_cons_zero])
    refine wpAnyH_ready (rs := [23]) (by kernel_rfl) (by simp) ?_
    refine AllReadyH.cons (o := ⟨some 60, _, _, _, _, _⟩) rfl (fun K hK => ?_) AllReadyH.nil
    go_simp
    go_at_call 20
    refine (At.text_any kb ub zb tb htb.out GZ.out (by have := LZ.out; omega) pb cb _ (IB.out.kept k).toIds (HT.out.over (B.out.trans (k.mono B.out.size)))).mono ?_
    rintro e y4 ⟨rfl, hb⟩
    replace k := Dp.keep2 hb k
    clear hb
    (try go_wp2_with fail)
    refine hK.out _ _ (HC.out _ (by assumption)) (fun hHeld2 => ?_)
    clear hK hHeld; have hHeld := hHeld2; clear hHeld2
    (try simp only [Act.put]); (try simp only [List.setIfInBounds_toArray]); (try simp only [List.set_cons_succ]); (try simp only [List.set_cons_zero])
    refine Dp.take_yes (i := 24) (oi := ⟨some 61, _, _, _, _, _⟩) (v := ?_) rfl (by kernel_rfl) (by kernel_rfl) (by kernel_rfl) (fun _ _ _ h => h) (by kernel_rfl) ?_ (by assumption) ?_
    rotate_left
    · (intro w' hSw; (try dsimp only at hSw); first | (go_simp; done) | (go_simp; with_reducible rfl))
    (try simp only [Act.put]); (try simp only [List.setIfInBounds_toArray]); (try simp only [List.set_cons_succ]); (try simp only [List.set_cons_zero])
    refine Dp.take_yes (i := 25) (oi := ⟨some 62, _, _, _, _, _⟩) (v := ?_) rfl (by kernel_rfl) (by kernel_rfl) (by kernel_rfl) (fun _ _ _ h => h) (by kernel_rfl) ?_ (by assumption) ?_
    rotate_left
    · (intro w' hSw; (try dsimp only at hSw); first | (go_simp; done) | (go_simp; with_reducible rfl))
    (try simp only [Act.put]); (try simp only [List.setIfInBounds_toArray]); (try simp only [List.set_cons_succ]); (try simp only [List.set_cons_zero])
    refine Dp.take_yes (i := 26) (oi := ⟨some 63, _, _, _, _, _⟩) (v := ?_) rfl (by kernel_rfl) (by kernel_rfl) (by kernel_rfl) (fun _ _ _ h => h) (by kernel_rfl) ?_ (by assumption) ?_
    rotate_left
    · (intro w' hSw; (try dsimp only at hSw); first | (go_simp; done) | (go_simp; with_reducible rfl))
    (try simp only [Act.put]); (try simp only [List.setIfInBounds_toArray]); (try simp only [List.set_cons_succ]); (try simp only [List.set_cons_zero])
    refine Dp.take_yes (i := 27) (oi := ⟨some 64, _, _, _, _, _⟩) (v := ?_) rfl (by kernel_rfl) (by kernel_rfl) (by kernel_rfl) (fun _ _ _ h => h) (by kernel_rfl) ?_ (by assumption) ?_
    rotate_left
    · (intro w' hSw; (try dsimp only at hSw); first | (go_simp; done) | (go_simp; with_reducible rfl))
    (try simp only [Act.put]); (try simp only [List.setIfInBounds_toArray]); (try simp only [List.set_cons_succ]); (try simp only [List.set_cons_zero])
    refine Dp.take_yes (i := 28) (oi := ⟨some 65, _, _, _, _, _⟩) (v := ?_) rfl (by kernel_rfl) (by kernel_rfl) (by kernel_rfl) (fun _ _ _ h => h) (by kernel_rfl) ?_ (by assumption) ?_
    rotate_left
    · (intro w' hSw; (try dsimp only at hSw); first | (go_simp; done) | (go_simp; with_reducible rfl))
    (try simp only [Act.put]); (try simp only [List.setIfInBounds_toArray]); (try simp only [List.set_cons_succ]); (try simp only [List.set_cons_zero])
    refine Dp.take_yes (i := 29) (oi := ⟨some 66, _, _, _, _, _⟩) (v := ?_) rfl (by kernel_rfl) (by kernel_rfl) (by kernel_rfl) (fun _ _ _ h => h) (by kernel_rfl) ?_ (by assumption) ?_
    rotate_left
    · (intro w' hSw; (try dsimp only at hSw); first | (go_simp; done) | (go_simp; with_reducible rfl))
    (try simp only [Act.put]); (try simp only [List.setIfInBounds_toArray]); (try simp only [List.set_cons_succ]); (try simp only [List.set_cons_zero])
    refine Dp.take_yes (i := 31) (oi := ⟨some 68, _, _, _, _, _⟩) (v := ?_) rfl (by kernel_rfl) (by kernel_rfl) (by kernel_rfl) (fun _ _ _ h => h) (by kernel_rfl) ?_ (by assumption) ?_
    rotate_left
    · (intro w' hSw; (try dsimp only at hSw); first | (go_simp; done) | (go_simp; with_reducible rfl))
    (try simp only [Act.put]); (try simp only [List.setIfInBounds_toArray]); (try simp only [List.set_cons_succ]); (try simp only [List.set_cons_zero])
    refine wpAnyH_ready (rs := [30]) (by kernel_rfl) (by simp) ?_
    refine AllReadyH.cons (o := ⟨some 67, _, _, _, _, _⟩) rfl (fun K hK => ?_) AllReadyH.nil
    go_simp
    go_at_call 14
    refine (At.join_any ka 0 ka (by omega) za [] za JN.out HSA.out Dp.IsSet.nil (by have := LA.out; omega) (by simp) pa none ca 0 _ (IA.out.kept k) ⟨Dp.Ids.nil _, fun _ => rfl⟩).mono ?_
    rintro e y5 ⟨j1, d1, rfl, ij, hb⟩
    replace k := Dp.keep2 hb k
    clear hb
    (try go_wp2_with fail)
    refine hK.out _ _ (HC.out _ (by assumption)) (fun hHeld2 => ?_)
    clear hK hHeld; have hHeld := hHeld2; clear hHeld2
    (try simp only [Act.put]); (try simp only [List.setIfInBounds_toArray]); (try simp only [List.set_cons_succ]); (try simp only [List.set_cons_zero])
    refine wpAnyH_ready (rs := [32]) (by kernel_rfl) (by simp) ?_
    refine AllReadyH.cons (o := ⟨some 69, _, _, _, _, _⟩) rfl (fun K hK => ?_) AllReadyH.nil
    go_simp
    go_at_call 19
    refine (At.same_any ka ka za za true (decide_eq_true rfl) j1 pa d1 ca _ ij (IA.out.kept k)).mono ?_
    rintro e y6 ⟨rfl, hb⟩
    replace k := Dp.keep2 hb k
    clear hb
    (try go_wp2_with fail)
    refine hK.out _ _ (HC.out _ (by assumption)) (fun hHeld2 => ?_)
    clear hK hHeld; have hHeld := hHeld2; clear hHeld2
    (try simp only [Act.put]); (try simp only [List.setIfInBounds_toArray]); (try simp only [List.set_cons_succ]); (try simp only [List.set_cons_zero])
    refine Dp.take_yes (i := 33) (oi := ⟨some 70, _, _, _, _, _⟩) (v := ?_) rfl (by kernel_rfl) (by kernel_rfl) (by kernel_rfl) (fun _ _ _ h => h) (by kernel_rfl) ?_ (by assumption) ?_
    rotate_left
    · (intro w' hSw; (try dsimp only at hSw); first | (go_simp; done) | (go_simp; with_reducible rfl))
    (try simp only [Act.put]); (try simp only [List.setIfInBounds_toArray]); (try simp only [List.set_cons_succ]); (try simp only [List.set_cons_zero])
    refine Dp.take_yes (i := 34) (oi := ⟨some 71, _, _, _, _, _⟩) (v := ?_) rfl (by kernel_rfl) (by kernel_rfl) (by kernel_rfl) (fun _ _ _ h => h) (by kernel_rfl) ?_ (by assumption) ?_
    rotate_left
    · (intro w' hSw; (try dsimp only at hSw); first | (go_simp; done) | (go_simp; with_reducible rfl))
    (try simp only [Act.put]); (try simp only [List.setIfInBounds_toArray]); (try simp only [List.set_cons_succ]); (try simp only [List.set_cons_zero])
    refine Dp.take_yes (i := 35) (oi := ⟨some 72, _, _, _, _, _⟩) (v := ?_) rfl (by kernel_rfl) (by kernel_rfl) (by kernel_rfl) (fun _ _ _ h => h) (by kernel_rfl) ?_ (by assumption) ?_
    rotate_left
    · (intro w' hSw; (try dsimp only at hSw); first | (go_simp; done) | (go_simp; with_reducible rfl))
    (try simp only [Act.put]); (try simp only [List.setIfInBounds_toArray]); (try simp only [List.set_cons_succ]); (try simp only [List.set_cons_zero])
    refine Dp.take_yes (i := 36) (oi := ⟨some 73, _, _, _, _, _⟩) (v := ?_) rfl (by kernel_rfl) (by kernel_rfl) (by kernel_rfl) (fun _ _ _ h => h) (by kernel_rfl) ?_ (by assumption) ?_
    rotate_left
    · (intro w' hSw; (try dsimp only at hSw); first | (go_simp; done) | (go_simp; with_reducible rfl))
    (try simp only [Act.put]); (try simp only [List.setIfInBounds_toArray]); (try simp only [List.set_cons_succ]); (try simp only [List.set_cons_zero])
    refine Dp.take_yes (i := 38) (oi := ⟨some 75, _, _, _, _, _⟩) (v := ?_) rfl (by kernel_rfl) (by kernel_rfl) (by kernel_rfl) (fun _ _ _ h => h) (by kernel_rfl) ?_ (by assumption) ?_
    rotate_left
    · (intro w' hSw; (try dsimp only at hSw); first | (go_simp; done) | (go_simp; with_reducible rfl))
    (try simp only [Act.put]); (try simp only [List.setIfInBounds_toArray]); (try simp only [List.set_cons_succ]); (try simp only [List.set_cons_zero])
    refine wpAnyH_ready (rs := [37]) (by kernel_rfl) (by simp) ?_
    refine AllReadyH.cons (o := ⟨some 74, _, _, _, _, _⟩) rfl (fun K hK => ?_) AllReadyH.nil
    go_simp
    go_at_call 14
    refine (At.join_any 0 ka ka (by omega) [] za za NJ.out Dp.IsSet.nil HSA.out (by simp) (by have := LA.out; omega) none pa 0 ca _ ⟨Dp.Ids.nil _, fun _ => rfl⟩ (IA.out.kept k)).mono ?_
    rintro e y7 ⟨j2, d2, rfl, ij, hb⟩
    replace k := Dp.keep2 hb k
    clear hb
    (try go_wp2_with fail)
    refine hK.out _ _ (HC.out _ (by assumption)) (fun hHeld2 => ?_)
    clear hK hHeld; have hHeld := hHeld2; clear hHeld2
    (try simp only [Act.put]); (try simp only [List.setIfInBounds_toArray]); (try simp only [List.set_cons_succ]); (try simp only [List.set_cons_zero])
    refine wpAnyH_ready (rs := [39]) (by kernel_rfl) (by simp) ?_
    refine AllReadyH.cons (o := ⟨some 76, _, _, _, _, _⟩) rfl (fun K hK => ?_) AllReadyH.nil
    go_simp
    go_at_call 19
    refine (At.same_any ka ka za za true (decide_eq_true rfl) j2 pa d2 ca _ ij (IA.out.kept k)).mono ?_
    rintro e y8 ⟨rfl, hb⟩
    replace k := Dp.keep2 hb k
    clear hb
    (try go_wp2_with fail)
    refine hK.out _ _ (HC.out _ (by assumption)) (fun hHeld2 => ?_)
    clear hK hHeld; have hHeld := hHeld2; clear hHeld2
    (try simp only [Act.put]); (try simp only [List.setIfInBounds_toArray]); (try simp only [List.set_cons_succ]); (try simp only [List.set_cons_zero])
    refine Dp.take_yes (i := 40) (oi := ⟨some 77, _, _, _, _, _⟩) (v := ?_) rfl (by kernel_rfl) (by kernel_rfl) (by kernel_rfl) (fun _ _ _ h => h) (by kernel_rfl) ?_ (by assumption) ?_
    rotate_left
    · (intro w' hSw; (try dsimp only at hSw); first | (go_simp; done) | (go_simp; with_reducible rfl))
    (try simp only [Act.put]); (try simp only [List.setIfInBounds_toArray]); (try simp only [List.set_cons_succ]); (try simp only [List.set_cons_zero])
    refine Dp.take_yes (i := 41) (oi := ⟨some 6, _, _, _, _, _⟩) (v := ?_) rfl (by kernel_rfl) (by kernel_rfl) (by kernel_rfl) (fun _ _ _ h => h) (by kernel_rfl) ?_ (by assumption) ?_
    rotate_left
    · (intro w' hSw; (try dsimp only at hSw); first | (go_simp; done) | (go_simp; with_reducible rfl))
    (try simp only [Act.put]); (try simp only [List.setIfInBounds_toArray]); (try simp only [List.set_cons_succ]); (try simp only [List.set_cons_zero])
    refine wpAnyH_done (by kernel_rfl) ?_ _
    go_wp2
    go_ret
    exact ⟨rfl, B.out.trans (k.mono B.out.size)⟩
  | true =>
    go_wp2_with fail
    have hb := Bl.below_1 v4 (.cells #[.int .u32 kb, .slice pa za.length ca] 25)
    clear pa_0 pa_1 pa_2 pa_3 pa_4
    replace RA := Lib.hid (RA.out.over hb)
    replace RB := Lib.hid (RB.out.over hb)
    replace IA := Lib.hid (IA.out.kept hb)
    replace PA := Lib.hid (PA.out.over hb)
    replace IB := Lib.hid (IB.out.kept hb)
    replace B := Lib.hid (B.out.trans (hb.mono B.out.size))
    have PB := Lib.hid (Bl.Pair.newAt (v4) (.int .u32 kb) (.slice pa za.length ca) 25 (v4.heap.size) (by simp))
    generalize v4.alloc (.cells #[.int .u32 kb, .slice pa za.length ca] 25) = v5 at *
    generalize v4.heap.size = g5 at *
    clear hb
    obtain ⟨sb, hsb, lsb⟩ := At.put_yes kb za FA.1 FA.2.2.2
    obtain ⟨q, hq⟩ : ∃ q, Hid (decide (((ka, za) : At.AT) = (kb, za)) = q) := ⟨_, Lib.hid rfl⟩
    obtain ⟨ta, hta⟩ : ∃ t, Hid ((⟨(At.textA (ka, za)).toArray⟩ : ByteArray) = t) := ⟨_, Lib.hid rfl⟩
    obtain ⟨tb, htb⟩ : ∃ t, Hid ((⟨(At.textA (kb, za)).toArray⟩ : ByteArray) = t) := ⟨_, Lib.hid rfl⟩
    have e1 := same_put (ka, za) (kb, za) sa sb q ua ub hsa.out hsb hq.out
    have e2 := same_text (ka, za) (kb, za) ta tb q FA.1 FA.1 hta.out htb.out hq.out
    have LA : Hid (za.length ≤ 36) := Lib.hid FA.2.1
    have LZ : Hid (za.length ≤ 36) := Lib.hid FA.2.1
    have HSA := Lib.hid FA.1
    have JN : Hid (Dp.joinD za [] = za) := Lib.hid (Prod.mk.inj (At.join_nil (a := (ka, za)) FA.1)).2
    have NJ : Hid (Dp.joinD [] za = za) := Lib.hid (Prod.mk.inj (At.nil_join (a := (ka, za)) FA.1)).2
    have GA := Lib.hid FA.2.2.1
    have GZ := Lib.hid FA.2.2.1
    have HSB := Lib.hid hsb
    clear hsb lsb FA FB
    go_wp2_with fail
    refine (At.put_any ka ua za sa true hsa.out (by have := LA.out; omega) pa ca v5 IA.out.toIds).mono ?_
    rintro e v6 ⟨rfl, hb⟩
    replace RA := Lib.hid (RA.out.over hb)
    replace RB := Lib.hid (RB.out.over hb)
    replace IA := Lib.hid (IA.out.kept hb)
    replace PA := Lib.hid (PA.out.over hb)
    replace IB := Lib.hid (IB.out.kept hb)
    replace PB := Lib.hid (PB.out.over hb)
    replace B := Lib.hid (B.out.trans (hb.mono B.out.size))
    clear hb
    have ⟨pb_0, pb_1, pb_2, pb_3, pb_4⟩ := PB.out
    go_wp2_with fail
    refine (At.put_any kb ub za sb true HSB.out (by have := LZ.out; omega) pa ca v6 IA.out.toIds).mono ?_
    rintro e v7 ⟨rfl, hb⟩
    clear pb_0 pb_1 pb_2 pb_3 pb_4
    replace RA := Lib.hid (RA.out.over hb)
    replace RB := Lib.hid (RB.out.over hb)
    replace IA := Lib.hid (IA.out.kept hb)
    replace PA := Lib.hid (PA.out.over hb)
    replace IB := Lib.hid (IB.out.kept hb)
    replace PB := Lib.hid (PB.out.over hb)
    replace B := Lib.hid (B.out.trans (hb.mono B.out.size))
    clear hb
    go_wp2_with fail
    have HC : Hid (∀ w', Below v7.heap.size v7 w' → w'.cell? ⟨g3, 0, none⟩ = some (.int .u32 ka) ∧ w'.cell? ⟨g3, 1, none⟩ = some (.slice pa za.length ca) ∧ w'.cell? ⟨g5, 0, none⟩ = some (.int .u32 kb) ∧ w'.cell? ⟨g5, 1, none⟩ = some (.slice pa za.length ca)) := Lib.hid (fun w' h => ⟨(PA.out.over h).2.1, (PA.out.over h).2.2.1, (PB.out.over h).2.1, (PB.out.over h).2.2.1⟩)
    have k : Below v7.heap.size v7 v7.drew := (Below.refl _ _).drew
    refine wp_region_held_drew (S := fun w' => w'.cell? ⟨g3, 0, none⟩ = some (.int .u32 ka) ∧ w'.cell? ⟨g3, 1, none⟩ = some (.slice pa za.length ca) ∧ w'.cell? ⟨g5, 0, none⟩ = some (.int .u32 kb) ∧ w'.cell? ⟨g5, 1, none⟩ = some (.slice pa za.length ca)) (by kernel_rfl) (HC.out _ k) (fun hHeld => ?_)
    refine Dp.take_yes (i := 0) (oi := ⟨some 37, _, _, _, _, _⟩) (v := ?_) rfl (by kernel_rfl) (by kernel_rfl) (by kernel_rfl) (fun _ _ _ h => h) (by kernel_rfl) ?_ (by assumption) ?_
    rotate_left
    · (intro w' hSw; (try dsimp only at hSw); first | (go_simp; done) | (go_simp; with_reducible rfl))
    (try simp only [Act.put]); (try simp only [List.setIfInBounds_toArray]); (try simp only [List.set_cons_succ]); (try simp only [List.set_cons_zero])
    refine Dp.take_yes (i := 1) (oi := ⟨some 38, _, _, _, _, _⟩) (v := ?_) rfl (by kernel_rfl) (by kernel_rfl) (by kernel_rfl) (fun _ _ _ h => h) (by kernel_rfl) ?_ (by assumption) ?_
    rotate_left
    · (intro w' hSw; (try dsimp only at hSw); first | (go_simp; done) | (go_simp; with_reducible rfl))
    (try simp only [Act.put]); (try simp only [List.setIfInBounds_toArray]); (try simp only [List.set_cons_succ]); (try simp only [List.set_cons_zero])
    refine Dp.take_yes (i := 2) (oi := ⟨some 39, _, _, _, _, _⟩) (v := ?_) rfl (by kernel_rfl) (by kernel_rfl) (by kernel_rfl) (fun _ _ _ h => h) (by kernel_rfl) ?_ (by assumption) ?_
    rotate_left
    · (intro w' hSw; (try dsimp only at hSw); first | (go_simp; done) | (go_simp; with_reducible rfl))
    (try simp only [Act.put]); (try simp only [List.setIfInBounds_toArray]); (try simp only [List.set_cons_succ]); (try simp only [List.set_cons_zero])
    refine Dp.take_yes (i := 3) (oi := ⟨some 40, _, _, _, _, _⟩) (v := ?_) rfl (by kernel_rfl) (by kernel_rfl) (by kernel_rfl) (fun _ _ _ h => h) (by kernel_rfl) ?_ (by assumption) ?_
    rotate_left
    · (intro w' hSw; (try dsimp only at hSw); first | (go_simp; done) | (go_simp; with_reducible rfl))
    (try simp only [Act.put]); (try simp only [List.setIfInBounds_toArray]); (try simp only [List.set_cons_succ]); (try simp only [List.set_cons_zero])
    refine Dp.take_yes (i := 4) (oi := ⟨some 41, _, _, _, _, _⟩) (v := ?_) rfl (by kernel_rfl) (by kernel_rfl) (by kernel_rfl) (fun _ _ _ h => h) (by kernel_rfl) ?_ (by assumption) ?_
    rotate_left
    · (intro w' hSw; (try dsimp only at hSw); first | (go_simp; done) | (go_simp; with_reducible rfl))
    (try simp only [Act.put]); (try simp only [List.setIfInBounds_toArray]); (try simp only [List.set_cons_succ]); (try simp only [List.set_cons_zero])
    refine Dp.take_yes (i := 5) (oi := ⟨some 42, _, _, _, _, _⟩) (v := ?_) rfl (by kernel_rfl) (by kernel_rfl) (by kernel_rfl) (fun _ _ _ h => h) (by kernel_rfl) ?_ (by assumption) ?_
    rotate_left
    · (intro w' hSw; (try dsimp only at hSw); first | (go_simp; done) | (go_simp; with_reducible rfl))
    (try simp only [Act.put]); (try simp only [List.setIfInBounds_toArray]); (try simp only [List.set_cons_succ]); (try simp only [List.set_cons_zero])
    refine Dp.take_yes (i := 6) (oi := ⟨some 43, _, _, _, _, _⟩) (v := ?_) rfl (by kernel_rfl) (by kernel_rfl) (by kernel_rfl) (fun _ _ _ h => h) (by kernel_rfl) ?_ (by assumption) ?_
    rotate_left
    · (intro w' hSw; (try dsimp only at hSw); first | (go_simp; done) | (go_simp; with_reducible rfl))
    (try simp only [Act.put]); (try simp only [List.setIfInBounds_toArray]); (try simp only [List.set_cons_succ]); (try simp only [List.set_cons_zero])
    refine Dp.take_yes (i := 7) (oi := ⟨some 44, _, _, _, _, _⟩) (v := ?_) rfl (by kernel_rfl) (by kernel_rfl) (by kernel_rfl) (fun _ _ _ h => h) (by kernel_rfl) ?_ (by assumption) ?_
    rotate_left
    · (intro w' hSw; (try dsimp only at hSw); first | (go_simp; done) | (go_simp; with_reducible rfl))
    (try simp only [Act.put]); (try simp only [List.setIfInBounds_toArray]); (try simp only [List.set_cons_succ]); (try simp only [List.set_cons_zero])
    refine Dp.take_yes (i := 8) (oi := ⟨some 45, _, _, _, _, _⟩) (v := ?_) rfl (by kernel_rfl) (by kernel_rfl) (by kernel_rfl) (fun _ _ _ h => h) (by kernel_rfl) ?_ (by assumption) ?_
    rotate_left
    · (intro w' hSw; (try dsimp only at hSw); first | (go_simp; done) | (go_simp; with_reducible rfl))
    (try simp only [Act.put]); (try simp only [List.setIfInBounds_toArray]); (try simp only [List.set_cons_succ]); (try simp only [List.set_cons_zero])
    refine Dp.take_yes (i := 9) (oi := ⟨some 46, _, _, _, _, _⟩) (v := ?_) rfl (by kernel_rfl) (by kernel_rfl) (by kernel_rfl) (fun _ _ _ h => h) (by kernel_rfl) ?_ (by assumption) ?_
    rotate_left
    · (intro w' hSw; (try dsimp only at hSw); first | (go_simp; done) | (go_simp; with_reducible rfl))
    (try simp only [Act.put]); (try simp only [List.setIfInBounds_toArray]); (try simp only [List.set_cons_succ]); (try simp only [List.set_cons_zero])
    refine Dp.take_yes (i := 11) (oi := ⟨some 48, _, _, _, _, _⟩) (v := ?_) rfl (by kernel_rfl) (by kernel_rfl) (by kernel_rfl) (fun _ _ _ h => h) (by kernel_rfl) ?_ (by assumption) ?_
    rotate_left
    · (intro w' hSw; (try dsimp only at hSw); first | (go_simp; done) | (go_simp; with_reducible rfl))
    (try simp only [Act.put]); (try simp only [List.setIfInBounds_toArray]); (try simp only [List.set_cons_succ]); (try simp only [List.set_cons_zero])
    refine Dp.take_yes (i := 12) (oi := ⟨some 49, _, _, _, _, _⟩) (v := ?_) rfl (by kernel_rfl) (by kernel_rfl) (by kernel_rfl) (fun _ _ _ h => h) (by kernel_rfl) ?_ (by assumption) ?_
    rotate_left
    · (intro w' hSw; (try dsimp only at hSw); first | (go_simp; done) | (go_simp; with_reducible rfl))
    (try simp only [Act.put]); (try simp only [List.setIfInBounds_toArray]); (try simp only [List.set_cons_succ]); (try simp only [List.set_cons_zero])
    refine Dp.take_yes (i := 13) (oi := ⟨some 50, _, _, _, _, _⟩) (v := ?_) rfl (by kernel_rfl) (by kernel_rfl) (by kernel_rfl) (fun _ _ _ h => h) (by kernel_rfl) ?_ (by assumption) ?_
    rotate_left
    · (intro w' hSw; (try dsimp only at hSw); first | (go_simp; done) | (go_simp; with_reducible rfl))
    (try simp only [Act.put]); (try simp only [List.setIfInBounds_toArray]); (try simp only [List.set_cons_succ]); (try simp only [List.set_cons_zero])
    refine wpAnyH_ready (rs := [10]) (by kernel_rfl) (by simp) ?_
    refine AllReadyH.cons (o := ⟨some 47, _, _, _, _, _⟩) rfl (fun K hK => ?_) AllReadyH.nil
    go_simp
    go_at_call 19
    refine (At.same_any ka kb za za q hq.out pa pa ca ca _ (IA.out.kept k) (IA.out.kept k)).mono ?_
    rintro e y1 ⟨rfl, hb⟩
    replace k := Dp.keep2 hb k
    clear hb
    (try go_wp2_with fail)
    refine hK.out _ _ (HC.out _ (by assumption)) (fun hHeld2 => ?_)
    clear hK hHeld; have hHeld := hHeld2; clear hHeld2
    (try simp only [Act.put]); (try simp only [List.setIfInBounds_toArray]); (try simp only [List.set_cons_succ]); (try simp only [List.set_cons_zero])
    refine Dp.take_yes (i := 14) (oi := ⟨some 51, _, _, _, _, _⟩) (v := ?_) rfl (by kernel_rfl) (by kernel_rfl) (by kernel_rfl) (fun _ _ _ h => h) (by kernel_rfl) ?_ (by assumption) ?_
    rotate_left
    · (intro w' hSw; (try dsimp only at hSw); first | (go_simp; done) | (go_simp; with_reducible rfl))
    (try simp only [Act.put]); (try simp only [List.setIfInBounds_toArray]); (try simp only [List.set_cons_succ]); (try simp only [List.set_cons_zero])
    refine Dp.take_yes (i := 15) (oi := ⟨some 52, _, _, _, _, _⟩) (v := ?_) rfl (by kernel_rfl) (by kernel_rfl) (by kernel_rfl) (fun _ _ _ h => h) (by kernel_rfl) ?_ (by assumption) ?_
    rotate_left
    · (intro w' hSw; (try dsimp only at hSw); first | (go_simp; done) | (go_simp; with_reducible rfl))
    (try simp only [Act.put]); (try simp only [List.setIfInBounds_toArray]); (try simp only [List.set_cons_succ]); (try simp only [List.set_cons_zero])
    refine Dp.take_yes (i := 16) (oi := ⟨some 53, _, _, _, _, _⟩) (v := ?_) rfl (by kernel_rfl) (by kernel_rfl) (by kernel_rfl) (fun _ _ _ h => h) (by kernel_rfl) ?_ (by assumption) ?_
    rotate_left
    · (intro w' hSw; (try dsimp only at hSw); first | (go_simp; done) | (go_simp; with_reducible rfl))
    (try simp only [Act.put]); (try simp only [List.setIfInBounds_toArray]); (try simp only [List.set_cons_succ]); (try simp only [List.set_cons_zero])
    refine Dp.take_yes (i := 17) (oi := ⟨some 54, _, _, _, _, _⟩) (v := ?_) rfl (by kernel_rfl) (by kernel_rfl) (by kernel_rfl) (fun _ _ _ h => h) (by kernel_rfl) ?_ (by assumption) ?_
    rotate_left
    · (intro w' hSw; (try dsimp only at hSw); first | (go_simp; done) | (go_simp; with_reducible rfl))
    (try simp only [Act.put]); (try simp only [List.setIfInBounds_toArray]); (try simp only [List.set_cons_succ]); (try simp only [List.set_cons_zero])
    refine Dp.take_yes (i := 18) (oi := ⟨some 55, _, _, _, _, _⟩) (v := ?_) rfl (by kernel_rfl) (by kernel_rfl) (by kernel_rfl) (fun _ _ _ h => h) (by kernel_rfl) ?_ (by assumption) ?_
    rotate_left
    · (intro w' hSw; (try dsimp only at hSw); first | (go_simp; done) | (go_simp; with_reducible rfl))
    (try simp only [Act.put]); (try simp only [List.setIfInBounds_toArray]); (try simp only [List.set_cons_succ]); (try simp only [List.set_cons_zero])
    refine Dp.take_yes (i := 20) (oi := ⟨some 57, _, _, _, _, _⟩) (v := ?_) rfl (by kernel_rfl) (by kernel_rfl) (by kernel_rfl) (fun _ _ _ h => h) (by kernel_rfl) ?_ (by assumption) ?_
    rotate_left
    · (intro w' hSw; (try dsimp only at hSw); first | (go_simp; done) | (go_simp; with_reducible rfl))
    (try simp only [Act.put]); (try simp only [List.setIfInBounds_toArray]); (try simp only [List.set_cons_succ]); (try simp only [List.set_cons_zero])
    refine Dp.take_yes (i := 22) (oi := ⟨some 59, _, _, _, _, _⟩) (v := ?_) rfl (by kernel_rfl) (by kernel_rfl) (by kernel_rfl) (fun _ _ _ h => h) (by kernel_rfl) ?_ (by assumption) ?_
    rotate_left
    · (intro w' hSw; (try dsimp only at hSw); first | (go_simp; done) | (go_simp; with_reducible rfl))
    (try simp only [Act.put]); (try simp only [List.setIfInBounds_toArray]); (try simp only [List.set_cons_succ]); (try simp only [List.set_cons_zero])
    refine wpAnyH_ready (rs := [19]) (by kernel_rfl) (by simp) ?_
    refine AllReadyH.cons (o := ⟨some 56, _, _, _, _, _⟩) rfl (fun K hK => ?_) AllReadyH.nil
    go_simp
    go_at_call 19
    refine (At.same_any ka kb za za q hq.out pa pa ca ca _ (IA.out.kept k) (IA.out.kept k)).mono ?_
    rintro e y2 ⟨rfl, hb⟩
    replace k := Dp.keep2 hb k
    clear hb
    (try go_wp2_with fail)
    refine hK.out _ _ (HC.out _ (by assumption)) (fun hHeld2 => ?_)
    clear hK hHeld; have hHeld := hHeld2; clear hHeld2
    (try simp only [Act.put]); (try simp only [List.setIfInBounds_toArray]); (try simp only [List.set_cons_succ]); (try simp only [List.set_cons_zero])
    refine wpAnyH_ready (rs := [21]) (by kernel_rfl) (by simp) ?_
    refine AllReadyH.cons (o := ⟨some 58, _, _, _, _, _⟩) rfl (fun K hK => ?_) AllReadyH.nil
    go_simp
    go_at_call 20
    refine (At.text_any ka ua za ta hta.out GA.out (by have := LA.out; omega) pa ca _ (IA.out.kept k).toIds (HT.out.over (B.out.trans (k.mono B.out.size)))).mono ?_
    rintro e y3 ⟨rfl, hb⟩
    replace k := Dp.keep2 hb k
    clear hb
    (try go_wp2_with fail)
    refine hK.out _ _ (HC.out _ (by assumption)) (fun hHeld2 => ?_)
    clear hK hHeld; have hHeld := hHeld2; clear hHeld2
    (try simp only [Act.put]); (try simp only [List.setIfInBounds_toArray]); (try simp only [List.set_cons_succ]); (try simp only [List.set_cons_zero])
    refine wpAnyH_ready (rs := [23]) (by kernel_rfl) (by simp) ?_
    refine AllReadyH.cons (o := ⟨some 60, _, _, _, _, _⟩) rfl (fun K hK => ?_) AllReadyH.nil
    go_simp
    go_at_call 20
    refine (At.text_any kb ub za tb htb.out GZ.out (by have := LZ.out; omega) pa ca _ (IA.out.kept k).toIds (HT.out.over (B.out.trans (k.mono B.out.size)))).mono ?_
    rintro e y4 ⟨rfl, hb⟩
    replace k := Dp.keep2 hb k
    clear hb
    (try go_wp2_with fail)
    refine hK.out _ _ (HC.out _ (by assumption)) (fun hHeld2 => ?_)
    clear hK hHeld; have hHeld := hHeld2; clear hHeld2
    (try simp only [Act.put]); (try simp only [List.setIfInBounds_toArray]); (try simp only [List.set_cons_succ]); (try simp only [List.set_cons_zero])
    refine Dp.take_yes (i := 24) (oi := ⟨some 61, _, _, _, _, _⟩) (v := ?_) rfl (by kernel_rfl) (by kernel_rfl) (by kernel_rfl) (fun _ _ _ h => h) (by kernel_rfl) ?_ (by assumption) ?_
    rotate_left
    · (intro w' hSw; (try dsimp only at hSw); first | (go_simp; done) | (go_simp; with_reducible rfl))
    (try simp only [Act.put]); (try simp only [List.setIfInBounds_toArray]); (try simp only [List.set_cons_succ]); (try simp only [List.set_cons_zero])
    refine Dp.take_yes (i := 25) (oi := ⟨some 62, _, _, _, _, _⟩) (v := ?_) rfl (by kernel_rfl) (by kernel_rfl) (by kernel_rfl) (fun _ _ _ h => h) (by kernel_rfl) ?_ (by assumption) ?_
    rotate_left
    · (intro w' hSw; (try dsimp only at hSw); first | (go_simp; done) | (go_simp; with_reducible rfl))
    (try simp only [Act.put]); (try simp only [List.setIfInBounds_toArray]); (try simp only [List.set_cons_succ]); (try simp only [List.set_cons_zero])
    refine Dp.take_yes (i := 26) (oi := ⟨some 63, _, _, _, _, _⟩) (v := ?_) rfl (by kernel_rfl) (by kernel_rfl) (by kernel_rfl) (fun _ _ _ h => h) (by kernel_rfl) ?_ (by assumption) ?_
    rotate_left
    · (intro w' hSw; (try dsimp only at hSw); first | (go_simp; done) | (go_simp; with_reducible rfl))
    (try simp only [Act.put]); (try simp only [List.setIfInBounds_toArray]); (try simp only [List.set_cons_succ]); (try simp only [List.set_cons_zero])
    refine Dp.take_yes (i := 27) (oi := ⟨some 64, _, _, _, _, _⟩) (v := ?_) rfl (by kernel_rfl) (by kernel_rfl) (by kernel_rfl) (fun _ _ _ h => h) (by kernel_rfl) ?_ (by assumption) ?_
    rotate_left
    · (intro w' hSw; (try dsimp only at hSw); first | (go_simp; done) | (go_simp; with_reducible rfl))
    (try simp only [Act.put]); (try simp only [List.setIfInBounds_toArray]); (try simp only [List.set_cons_succ]); (try simp only [List.set_cons_zero])
    refine Dp.take_yes (i := 28) (oi := ⟨some 65, _, _, _, _, _⟩) (v := ?_) rfl (by kernel_rfl) (by kernel_rfl) (by kernel_rfl) (fun _ _ _ h => h) (by kernel_rfl) ?_ (by assumption) ?_
    rotate_left
    · (intro w' hSw; (try dsimp only at hSw); first | (go_simp; done) | (go_simp; with_reducible rfl))
    (try simp only [Act.put]); (try simp only [List.setIfInBounds_toArray]); (try simp only [List.set_cons_succ]); (try simp only [List.set_cons_zero])
    refine Dp.take_yes (i := 29) (oi := ⟨some 66, _, _, _, _, _⟩) (v := ?_) rfl (by kernel_rfl) (by kernel_rfl) (by kernel_rfl) (fun _ _ _ h => h) (by kernel_rfl) ?_ (by assumption) ?_
    rotate_left
    · (intro w' hSw; (try dsimp only at hSw); first | (go_simp; done) | (go_simp; with_reducible rfl))
    (try simp only [Act.put]); (try simp only [List.setIfInBounds_toArray]); (try simp only [List.set_cons_succ]); (try simp only [List.set_cons_zero])
    refine Dp.take_yes (i := 31) (oi := ⟨some 68, _, _, _, _, _⟩) (v := ?_) rfl (by kernel_rfl) (by kernel_rfl) (by kernel_rfl) (fun _ _ _ h => h) (by kernel_rfl) ?_ (by assumption) ?_
    rotate_left
    · (intro w' hSw; (try dsimp only at hSw); first | (go_simp; done) | (go_simp; with_reducible rfl))
    (try simp only [Act.put]); (try simp only [List.setIfInBounds_toArray]); (try simp only [List.set_cons_succ]); (try simp only [List.set_cons_zero])
    refine wpAnyH_ready (rs := [30]) (by kernel_rfl) (by simp) ?_
    refine AllReadyH.cons (o := ⟨some 67, _, _, _, _, _⟩) rfl (fun K hK => ?_) AllReadyH.nil
    go_simp
    go_at_call 14
    refine (At.join_any ka 0 ka (by omega) za [] za JN.out HSA.out Dp.IsSet.nil (by have := LA.out; omega) (by simp) pa none ca 0 _ (IA.out.kept k) ⟨Dp.Ids.nil _, fun _ => rfl⟩).mono ?_
    rintro e y5 ⟨j1, d1, rfl, ij, hb⟩
    replace k := Dp.keep2 hb k
    clear hb
    (try go_wp2_with fail)
    refine hK.out _ _ (HC.out _ (by assumption)) (fun hHeld2 => ?_)
    clear hK hHeld; have hHeld := hHeld2; clear hHeld2
    (try simp only [Act.put]); (try simp only [List.setIfInBounds_toArray]); (try simp only [List.set_cons_succ]); (try simp only [List.set_cons_zero])
    refine wpAnyH_ready (rs := [32]) (by kernel_rfl) (by simp) ?_
    refine AllReadyH.cons (o := ⟨some 69, _, _, _, _, _⟩) rfl (fun K hK => ?_) AllReadyH.nil
    go_simp
    go_at_call 19
    refine (At.same_any ka ka za za true (decide_eq_true rfl) j1 pa d1 ca _ ij (IA.out.kept k)).mono ?_
    rintro e y6 ⟨rfl, hb⟩
    replace k := Dp.keep2 hb k
    clear hb
    (try go_wp2_with fail)
    refine hK.out _ _ (HC.out _ (by assumption)) (fun hHeld2 => ?_)
    clear hK hHeld; have hHeld := hHeld2; clear hHeld2
    (try simp only [Act.put]); (try simp only [List.setIfInBounds_toArray]); (try simp only [List.set_cons_succ]); (try simp only [List.set_cons_zero])
    refine Dp.take_yes (i := 33) (oi := ⟨some 70, _, _, _, _, _⟩) (v := ?_) rfl (by kernel_rfl) (by kernel_rfl) (by kernel_rfl) (fun _ _ _ h => h) (by kernel_rfl) ?_ (by assumption) ?_
    rotate_left
    · (intro w' hSw; (try dsimp only at hSw); first | (go_simp; done) | (go_simp; with_reducible rfl))
    (try simp only [Act.put]); (try simp only [List.setIfInBounds_toArray]); (try simp only [List.set_cons_succ]); (try simp only [List.set_cons_zero])
    refine Dp.take_yes (i := 34) (oi := ⟨some 71, _, _, _, _, _⟩) (v := ?_) rfl (by kernel_rfl) (by kernel_rfl) (by kernel_rfl) (fun _ _ _ h => h) (by kernel_rfl) ?_ (by assumption) ?_
    rotate_left
    · (intro w' hSw; (try dsimp only at hSw); first | (go_simp; done) | (go_simp; with_reducible rfl))
    (try simp only [Act.put]); (try simp only [List.setIfInBounds_toArray]); (try simp only [List.set_cons_succ]); (try simp only [List.set_cons_zero])
    refine Dp.take_yes (i := 35) (oi := ⟨some 72, _, _, _, _, _⟩) (v := ?_) rfl (by kernel_rfl) (by kernel_rfl) (by kernel_rfl) (fun _ _ _ h => h) (by kernel_rfl) ?_ (by assumption) ?_
    rotate_left
    · (intro w' hSw; (try dsimp only at hSw); first | (go_simp; done) | (go_simp; with_reducible rfl))
    (try simp only [Act.put]); (try simp only [List.setIfInBounds_toArray]); (try simp only [List.set_cons_succ]); (try simp only [List.set_cons_zero])
    refine Dp.take_yes (i := 36) (oi := ⟨some 73, _, _, _, _, _⟩) (v := ?_) rfl (by kernel_rfl) (by kernel_rfl) (by kernel_rfl) (fun _ _ _ h => h) (by kernel_rfl) ?_ (by assumption) ?_
    rotate_left
    · (intro w' hSw; (try dsimp only at hSw); first | (go_simp; done) | (go_simp; with_reducible rfl))
    (try simp only [Act.put]); (try simp only [List.setIfInBounds_toArray]); (try simp only [List.set_cons_succ]); (try simp only [List.set_cons_zero])
    refine Dp.take_yes (i := 38) (oi := ⟨some 75, _, _, _, _, _⟩) (v := ?_) rfl (by kernel_rfl) (by kernel_rfl) (by kernel_rfl) (fun _ _ _ h => h) (by kernel_rfl) ?_ (by assumption) ?_
    rotate_left
    · (intro w' hSw; (try dsimp only at hSw); first | (go_simp; done) | (go_simp; with_reducible rfl))
    (try simp only [Act.put]); (try simp only [List.setIfInBounds_toArray]); (try simp only [List.set_cons_succ]); (try simp only [List.set_cons_zero])
    refine wpAnyH_ready (rs := [37]) (by kernel_rfl) (by simp) ?_
    refine AllReadyH.cons (o := ⟨some 74, _, _, _, _, _⟩) rfl (fun K hK => ?_) AllReadyH.nil
    go_simp
    go_at_call 14
    refine (At.join_any 0 ka ka (by omega) [] za za NJ.out Dp.IsSet.nil HSA.out (by simp) (by have := LA.out; omega) none pa 0 ca _ ⟨Dp.Ids.nil _, fun _ => rfl⟩ (IA.out.kept k)).mono ?_
    rintro e y7 ⟨j2, d2, rfl, ij, hb⟩
    replace k := Dp.keep2 hb k
    clear hb
    (try go_wp2_with fail)
    refine hK.out _ _ (HC.out _ (by assumption)) (fun hHeld2 => ?_)
    clear hK hHeld; have hHeld := hHeld2; clear hHeld2
    (try simp only [Act.put]); (try simp only [List.setIfInBounds_toArray]); (try simp only [List.set_cons_succ]); (try simp only [List.set_cons_zero])
    refine wpAnyH_ready (rs := [39]) (by kernel_rfl) (by simp) ?_
    refine AllReadyH.cons (o := ⟨some 76, _, _, _, _, _⟩) rfl (fun K hK => ?_) AllReadyH.nil
    go_simp
    go_at_call 19
    refine (At.same_any ka ka za za true (decide_eq_true rfl) j2 pa d2 ca _ ij (IA.out.kept k)).mono ?_
    rintro e y8 ⟨rfl, hb⟩
    replace k := Dp.keep2 hb k
    clear hb
    (try go_wp2_with fail)
    refine hK.out _ _ (HC.out _ (by assumption)) (fun hHeld2 => ?_)
    clear hK hHeld; have hHeld := hHeld2; clear hHeld2
    (try simp only [Act.put]); (try simp only [List.setIfInBounds_toArray]); (try simp only [List.set_cons_succ]); (try simp only [List.set_cons_zero])
    refine Dp.take_yes (i := 40) (oi := ⟨some 77, _, _, _, _, _⟩) (v := ?_) rfl (by kernel_rfl) (by kernel_rfl) (by kernel_rfl) (fun _ _ _ h => h) (by kernel_rfl) ?_ (by assumption) ?_
    rotate_left
    · (intro w' hSw; (try dsimp only at hSw); first | (go_simp; done) | (go_simp; with_reducible rfl))
    (try simp only [Act.put]); (try simp only [List.setIfInBounds_toArray]); (try simp only [List.set_cons_succ]); (try simp only [List.set_cons_zero])
    refine Dp.take_yes (i := 41) (oi := ⟨some 6, _, _, _, _, _⟩) (v := ?_) rfl (by kernel_rfl) (by kernel_rfl) (by kernel_rfl) (fun _ _ _ h => h) (by kernel_rfl) ?_ (by assumption) ?_
    rotate_left
    · (intro w' hSw; (try dsimp only at hSw); first | (go_simp; done) | (go_simp; with_reducible rfl))
    (try simp only [Act.put]); (try simp only [List.setIfInBounds_toArray]); (try simp only [List.set_cons_succ]); (try simp only [List.set_cons_zero])
    refine wpAnyH_done (by kernel_rfl) ?_ _
    go_wp2
    go_ret
    exact ⟨rfl, B.out.trans (k.mono B.out.size)⟩

theorem laid_met (os : Os) : laidMet Tryd.prog Rows.attrSameRow.laid ((World.doorLaid Tryd.prog 24 os).forCall (fun _ _ => 0) ⟨#[], #[.agg #[.int .u32 0, .slice none 0 0, .bool false, .slice none 0 0], .agg #[.int .u32 0, .slice none 0 0, .bool false, .slice none 0 0], .bool false], []⟩).memory :=
  laidMet_of_run' 8 (by kernel_rfl) (by kernel_rfl)
theorem reads (os : Os) {H : Type} (enc : TypeId × Value → H) : ∃ places, DataW.whole enc Tryd.prog ((World.doorLaid Tryd.prog 24 os).forCall (fun _ _ => 0) ⟨#[], #[.agg #[.int .u32 0, .slice none 0 0, .bool false, .slice none 0 0], .agg #[.int .u32 0, .slice none 0 0, .bool false, .slice none 0 0], .bool false], []⟩).memory Tryd.f7.params.toList Rows.attrSameSpec.vars false (#[.agg #[.int .u32 0, .slice none 0 0, .bool false, .slice none 0 0], .agg #[.int .u32 0, .slice none 0 0, .bool false, .slice none 0 0], .bool false] : Array Value).toList 8 = some ([.agg [.agg [.lit (.int .u32 0), .nil], .lit (.bool false), .nil], .agg [.agg [.lit (.int .u32 0), .nil], .lit (.bool false), .nil], .lit (.bool false)], [], places) :=
  ⟨[], by kernel_rfl⟩

set_option maxRecDepth 100000 in
theorem lifted (os : Os) (started : os.Started) (H : Type) (enc : TypeId × Value → H) (F : Stop.Interp) :
    ReturnsInHanded {} Tryd.checked os 7 .any ((OpenSpec.ofChange Rows.attrSameSpec).preRow enc Tryd.prog Tryd.f7 Rows.attrSameRow.domain false Rows.attrSameRow.laid) (((OpenSpec.ofChange Rows.attrSameSpec).at F).post enc Tryd.prog Tryd.f7 false true false false) := by
  obtain ⟨places, hx⟩ := reads os enc
  refine returnsInHanded_of_row (C := Tryd.checked) (s := OpenSpec.ofChange Rows.attrSameSpec) own started (by kernel_rfl) Tryd.func7
    (witness_row_at (enc := enc) (C := Tryd.checked) false (World.doorLaid Tryd.prog 24 os) #[.agg #[.int .u32 0, .slice none 0 0, .bool false, .slice none 0 0], .agg #[.int .u32 0, .slice none 0 0, .bool false, .slice none 0 0], .bool false] rfl (by kernel_rfl) (by kernel_rfl) (by kernel_rfl)
      (OpenSpec.preRow_of_cond 8 hx (by kernel_rfl) (fun k hk => by cases hk) (by kernel_rfl) (laid_met os))) ?_
  intro W base args ds gs before hval0 hW _ _ hsz0 hL _ _
  have hval : ∀ (j : Nat) t v, Tryd.f7.params[j]? = some t → args[j]? = some v → Value.okWide Tryd.prog W .any base t v := hval0
  have hsz : (DataW.weightsEach Tryd.prog (Tryd.f7.params.toList ++ Rows.attrSameSpec.plain.varTypes Tryd.prog) (ds ++ gs)).all (· ≤ reachBytes) = true := hsz0
  have hW' := hW
  obtain ⟨p, q, hA0, hV, rfl, hfz, hnd⟩ := hW
  have hA : DataW.TrodAll enc Tryd.prog W 0 (fun _ => true) true Tryd.f7.params.toList args.toList ds p := hA0
  rw [Tryd.params7] at hA hval hsz
  obtain ⟨v0, vs0, d0, ds0, p0, q0, hargs, rfl, rfl, h0, r0⟩ := trodAll_cons hA
  obtain ⟨v1, vs1, d1, ds1, p1, q1, rfl, rfl, rfl, h1, r1⟩ := trodAll_cons r0
  obtain ⟨v2, vs2, d2, ds2, p2, q2, rfl, rfl, rfl, h2, r2⟩ := trodAll_cons r1
  obtain ⟨rfl, rfl, rfl⟩ := trodAll_nil r2
  obtain rfl : args = #[v0, v1, v2] := by cases args; simp_all
  obtain ⟨rfl, rfl⟩ := trodVars_none hV
  have k0 := h0
  have lt0 : ∀ x ∈ p0, x.block < W.heap.size := by obtain ⟨m, hm⟩ := k0; exact DataW.trod_lt m _ _ _ hm
  have k1 := h1
  have lt1 : ∀ x ∈ p1, x.block < W.heap.size := by obtain ⟨m, hm⟩ := k1; exact DataW.trod_lt m _ _ _ hm
  obtain ⟨c0_0, c0_1, c0_2, c0_3, y0_0, y0_1, y0_2, y0_3, n0, m0, rfl, rfl, g0_0, g0_1, g0_2, g0_3⟩ := Rw.open_nest2 Tryd.underlying28 Tryd.underlying25 rfl rfl rfl (by kernel_rfl) (by kernel_rfl) (by kernel_rfl) (by kernel_rfl) (by kernel_rfl) (hval 0 28 v0 rfl rfl) h0
  obtain ⟨a0_0, e0_0, rfl, w0_0⟩ := DataW.trod_int Tryd.underlying22 g0_0
  obtain rfl : c0_0 = .int .u32 a0_0 := by simpa using e0_0
  obtain ⟨a0_1, len0_1, cap0_1, e0_1, w0_1, l0_1, m0_1, o0_1⟩ := Rw.pairs_of Tryd.underlying23 Tryd.underlying58 (by kernel_rfl) rfl rfl (by kernel_rfl) (by kernel_rfl) Tryd.underlying3 Tryd.underlying3 g0_1
  obtain rfl : c0_1 = .slice a0_1 len0_1 cap0_1 := e0_1
  obtain ⟨a0_2, e0_2, rfl⟩ := DataW.trod_bool Tryd.underlying4 g0_2
  obtain rfl : c0_2 = .bool a0_2 := by simpa using e0_2
  obtain ⟨a0_3, len0_3, cap0_3, e0_3, w0_3, l0_3, m0_3⟩ := Rw.ints_of Tryd.underlying26 Tryd.underlying5 (by kernel_rfl) g0_3
  obtain rfl : c0_3 = .slice a0_3 len0_3 cap0_3 := e0_3
  obtain ⟨c1_0, c1_1, c1_2, c1_3, y1_0, y1_1, y1_2, y1_3, n1, m1, rfl, rfl, g1_0, g1_1, g1_2, g1_3⟩ := Rw.open_nest2 Tryd.underlying28 Tryd.underlying25 rfl rfl rfl (by kernel_rfl) (by kernel_rfl) (by kernel_rfl) (by kernel_rfl) (by kernel_rfl) (hval 1 28 v1 rfl rfl) h1
  obtain ⟨a1_0, e1_0, rfl, w1_0⟩ := DataW.trod_int Tryd.underlying22 g1_0
  obtain rfl : c1_0 = .int .u32 a1_0 := by simpa using e1_0
  obtain ⟨a1_1, len1_1, cap1_1, e1_1, w1_1, l1_1, m1_1, o1_1⟩ := Rw.pairs_of Tryd.underlying23 Tryd.underlying58 (by kernel_rfl) rfl rfl (by kernel_rfl) (by kernel_rfl) Tryd.underlying3 Tryd.underlying3 g1_1
  obtain rfl : c1_1 = .slice a1_1 len1_1 cap1_1 := e1_1
  obtain ⟨a1_2, e1_2, rfl⟩ := DataW.trod_bool Tryd.underlying4 g1_2
  obtain rfl : c1_2 = .bool a1_2 := by simpa using e1_2
  obtain ⟨a1_3, len1_3, cap1_3, e1_3, w1_3, l1_3, m1_3⟩ := Rw.ints_of Tryd.underlying26 Tryd.underlying5 (by kernel_rfl) g1_3
  obtain rfl : c1_3 = .slice a1_3 len1_3 cap1_3 := e1_3
  obtain ⟨a2, rfl, rfl, rfl⟩ := open_bool Tryd.underlying4 (hval 2 4 v2 rfl rfl) h2
  clear hA0 hval0
  refine (walk a0_0 a0_1 len0_1 cap0_1 a0_2 a0_3 len0_3 cap0_3 a1_0 a1_1 len1_1 cap1_1 a1_2 a1_3 len1_3 cap1_3 a2 W w0_0 w0_1 l0_1 m0_1 o0_1 w0_3 l0_3 m0_3 w1_0 w1_1 l1_1 m1_1 o1_1 w1_3 l1_3 m1_3 (Bl.tab_of hL)).mono fun e W' ⟨he, bel⟩ => ?_
  subst he
  exact ⟨_, rfl, _, _, _, [], _, [], hW', trodAll_mk1 (shut_bool Tryd.underlying4 _), (trodAll_cons_mk (Below.trod laidOut (by kernel_rfl) (of_decide_eq_true (by kernel_rfl)) k0 bel lt0) (trodAll_cons_mk (Below.trod laidOut (by kernel_rfl) (of_decide_eq_true (by kernel_rfl)) k1 bel lt1) (trodAll_cons_mk (shut_bool Tryd.underlying4 _) trodAll_mk0))), rfl, bel.frame _, fun h => by cases h⟩

theorem over : Rows.attrSameRow.holds Tryd.pinned (OpenSpec.ofChange Rows.attrSameSpec) :=
  OpenClaim.holds_of_cond 7 Tryd.f7 rfl rfl rfl rfl rfl rfl rfl ⟨rfl, rfl, rfl, rfl, rfl⟩ rfl rfl rfl rfl rfl (by kernel_rfl) Tryd.func7 (by kernel_rfl)
    (of_decide_eq_true (by kernel_rfl)) (by unfold Func.isWrapper; first | (rw [if_pos (by decide +kernel)]; kernel_rfl) | (rw [if_neg (by decide +kernel)]; exact ⟨rfl, rfl⟩))
    (fun os started H enc _ F => by rw [OpenClaim.pre_eq_preRow]; exact lifted os started H enc F)

/-- No parameter wants a stand-in. -/
theorem plain (f : FuncId) (fn : Func) (hf : Tryd.pinned.checked.prog.funcNamed "comitia/comitialaw09.AttrSame" = some f) (hfn : Tryd.pinned.checked.prog.funcs[f]? = some fn) :
    false = Tryd.pinned.checked.prog.looks [] ∧ ∀ (j : Nat) t, fn.params[j]? = some t → Tryd.pinned.checked.prog.wantsStandIn t = false := by
  obtain rfl : f = 7 := Option.some.inj ((show Tryd.prog.funcNamed "comitia/comitialaw09.AttrSame" = some 7 by kernel_rfl).symm.trans hf) |>.symm
  obtain rfl : fn = Tryd.f7 := (Option.some.inj (Tryd.func7.symm.trans hfn)).symm
  refine ⟨by kernel_rfl, fun j t ht => ?_⟩
  rw [Tryd.params7] at ht
  have hm : t ∈ [28, 28, 4] := by simpa using Array.mem_of_getElem? ht
  have hall : ([28, 28, 4].all fun u => !Tryd.prog.wantsStandIn u) = true := by kernel_rfl
  exact (show Tryd.prog.wantsStandIn t = false by simpa using List.all_eq_true.1 hall t hm)

theorem proved : Rows.AttrSameCardSaid :=
  Claim7.holds_tied_plain_at .later [] _ _ _ _ over (fun _ h => by cases h) (by kernel_rfl) (fun _ h => by cases h) attrSame_row_tie rfl ⟨rfl, rfl⟩ (by kernel_rfl) rfl plain (by kernel_rfl)
end Go.Proofs.YtkemljpjfbmjgaaDoor.attrSame
