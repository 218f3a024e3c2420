/-
  Proved: for every two numbers with lists of pairs, flags and slices of bytes the law AttrTells returns true and leaves its inputs as they were; the card ties the three tables of the library that the row lists to the text of the program. No condition beyond the form itself (each text at most 2^47 - 4096 bytes; the listed tables start as that text lays them).
-/
import Derived.Test.YtkemljpjfbmjgaaDoorAttrL
import Derived.Test.YtkemljpjfbmjgaaDoorAttrA
import Derived.Test.YtkemljpjfbmjgaaDoorSpan
import Derived.Test.YtkemljpjfbmjgaaDoorBox
import Derived.Test.YtkemljpjfbmjgaaDoorTab
import Derived.Test.YtkemljpjfbmjgaaDoorDepsD
import Derived.Test.YtkemljpjfbmjgaaDoorCards
import Derived.Test.YtkemljpjfbmjgaaDoorTie
import Derived.Deep.DeepHandedRow
import Derived.LaidMore
import Derived.SevenTiedAt
import Derived.WalkKit
import Derived.ProofKit
import Derived.OpenShut
import Derived.ShutString
import Derived.SizedLaws
import Derived.ChangeOld
import Derived.Below
import Derived.Carry
import Derived.Lib.SmallJoins
import Derived.Deep.SlicePairs
import Derived.SliceStrings
import Derived.ChangeSlices
namespace Go.Proofs.YtkemljpjfbmjgaaDoor.attrTells
open Go.ChangeShapes Go.WideShapes Go.ChangeAt Go.RowKit Go.Joins Go.Deep
open Go.ChangeMaps (open_string shut_string)
set_option linter.unusedVariables false

theorem own : ownKnob Tryd.prog.godebug = none := by kernel_rfl
theorem laidOut : laidOutB Tryd.prog = true := by kernel_rfl

set_option maxRecDepth 100000 in
set_option maxHeartbeats 4000000 in
theorem walk (a0_0 : Int) (a0_1 : Option Addr) (len0_1 cap0_1 : Nat) (a0_2 : Bool) (a0_3 : Option Addr) (len0_3 cap0_3 : Nat) (a1_0 : Int) (a1_1 : Option Addr) (len1_1 cap1_1 : Nat) (a1_2 : Bool) (a1_3 : Option Addr) (len1_3 cap1_3 : Nat) (w : World) (w0_0 : (Lit.int .u32 a0_0).wf = true) (w0_1 : ∀ i, i < len0_1 → ∃ (x : Addr) (e0 e1 : Int), a0_1 = some x ∧ x.block < w.heap.size ∧ w.cell? (x.add (i * 2)) = some (.int .i64 e0) ∧ w.cell? (x.add (i * 2 + 1)) = some (.int .i64 e1) ∧ (Lit.int .i64 e0).wf = true ∧ (Lit.int .i64 e1).wf = true) (l0_1 : len0_1 ≤ cap0_1) (m0_1 : cap0_1 ≤ maxLen) (o0_1 : a0_1 = none → cap0_1 = 0) (w0_3 : ∀ i, i < len0_3 → ∃ (x : Addr) (e0 : Int), a0_3 = some x ∧ x.block < w.heap.size ∧ w.cell? (x.add i) = some (.int .u8 e0) ∧ (Lit.int .u8 e0).wf = true) (l0_3 : len0_3 ≤ cap0_3) (m0_3 : cap0_3 ≤ maxLen) (w1_0 : (Lit.int .u32 a1_0).wf = true) (w1_1 : ∀ i, i < len1_1 → ∃ (x : Addr) (e0 e1 : Int), a1_1 = some x ∧ x.block < w.heap.size ∧ w.cell? (x.add (i * 2)) = some (.int .i64 e0) ∧ w.cell? (x.add (i * 2 + 1)) = some (.int .i64 e1) ∧ (Lit.int .i64 e0).wf = true ∧ (Lit.int .i64 e1).wf = true) (l1_1 : len1_1 ≤ cap1_1) (m1_1 : cap1_1 ≤ maxLen) (o1_1 : a1_1 = none → cap1_1 = 0) (w1_3 : ∀ i, i < len1_3 → ∃ (x : Addr) (e0 : Int), a1_3 = some x ∧ x.block < w.heap.size ∧ w.cell? (x.add i) = some (.int .u8 e0) ∧ (Lit.int .u8 e0).wf = true) (l1_3 : len1_3 ≤ cap1_3) (m1_3 : cap1_3 ≤ maxLen) (ht : Bl.Tab w) :
    Calls Tryd.prog 3 #[.agg #[.int .u32 a0_0, .slice a0_1 len0_1 cap0_1, .bool a0_2, .slice a0_3 len0_3 cap0_3], .agg #[.int .u32 a1_0, .slice a1_1 len1_1 cap1_1, .bool a1_2, .slice a1_3 len1_3 cap1_3]] w fun e w' => e = .returned (.bool true) ∧ Below w.heap.size w w' := by
  obtain ⟨na, rfl, hna⟩ := At.nat_of w0_0
  obtain ⟨ba, rfl, hba⟩ := Dp.Bts.of w0_3
  have TA := Lib.hid hba
  obtain ⟨xa, rfl, hia, hra⟩ := At.idz_of l0_1 m0_1 o0_1 w0_1
  have XA := Lib.hid hia
  obtain ⟨ka, za, ua, gza, lza, sza, ctra⟩ := At.attr_any na hna a0_2 xa hra ba a0_1 cap0_1 a0_3 cap0_3 l0_3 m0_3
  have CA := Lib.hid ctra
  have GA := Lib.hid gza
  have LA := Lib.hid lza
  have SA := Lib.hid sza
  clear hba hia hra w0_0 w0_3 w0_1 gza lza sza ctra
  obtain ⟨nb, rfl, hnb⟩ := At.nat_of w1_0
  obtain ⟨bb, rfl, hbb⟩ := Dp.Bts.of w1_3
  have TB := Lib.hid hbb
  obtain ⟨xb, rfl, hib, hrb⟩ := At.idz_of l1_1 m1_1 o1_1 w1_1
  have XB := Lib.hid hib
  obtain ⟨kb, zb, ub, gzb, lzb, szb, ctrb⟩ := At.attr_any nb hnb a1_2 xb hrb bb a1_1 cap1_1 a1_3 cap1_3 l1_3 m1_3
  have CB := Lib.hid ctrb
  have GB := Lib.hid gzb
  have LB := Lib.hid lzb
  have SB := Lib.hid szb
  clear hbb hib hrb w1_0 w1_3 w1_1 gzb lzb szb ctrb
  obtain ⟨s, ok, hs⟩ : ∃ s ok, Hid (At.putA (ka, za) = (s, ok)) := ⟨_, _, Lib.hid rfl⟩
  obtain ⟨r, hr⟩ : ∃ r, Hid (At.rightA (ka, za) = r) := ⟨_, Lib.hid rfl⟩
  obtain ⟨q, hq⟩ : ∃ q, Hid (decide (((ka, za) : At.AT) = (kb, zb)) = q) := ⟨_, Lib.hid rfl⟩
  obtain ⟨ta, hta⟩ : ∃ t, Hid ((⟨(At.textA (ka, za)).toArray⟩ : ByteArray) = t) := ⟨_, Lib.hid rfl⟩
  obtain ⟨z, hz⟩ : ∃ z, Hid ((a0_2 && a1_2) = z) := ⟨_, Lib.hid rfl⟩
  have HT := Lib.hid ht
  clear ht
  go_enter Tryd.func3, Tryd.ntmps3
  go_wp2_with fail
  have RA := Lib.hid ((At.row_new w (.int .u32 na) (.slice a0_1 xa.length cap0_1) (.bool a0_2) (.slice a0_3 ba.length cap0_3) 28).alloc (.cells #[.int .u32 nb, .slice a1_1 xb.length cap1_1, .bool a1_2, .slice a1_3 bb.length cap1_3] 28))
  have RB := Lib.hid (At.row_newAt (w.alloc (.cells #[.int .u32 na, .slice a0_1 xa.length cap0_1, .bool a0_2, .slice a0_3 ba.length cap0_3] 28)) (.int .u32 nb) (.slice a1_1 xb.length cap1_1) (.bool a1_2) (.slice a1_3 bb.length cap1_3) 28 (w.heap.size + 1) (by simp))
  have B := Lib.hid (Bl.below_2 w (.cells #[.int .u32 na, .slice a0_1 xa.length cap0_1, .bool a0_2, .slice a0_3 ba.length cap0_3] 28) (.cells #[.int .u32 nb, .slice a1_1 xb.length cap1_1, .bool a1_2, .slice a1_3 bb.length cap1_3] 28))
  generalize (w.alloc (.cells #[.int .u32 na, .slice a0_1 xa.length cap0_1, .bool a0_2, .slice a0_3 ba.length cap0_3] 28)).alloc (.cells #[.int .u32 nb, .slice a1_1 xb.length cap1_1, .bool a1_2, .slice a1_3 bb.length cap1_3] 28) = v0 at *
  refine (At.examples_any v0 (HT.out.over B.out)).mono ?_
  rintro e v1 ⟨rfl, hb⟩
  replace RA := Lib.hid (RA.out.over hb)
  replace RB := Lib.hid (RB.out.over hb)
  replace B := Lib.hid (B.out.trans (hb.mono B.out.size))
  clear hb
  have ⟨ra0, ra1, ra2, ra3, ra4, ra5⟩ := At.row_four RA.out
  have ⟨rb0, rb1, rb2, rb3, rb4, rb5⟩ := At.row_four RB.out
  go_wp2_with fail
  refine (CA.out v1 (XA.out.kept B.out) (TA.out.kept B.out)).mono ?_
  rintro e v2 ⟨pa, ca, rfl, ia, hb⟩
  clear ra0 ra1 ra2 ra3 ra4 ra5 rb0 rb1 rb2 rb3 rb4 rb5
  replace RA := Lib.hid (RA.out.over hb)
  replace RB := Lib.hid (RB.out.over hb)
  replace B := Lib.hid (B.out.trans (hb.mono B.out.size))
  clear hb
  have IA := Lib.hid ia
  clear ia
  have ⟨rb0, rb1, rb2, rb3, rb4, rb5⟩ := At.row_four RB.out
  go_wp2_with fail
  have hb := Bl.below_1 v2 (.cells #[.int .u32 ka, .slice pa za.length ca] 25)
  clear rb0 rb1 rb2 rb3 rb4 rb5
  replace RA := Lib.hid (RA.out.over hb)
  replace RB := Lib.hid (RB.out.over hb)
  replace IA := Lib.hid (IA.out.kept hb)
  replace B := Lib.hid (B.out.trans (hb.mono B.out.size))
  have PA := Lib.hid (Bl.Pair.newAt (v2) (.int .u32 ka) (.slice pa za.length ca) 25 (v2.heap.size) (by simp))
  generalize v2.alloc (.cells #[.int .u32 ka, .slice pa za.length ca] 25) = v3 at *
  generalize v2.heap.size = g3 at *
  clear hb
  refine (CB.out v3 (XB.out.kept B.out) (TB.out.kept B.out)).mono ?_
  rintro e v4 ⟨pb, cb, rfl, ib, hb⟩
  replace RA := Lib.hid (RA.out.over hb)
  replace RB := Lib.hid (RB.out.over hb)
  replace IA := Lib.hid (IA.out.kept hb)
  replace PA := Lib.hid (PA.out.over hb)
  replace B := Lib.hid (B.out.trans (hb.mono B.out.size))
  clear hb
  have IB := Lib.hid ib
  clear ib
  have ⟨pa_0, pa_1, pa_2, pa_3, pa_4⟩ := PA.out
  go_wp2_with fail
  have hb := Bl.below_1 v4 (.cells #[.int .u32 kb, .slice pb zb.length cb] 25)
  clear pa_0 pa_1 pa_2 pa_3 pa_4
  replace RA := Lib.hid (RA.out.over hb)
  replace RB := Lib.hid (RB.out.over hb)
  replace IA := Lib.hid (IA.out.kept hb)
  replace PA := Lib.hid (PA.out.over hb)
  replace IB := Lib.hid (IB.out.kept hb)
  replace B := Lib.hid (B.out.trans (hb.mono B.out.size))
  have PB := Lib.hid (Bl.Pair.newAt (v4) (.int .u32 kb) (.slice pb zb.length cb) 25 (v4.heap.size) (by simp))
  generalize v4.alloc (.cells #[.int .u32 kb, .slice pb zb.length cb] 25) = v5 at *
  generalize v4.heap.size = g5 at *
  clear hb
  refine (At.put_any ka ua za s ok hs.out (by have := LA.out; omega) pa ca v5 IA.out.toIds).mono ?_
  rintro e v6 ⟨rfl, hb⟩
  replace RA := Lib.hid (RA.out.over hb)
  replace RB := Lib.hid (RB.out.over hb)
  replace IA := Lib.hid (IA.out.kept hb)
  replace PA := Lib.hid (PA.out.over hb)
  replace IB := Lib.hid (IB.out.kept hb)
  replace PB := Lib.hid (PB.out.over hb)
  replace B := Lib.hid (B.out.trans (hb.mono B.out.size))
  clear hb
  have ⟨pa_0, pa_1, pa_2, pa_3, pa_4⟩ := PA.out
  go_wp2_with fail
  refine (At.refattr_any ka za pa ca (by have := LA.out; omega) v6 IA.out.toIds).mono ?_
  rintro e v7 ⟨pr, cr, rfl, ir, hb⟩
  clear pa_0 pa_1 pa_2 pa_3 pa_4
  replace RA := Lib.hid (RA.out.over hb)
  replace RB := Lib.hid (RB.out.over hb)
  replace IA := Lib.hid (IA.out.kept hb)
  replace PA := Lib.hid (PA.out.over hb)
  replace IB := Lib.hid (IB.out.kept hb)
  replace PB := Lib.hid (PB.out.over hb)
  replace B := Lib.hid (B.out.trans (hb.mono B.out.size))
  clear hb
  have IR := Lib.hid ir
  clear ir
  go_wp2_with fail
  refine (At.refput_any ka ua za s ok hs.out (by have := LA.out; omega) pr cr v7 IR.out.toIds).mono ?_
  rintro e v8 ⟨rfl, hb⟩
  replace RA := Lib.hid (RA.out.over hb)
  replace RB := Lib.hid (RB.out.over hb)
  replace IA := Lib.hid (IA.out.kept hb)
  replace PA := Lib.hid (PA.out.over hb)
  replace IB := Lib.hid (IB.out.kept hb)
  replace PB := Lib.hid (PB.out.over hb)
  replace IR := Lib.hid (IR.out.kept hb)
  replace B := Lib.hid (B.out.trans (hb.mono B.out.size))
  clear hb
  clear IR
  have ⟨ra0, ra1, ra2, ra3, ra4, ra5⟩ := At.row_four RA.out
  have ⟨rb0, rb1, rb2, rb3, rb4, rb5⟩ := At.row_four RB.out
  go_upto_region 8 with fail
  go_cut [37] (fun s37 wx => s37 = .bool z ∧ wx = v8)
  case first =>
    have hz2 := hz.out
    clear hz
    cases a0_2 <;> cases a1_2 <;> (obtain rfl := hz2.symm; go_wp2_with fail; go_meet; exact ⟨rfl, rfl⟩)
  case rest =>
    obtain ⟨rfl, rfl⟩ := hcut
    clear ra0 ra1 ra2 ra3 ra4 ra5 rb0 rb1 rb2 rb3 rb4 rb5
    go_upto_if 37 with fail
    go_cut [] (fun wx => Below wc.heap.size wc wx)
    case first =>
      cases z with
      | false =>
        go_wp2_with fail
        go_meet
        exact Below.refl _ _
      | true =>
        have hz2 := hz.out
        rw [Bool.and_eq_true] at hz2
        have SZA := Lib.hid (SA.out hz2.1)
        have SZB := Lib.hid (SB.out hz2.2)
        clear hz2
        obtain ⟨j, hj⟩ : ∃ j, max ka kb = j := ⟨_, rfl⟩
        obtain ⟨zj, hzj⟩ : ∃ z, Hid (Dp.joinD za zb = z) := ⟨_, Lib.hid rfl⟩
        have LJ : Hid (zj.length ≤ 72) := Lib.hid (by have := At.join_length zb za; have := LA.out; have := LB.out; rw [hzj.out] at *; omega)
        have HJ := Lib.hid hj
        clear hj
        have KB := Lib.hid (Below.refl wc.heap.size wc)
        have ⟨pa_0, pa_1, pa_2, pa_3, pa_4⟩ := PA.out
        have ⟨pb_0, pb_1, pb_2, pb_3, pb_4⟩ := PB.out
        go_wp2_with fail
        refine (At.join_any ka kb j HJ.out za zb zj hzj.out SZA.out SZB.out (by have := LA.out; omega) (by have := LB.out; omega) pa pb ca cb wc IA.out IB.out).mono ?_
        rintro e v9 ⟨pj, cj, rfl, ij, hb⟩
        clear pa_0 pa_1 pa_2 pa_3 pa_4 pb_0 pb_1 pb_2 pb_3 pb_4
        replace RA := Lib.hid (RA.out.over hb)
        replace RB := Lib.hid (RB.out.over hb)
        replace IA := Lib.hid (IA.out.kept hb)
        replace PA := Lib.hid (PA.out.over hb)
        replace IB := Lib.hid (IB.out.kept hb)
        replace PB := Lib.hid (PB.out.over hb)
        replace B := Lib.hid (B.out.trans (hb.mono B.out.size))
        replace KB := Lib.hid (KB.out.trans (hb.mono KB.out.size))
        clear hb
        have IJ := Lib.hid ij
        clear ij
        have ⟨pa_0, pa_1, pa_2, pa_3, pa_4⟩ := PA.out
        have ⟨pb_0, pb_1, pb_2, pb_3, pb_4⟩ := PB.out
        go_upto_region 10 with fail
        have hb := Bl.below_1 v9 (.cells #[.int .u32 j, .slice pj zj.length cj] 25)
        clear pa_0 pa_1 pa_2 pa_3 pa_4 pb_0 pb_1 pb_2 pb_3 pb_4
        replace RA := Lib.hid (RA.out.over hb)
        replace RB := Lib.hid (RB.out.over hb)
        replace IA := Lib.hid (IA.out.kept hb)
        replace PA := Lib.hid (PA.out.over hb)
        replace IB := Lib.hid (IB.out.kept hb)
        replace PB := Lib.hid (PB.out.over hb)
        replace IJ := Lib.hid (IJ.out.kept hb)
        replace B := Lib.hid (B.out.trans (hb.mono B.out.size))
        replace KB := Lib.hid (KB.out.trans (hb.mono KB.out.size))
        have PJ := Lib.hid (Bl.Pair.newAt (v9) (.int .u32 j) (.slice pj zj.length cj) 25 (v9.heap.size) (by simp))
        generalize v9.alloc (.cells #[.int .u32 j, .slice pj zj.length cj] 25) = v10 at *
        generalize v9.heap.size = g10 at *
        clear hb
        go_cut [13] (fun s13 wx => ∃ (g : Nat) (vd : Option Addr) (cd : Nat), s13 = .pointer (some ⟨g, 0, none⟩) ∧ Hid (Bl.Pair wx g (.int .u32 j) (.slice vd zj.length cd)) ∧ Hid (Dp.Idz wx vd cd zj) ∧ Hid (Below v10.heap.size v10 wx))
        case first =>
          have ⟨pa_0, pa_1, pa_2, pa_3, pa_4⟩ := PA.out
          have ⟨pb_0, pb_1, pb_2, pb_3, pb_4⟩ := PB.out
          have HC : Hid (∀ w', Below v10.heap.size v10 w' → w'.cell? ⟨g3, 0, none⟩ = some (.int .u32 ka) ∧ w'.cell? ⟨g3, 1, none⟩ = some (.slice pa za.length ca) ∧ w'.cell? ⟨g5, 0, none⟩ = some (.int .u32 kb) ∧ w'.cell? ⟨g5, 1, none⟩ = some (.slice pb zb.length cb)) := Lib.hid (fun w' h => ⟨(PA.out.over h).2.1, (PA.out.over h).2.2.1, (PB.out.over h).2.1, (PB.out.over h).2.2.1⟩)
          have k : Below v10.heap.size v10 v10.drew := (Below.refl _ _).drew
          clear pa_0 pa_1 pa_2 pa_3 pa_4 pb_0 pb_1 pb_2 pb_3 pb_4
          refine wp_region_held_drew (S := fun w' => w'.cell? ⟨g3, 0, none⟩ = some (.int .u32 ka) ∧ w'.cell? ⟨g3, 1, none⟩ = some (.slice pa za.length ca) ∧ w'.cell? ⟨g5, 0, none⟩ = some (.int .u32 kb) ∧ w'.cell? ⟨g5, 1, none⟩ = some (.slice pb zb.length cb)) (by kernel_rfl) (HC.out _ k) (fun hHeld => ?_)
          generalize v10.drew = vd at *
          refine Dp.take_yes (i := 0) (oi := ⟨some 41, _, _, _, _, _⟩) (v := ?_) rfl (by kernel_rfl) (by kernel_rfl) (by kernel_rfl) (fun _ _ _ h => h) (by kernel_rfl) ?_ (by assumption) ?_
          rotate_left
          · (intro w' hSw; (try dsimp only at hSw); first | (go_simp; done) | (go_simp; with_reducible rfl))
          (try simp only [Act.put]); (try simp only [List.setIfInBounds_toArray]); (try simp only [List.set_cons_succ]); (try simp only [List.set_cons_zero])
          refine Dp.take_yes (i := 2) (oi := ⟨some 43, _, _, _, _, _⟩) (v := ?_) rfl (by kernel_rfl) (by kernel_rfl) (by kernel_rfl) (fun _ _ _ h => h) (by kernel_rfl) ?_ (by assumption) ?_
          rotate_left
          · (intro w' hSw; (try dsimp only at hSw); first | (go_simp; done) | (go_simp; with_reducible rfl))
          (try simp only [Act.put]); (try simp only [List.setIfInBounds_toArray]); (try simp only [List.set_cons_succ]); (try simp only [List.set_cons_zero])
          refine wpAnyH_ready (rs := [1, 5]) (by kernel_rfl) (by simp) ?_
          refine AllReadyH.cons (o := ⟨some 42, _, _, _, _, _⟩) rfl (fun K hK => ?_) (AllReadyH.cons (o := ⟨some 13, _, _, _, _, _⟩) rfl (fun K hK => ?_) AllReadyH.nil)
          · go_simp
            go_at_call 13
            refine (At.refattr_any ka za pa ca (by have := LA.out; omega) _ (IA.out.kept k).toIds).mono ?_
            rintro e y1 ⟨j1, d1, rfl, i1, hb⟩
            replace k := Dp.keep2 hb k
            (try clear n0 n1 n2 n3 n4)
            (try (replace pn := pn.over hb))
            (try (have ⟨n0, n1, n2, n3, n4⟩ := pn))
            clear hb
            (try go_wp2_with fail)
            refine hK.out _ _ (HC.out _ (by assumption)) (fun hHeld2 => ?_)
            clear hK hHeld; have hHeld := hHeld2; clear hHeld2
            (try simp only [Act.put]); (try simp only [List.setIfInBounds_toArray]); (try simp only [List.set_cons_succ]); (try simp only [List.set_cons_zero])
            refine wpAnyH_ready (rs := [3, 5]) (by kernel_rfl) (by simp) ?_
            refine AllReadyH.cons (o := ⟨some 44, _, _, _, _, _⟩) rfl (fun K hK => ?_) (AllReadyH.cons (o := ⟨some 13, _, _, _, _, _⟩) rfl (fun K hK => ?_) AllReadyH.nil)
            · go_simp
              go_at_call 13
              refine (At.refattr_any kb zb pb cb (by have := LB.out; omega) _ (IB.out.kept k).toIds).mono ?_
              rintro e y2 ⟨j2, d2, rfl, i2, hb⟩
              replace k := Dp.keep2 hb k
              (try clear n0 n1 n2 n3 n4)
              (try (replace pn := pn.over hb))
              (try (have ⟨n0, n1, n2, n3, n4⟩ := pn))
              replace i1 := i1.kept hb
              clear hb
              (try go_wp2_with fail)
              refine hK.out _ _ (HC.out _ (by assumption)) (fun hHeld2 => ?_)
              clear hK hHeld; have hHeld := hHeld2; clear hHeld2
              (try simp only [Act.put]); (try simp only [List.setIfInBounds_toArray]); (try simp only [List.set_cons_succ]); (try simp only [List.set_cons_zero])
              refine wpAnyH_ready (rs := [4, 5]) (by kernel_rfl) (by simp) ?_
              refine AllReadyH.cons (o := ⟨some 45, _, _, _, _, _⟩) rfl (fun K hK => ?_) (AllReadyH.cons (o := ⟨some 13, _, _, _, _, _⟩) rfl (fun K hK => ?_) AllReadyH.nil)
              · go_simp
                go_at_call 15
                refine (At.refjoin_any ka kb j HJ.out za zb zj hzj.out (by have := LA.out; have := LB.out; omega) j1 j2 d1 d2 _ i1 i2).mono ?_
                rintro e y3 ⟨j3, d3, rfl, i3, hb⟩
                replace k := Dp.keep2 hb k
                (try clear n0 n1 n2 n3 n4)
                (try (replace pn := pn.over hb))
                (try (have ⟨n0, n1, n2, n3, n4⟩ := pn))
                clear hb
                (try go_wp2_with fail)
                refine hK.out _ _ (HC.out _ (by assumption)) (fun hHeld2 => ?_)
                clear hK hHeld; have hHeld := hHeld2; clear hHeld2
                (try simp only [Act.put]); (try simp only [List.setIfInBounds_toArray]); (try simp only [List.set_cons_succ]); (try simp only [List.set_cons_zero])
                refine wpAnyH_ready (rs := [5]) (by kernel_rfl) (by simp) ?_
                refine AllReadyH.cons (o := ⟨some 13, _, _, _, _, _⟩) rfl (fun K hK => ?_) AllReadyH.nil
                go_simp
                have hg := k.size
                have pn := At.pair_of k (.int .u32 0) (.slice none 0 0) 36
                (try (replace i1 := i1.kept (At.below_of k (.cells #[.int .u32 0, .slice none 0 0] 36))))
                (try (replace i2 := i2.kept (At.below_of k (.cells #[.int .u32 0, .slice none 0 0] 36))))
                (try (replace i3 := i3.kept (At.below_of k (.cells #[.int .u32 0, .slice none 0 0] 36))))
                replace k := k.alloc hg (.cells #[.int .u32 0, .slice none 0 0] 36)
                refine hK.out _ _ (HC.out _ (by assumption)) (fun hHeld2 => ?_)
                clear hK hHeld; have hHeld := hHeld2; clear hHeld2
                (try simp only [Act.put]); (try simp only [List.setIfInBounds_toArray]); (try simp only [List.set_cons_succ]); (try simp only [List.set_cons_zero])
                generalize y3.alloc (.cells #[.int .u32 0, .slice none 0 0] 36) = Y4 at *
                generalize y3.heap.size = gn at *
                have ⟨n0, n1, n2, n3, n4⟩ := pn
                refine wpAnyH_ready (rs := [6]) (by kernel_rfl) (by simp) ?_
                refine AllReadyH.cons (o := ⟨none, _, _, _, _, _⟩) rfl (fun K hK => ?_) AllReadyH.nil
                go_simp
                have pn2 := Lib.hid (pn.put (.int .u32 j) (.slice j3 zj.length d3))
                have i4 := Lib.hid (At.idz_set2 i3 pn (fun i e => by cases e) (.int .u32 j) (.slice j3 zj.length d3))
                replace k := Bl.below_set2 k hg (.int .u32 j) (.slice j3 zj.length d3)
                clear n0 n1 n2 n3 n4
                refine hK.out _ _ (HC.out _ (by assumption)) (fun hHeld2 => ?_)
                clear hK hHeld; have hHeld := hHeld2; clear hHeld2
                (try simp only [Act.put]); (try simp only [List.setIfInBounds_toArray]); (try simp only [List.set_cons_succ]); (try simp only [List.set_cons_zero])
                refine wpAnyH_done (by kernel_rfl) ?_ _
                go_wp2
                go_meet
                exact ⟨_, j3, d3, rfl, pn2, i4, Lib.hid k⟩
              · go_simp
                have hg := k.size
                have pn := At.pair_of k (.int .u32 0) (.slice none 0 0) 36
                (try (replace i1 := i1.kept (At.below_of k (.cells #[.int .u32 0, .slice none 0 0] 36))))
                (try (replace i2 := i2.kept (At.below_of k (.cells #[.int .u32 0, .slice none 0 0] 36))))
                (try (replace i3 := i3.kept (At.below_of k (.cells #[.int .u32 0, .slice none 0 0] 36))))
                replace k := k.alloc hg (.cells #[.int .u32 0, .slice none 0 0] 36)
                refine hK.out _ _ (HC.out _ (by assumption)) (fun hHeld2 => ?_)
                clear hK hHeld; have hHeld := hHeld2; clear hHeld2
                (try simp only [Act.put]); (try simp only [List.setIfInBounds_toArray]); (try simp only [List.set_cons_succ]); (try simp only [List.set_cons_zero])
                generalize y2.alloc (.cells #[.int .u32 0, .slice none 0 0] 36) = Y6 at *
                generalize y2.heap.size = gn at *
                have ⟨n0, n1, n2, n3, n4⟩ := pn
                refine wpAnyH_ready (rs := [4]) (by kernel_rfl) (by simp) ?_
                refine AllReadyH.cons (o := ⟨some 45, _, _, _, _, _⟩) rfl (fun K hK => ?_) AllReadyH.nil
                go_simp
                go_at_call 15
                refine (At.refjoin_any ka kb j HJ.out za zb zj hzj.out (by have := LA.out; have := LB.out; omega) j1 j2 d1 d2 _ i1 i2).mono ?_
                rintro e y7 ⟨j3, d3, rfl, i3, hb⟩
                replace k := Dp.keep2 hb k
                (try clear n0 n1 n2 n3 n4)
                (try (replace pn := pn.over hb))
                (try (have ⟨n0, n1, n2, n3, n4⟩ := pn))
                clear hb
                (try go_wp2_with fail)
                refine hK.out _ _ (HC.out _ (by assumption)) (fun hHeld2 => ?_)
                clear hK hHeld; have hHeld := hHeld2; clear hHeld2
                (try simp only [Act.put]); (try simp only [List.setIfInBounds_toArray]); (try simp only [List.set_cons_succ]); (try simp only [List.set_cons_zero])
                refine wpAnyH_ready (rs := [6]) (by kernel_rfl) (by simp) ?_
                refine AllReadyH.cons (o := ⟨none, _, _, _, _, _⟩) rfl (fun K hK => ?_) AllReadyH.nil
                go_simp
                have pn2 := Lib.hid (pn.put (.int .u32 j) (.slice j3 zj.length d3))
                have i4 := Lib.hid (At.idz_set2 i3 pn (fun i e => by cases e) (.int .u32 j) (.slice j3 zj.length d3))
                replace k := Bl.below_set2 k hg (.int .u32 j) (.slice j3 zj.length d3)
                clear n0 n1 n2 n3 n4
                refine hK.out _ _ (HC.out _ (by assumption)) (fun hHeld2 => ?_)
                clear hK hHeld; have hHeld := hHeld2; clear hHeld2
                (try simp only [Act.put]); (try simp only [List.setIfInBounds_toArray]); (try simp only [List.set_cons_succ]); (try simp only [List.set_cons_zero])
                refine wpAnyH_done (by kernel_rfl) ?_ _
                go_wp2
                go_meet
                exact ⟨_, j3, d3, rfl, pn2, i4, Lib.hid k⟩
            · go_simp
              have hg := k.size
              have pn := At.pair_of k (.int .u32 0) (.slice none 0 0) 36
              (try (replace i1 := i1.kept (At.below_of k (.cells #[.int .u32 0, .slice none 0 0] 36))))
              (try (replace i2 := i2.kept (At.below_of k (.cells #[.int .u32 0, .slice none 0 0] 36))))
              (try (replace i3 := i3.kept (At.below_of k (.cells #[.int .u32 0, .slice none 0 0] 36))))
              replace k := k.alloc hg (.cells #[.int .u32 0, .slice none 0 0] 36)
              refine hK.out _ _ (HC.out _ (by assumption)) (fun hHeld2 => ?_)
              clear hK hHeld; have hHeld := hHeld2; clear hHeld2
              (try simp only [Act.put]); (try simp only [List.setIfInBounds_toArray]); (try simp only [List.set_cons_succ]); (try simp only [List.set_cons_zero])
              generalize y1.alloc (.cells #[.int .u32 0, .slice none 0 0] 36) = Y9 at *
              generalize y1.heap.size = gn at *
              have ⟨n0, n1, n2, n3, n4⟩ := pn
              refine wpAnyH_ready (rs := [3]) (by kernel_rfl) (by simp) ?_
              refine AllReadyH.cons (o := ⟨some 44, _, _, _, _, _⟩) rfl (fun K hK => ?_) AllReadyH.nil
              go_simp
              go_at_call 13
              refine (At.refattr_any kb zb pb cb (by have := LB.out; omega) _ (IB.out.kept k).toIds).mono ?_
              rintro e y10 ⟨j2, d2, rfl, i2, hb⟩
              replace k := Dp.keep2 hb k
              (try clear n0 n1 n2 n3 n4)
              (try (replace pn := pn.over hb))
              (try (have ⟨n0, n1, n2, n3, n4⟩ := pn))
              replace i1 := i1.kept hb
              clear hb
              (try go_wp2_with fail)
              refine hK.out _ _ (HC.out _ (by assumption)) (fun hHeld2 => ?_)
              clear hK hHeld; have hHeld := hHeld2; clear hHeld2
              (try simp only [Act.put]); (try simp only [List.setIfInBounds_toArray]); (try simp only [List.set_cons_succ]); (try simp only [List.set_cons_zero])
              refine wpAnyH_ready (rs := [4]) (by kernel_rfl) (by simp) ?_
              refine AllReadyH.cons (o := ⟨some 45, _, _, _, _, _⟩) rfl (fun K hK => ?_) AllReadyH.nil
              go_simp
              go_at_call 15
              refine (At.refjoin_any ka kb j HJ.out za zb zj hzj.out (by have := LA.out; have := LB.out; omega) j1 j2 d1 d2 _ i1 i2).mono ?_
              rintro e y11 ⟨j3, d3, rfl, i3, hb⟩
              replace k := Dp.keep2 hb k
              (try clear n0 n1 n2 n3 n4)
              (try (replace pn := pn.over hb))
              (try (have ⟨n0, n1, n2, n3, n4⟩ := pn))
              clear hb
              (try go_wp2_with fail)
              refine hK.out _ _ (HC.out _ (by assumption)) (fun hHeld2 => ?_)
              clear hK hHeld; have hHeld := hHeld2; clear hHeld2
              (try simp only [Act.put]); (try simp only [List.setIfInBounds_toArray]); (try simp only [List.set_cons_succ]); (try simp only [List.set_cons_zero])
              refine wpAnyH_ready (rs := [6]) (by kernel_rfl) (by simp) ?_
              refine AllReadyH.cons (o := ⟨none, _, _, _, _, _⟩) rfl (fun K hK => ?_) AllReadyH.nil
              go_simp
              have pn2 := Lib.hid (pn.put (.int .u32 j) (.slice j3 zj.length d3))
              have i4 := Lib.hid (At.idz_set2 i3 pn (fun i e => by cases e) (.int .u32 j) (.slice j3 zj.length d3))
              replace k := Bl.below_set2 k hg (.int .u32 j) (.slice j3 zj.length d3)
              clear n0 n1 n2 n3 n4
              refine hK.out _ _ (HC.out _ (by assumption)) (fun hHeld2 => ?_)
              clear hK hHeld; have hHeld := hHeld2; clear hHeld2
              (try simp only [Act.put]); (try simp only [List.setIfInBounds_toArray]); (try simp only [List.set_cons_succ]); (try simp only [List.set_cons_zero])
              refine wpAnyH_done (by kernel_rfl) ?_ _
              go_wp2
              go_meet
              exact ⟨_, j3, d3, rfl, pn2, i4, Lib.hid k⟩
          · go_simp
            have hg := k.size
            have pn := At.pair_of k (.int .u32 0) (.slice none 0 0) 36
            (try (replace i1 := i1.kept (At.below_of k (.cells #[.int .u32 0, .slice none 0 0] 36))))
            (try (replace i2 := i2.kept (At.below_of k (.cells #[.int .u32 0, .slice none 0 0] 36))))
            (try (replace i3 := i3.kept (At.below_of k (.cells #[.int .u32 0, .slice none 0 0] 36))))
            replace k := k.alloc hg (.cells #[.int .u32 0, .slice none 0 0] 36)
            refine hK.out _ _ (HC.out _ (by assumption)) (fun hHeld2 => ?_)
            clear hK hHeld; have hHeld := hHeld2; clear hHeld2
            (try simp only [Act.put]); (try simp only [List.setIfInBounds_toArray]); (try simp only [List.set_cons_succ]); (try simp only [List.set_cons_zero])
            generalize vd.alloc (.cells #[.int .u32 0, .slice none 0 0] 36) = Y13 at *
            generalize vd.heap.size = gn at *
            have ⟨n0, n1, n2, n3, n4⟩ := pn
            refine wpAnyH_ready (rs := [1]) (by kernel_rfl) (by simp) ?_
            refine AllReadyH.cons (o := ⟨some 42, _, _, _, _, _⟩) rfl (fun K hK => ?_) AllReadyH.nil
            go_simp
            go_at_call 13
            refine (At.refattr_any ka za pa ca (by have := LA.out; omega) _ (IA.out.kept k).toIds).mono ?_
            rintro e y14 ⟨j1, d1, rfl, i1, hb⟩
            replace k := Dp.keep2 hb k
            (try clear n0 n1 n2 n3 n4)
            (try (replace pn := pn.over hb))
            (try (have ⟨n0, n1, n2, n3, n4⟩ := pn))
            clear hb
            (try go_wp2_with fail)
            refine hK.out _ _ (HC.out _ (by assumption)) (fun hHeld2 => ?_)
            clear hK hHeld; have hHeld := hHeld2; clear hHeld2
            (try simp only [Act.put]); (try simp only [List.setIfInBounds_toArray]); (try simp only [List.set_cons_succ]); (try simp only [List.set_cons_zero])
            refine wpAnyH_ready (rs := [3]) (by kernel_rfl) (by simp) ?_
            refine AllReadyH.cons (o := ⟨some 44, _, _, _, _, _⟩) rfl (fun K hK => ?_) AllReadyH.nil
            go_simp
            go_at_call 13
            refine (At.refattr_any kb zb pb cb (by have := LB.out; omega) _ (IB.out.kept k).toIds).mono ?_
            rintro e y15 ⟨j2, d2, rfl, i2, hb⟩
            replace k := Dp.keep2 hb k
            (try clear n0 n1 n2 n3 n4)
            (try (replace pn := pn.over hb))
            (try (have ⟨n0, n1, n2, n3, n4⟩ := pn))
            replace i1 := i1.kept hb
            clear hb
            (try go_wp2_with fail)
            refine hK.out _ _ (HC.out _ (by assumption)) (fun hHeld2 => ?_)
            clear hK hHeld; have hHeld := hHeld2; clear hHeld2
            (try simp only [Act.put]); (try simp only [List.setIfInBounds_toArray]); (try simp only [List.set_cons_succ]); (try simp only [List.set_cons_zero])
            refine wpAnyH_ready (rs := [4]) (by kernel_rfl) (by simp) ?_
            refine AllReadyH.cons (o := ⟨some 45, _, _, _, _, _⟩) rfl (fun K hK => ?_) AllReadyH.nil
            go_simp
            go_at_call 15
            refine (At.refjoin_any ka kb j HJ.out za zb zj hzj.out (by have := LA.out; have := LB.out; omega) j1 j2 d1 d2 _ i1 i2).mono ?_
            rintro e y16 ⟨j3, d3, rfl, i3, hb⟩
            replace k := Dp.keep2 hb k
            (try clear n0 n1 n2 n3 n4)
            (try (replace pn := pn.over hb))
            (try (have ⟨n0, n1, n2, n3, n4⟩ := pn))
            clear hb
            (try go_wp2_with fail)
            refine hK.out _ _ (HC.out _ (by assumption)) (fun hHeld2 => ?_)
            clear hK hHeld; have hHeld := hHeld2; clear hHeld2
            (try simp only [Act.put]); (try simp only [List.setIfInBounds_toArray]); (try simp only [List.set_cons_succ]); (try simp only [List.set_cons_zero])
            refine wpAnyH_ready (rs := [6]) (by kernel_rfl) (by simp) ?_
            refine AllReadyH.cons (o := ⟨none, _, _, _, _, _⟩) rfl (fun K hK => ?_) AllReadyH.nil
            go_simp
            have pn2 := Lib.hid (pn.put (.int .u32 j) (.slice j3 zj.length d3))
            have i4 := Lib.hid (At.idz_set2 i3 pn (fun i e => by cases e) (.int .u32 j) (.slice j3 zj.length d3))
            replace k := Bl.below_set2 k hg (.int .u32 j) (.slice j3 zj.length d3)
            clear n0 n1 n2 n3 n4
            refine hK.out _ _ (HC.out _ (by assumption)) (fun hHeld2 => ?_)
            clear hK hHeld; have hHeld := hHeld2; clear hHeld2
            (try simp only [Act.put]); (try simp only [List.setIfInBounds_toArray]); (try simp only [List.set_cons_succ]); (try simp only [List.set_cons_zero])
            refine wpAnyH_done (by kernel_rfl) ?_ _
            go_wp2
            go_meet
            exact ⟨_, j3, d3, rfl, pn2, i4, Lib.hid k⟩
        case rest =>
          obtain ⟨g, vd, cd, rfl, pd, id, hb⟩ := hcut
          replace hb := hb.out
          replace RA := Lib.hid (RA.out.over hb)
          replace RB := Lib.hid (RB.out.over hb)
          replace IA := Lib.hid (IA.out.kept hb)
          replace PA := Lib.hid (PA.out.over hb)
          replace IB := Lib.hid (IB.out.kept hb)
          replace PB := Lib.hid (PB.out.over hb)
          replace IJ := Lib.hid (IJ.out.kept hb)
          replace PJ := Lib.hid (PJ.out.over hb)
          replace B := Lib.hid (B.out.trans (hb.mono B.out.size))
          replace KB := Lib.hid (KB.out.trans (hb.mono KB.out.size))
          clear hb
          have PD := pd
          have ID := id
          clear pd id
          go_wp2_with fail
          have HC : Hid (∀ w', Below wc.heap.size wc w' → w'.cell? ⟨g10, 0, none⟩ = some (.int .u32 j) ∧ w'.cell? ⟨g10, 1, none⟩ = some (.slice pj zj.length cj) ∧ w'.cell? ⟨g, 0, none⟩ = some (.int .u32 j) ∧ w'.cell? ⟨g, 1, none⟩ = some (.slice vd zj.length cd)) := Lib.hid (fun w' h => ⟨(PJ.out.over h).2.1, (PJ.out.over h).2.2.1, (PD.out.over h).2.1, (PD.out.over h).2.2.1⟩)
          have k : Below wc.heap.size wc wc.drew := (Below.refl _ _).drew
          refine wp_region_held_drew (S := fun w' => w'.cell? ⟨g10, 0, none⟩ = some (.int .u32 j) ∧ w'.cell? ⟨g10, 1, none⟩ = some (.slice pj zj.length cj) ∧ w'.cell? ⟨g, 0, none⟩ = some (.int .u32 j) ∧ w'.cell? ⟨g, 1, none⟩ = some (.slice vd zj.length cd)) (by kernel_rfl) (HC.out _ k) (fun hHeld => ?_)
          refine Dp.take_yes (i := 0) (oi := ⟨some 46, _, _, _, _, _⟩) (v := ?_) rfl (by kernel_rfl) (by kernel_rfl) (by kernel_rfl) (fun _ _ _ h => h) (by kernel_rfl) ?_ (by assumption) ?_
          rotate_left
          · (intro w' hSw; (try dsimp only at hSw); first | (go_simp; done) | (go_simp; with_reducible rfl))
          (try simp only [Act.put]); (try simp only [List.setIfInBounds_toArray]); (try simp only [List.set_cons_succ]); (try simp only [List.set_cons_zero])
          refine Dp.take_yes (i := 2) (oi := ⟨some 48, _, _, _, _, _⟩) (v := ?_) rfl (by kernel_rfl) (by kernel_rfl) (by kernel_rfl) (fun _ _ _ h => h) (by kernel_rfl) ?_ (by assumption) ?_
          rotate_left
          · (intro w' hSw; (try dsimp only at hSw); first | (go_simp; done) | (go_simp; with_reducible rfl))
          (try simp only [Act.put]); (try simp only [List.setIfInBounds_toArray]); (try simp only [List.set_cons_succ]); (try simp only [List.set_cons_zero])
          refine wpAnyH_ready (rs := [1]) (by kernel_rfl) (by simp) ?_
          refine AllReadyH.cons (o := ⟨some 47, _, _, _, _, _⟩) rfl (fun K hK => ?_) AllReadyH.nil
          go_simp
          go_at_call 13
          refine (At.refattr_any j zj pj cj (by have := LJ.out; omega) _ (IJ.out.kept k).toIds).mono ?_
          rintro e y1 ⟨j1, d1, rfl, ij, hb⟩
          replace k := Dp.keep2 hb k
          clear hb
          (try go_wp2_with fail)
          refine hK.out _ _ (HC.out _ (by assumption)) (fun hHeld2 => ?_)
          clear hK hHeld; have hHeld := hHeld2; clear hHeld2
          (try simp only [Act.put]); (try simp only [List.setIfInBounds_toArray]); (try simp only [List.set_cons_succ]); (try simp only [List.set_cons_zero])
          refine wpAnyH_ready (rs := [3]) (by kernel_rfl) (by simp) ?_
          refine AllReadyH.cons (o := ⟨some 49, _, _, _, _, _⟩) rfl (fun K hK => ?_) AllReadyH.nil
          go_simp
          go_at_call 16
          refine (At.refsame_any j j zj zj true (decide_eq_true rfl) j1 vd d1 cd _ ij.toIds (ID.out.kept k).toIds).mono ?_
          rintro e y2 ⟨rfl, hb⟩
          replace k := Dp.keep2 hb k
          clear hb
          (try go_wp2_with fail)
          refine hK.out _ _ (HC.out _ (by assumption)) (fun hHeld2 => ?_)
          clear hK hHeld; have hHeld := hHeld2; clear hHeld2
          (try simp only [Act.put]); (try simp only [List.setIfInBounds_toArray]); (try simp only [List.set_cons_succ]); (try simp only [List.set_cons_zero])
          refine Dp.take_yes (i := 4) (oi := ⟨some 50, _, _, _, _, _⟩) (v := ?_) rfl (by kernel_rfl) (by kernel_rfl) (by kernel_rfl) (fun _ _ _ h => h) (by kernel_rfl) ?_ (by assumption) ?_
          rotate_left
          · (intro w' hSw; (try dsimp only at hSw); first | (go_simp; done) | (go_simp; with_reducible rfl))
          (try simp only [Act.put]); (try simp only [List.setIfInBounds_toArray]); (try simp only [List.set_cons_succ]); (try simp only [List.set_cons_zero])
          refine wpAnyH_done (by kernel_rfl) ?_ _
          go_wp2_with fail
          go_meet
          exact KB.out.trans (k.mono KB.out.size)
    case rest =>
      have hb := hcut
      clear hcut
      replace RA := Lib.hid (RA.out.over hb)
      replace RB := Lib.hid (RB.out.over hb)
      replace IA := Lib.hid (IA.out.kept hb)
      replace PA := Lib.hid (PA.out.over hb)
      replace IB := Lib.hid (IB.out.kept hb)
      replace PB := Lib.hid (PB.out.over hb)
      replace B := Lib.hid (B.out.trans (hb.mono B.out.size))
      clear hb
      go_wp2_with fail
      have HC : Hid (∀ w', Below wc.heap.size wc w' → w'.cell? ⟨g3, 0, none⟩ = some (.int .u32 ka) ∧ w'.cell? ⟨g3, 1, none⟩ = some (.slice pa za.length ca) ∧ w'.cell? ⟨g5, 0, none⟩ = some (.int .u32 kb) ∧ w'.cell? ⟨g5, 1, none⟩ = some (.slice pb zb.length cb)) := Lib.hid (fun w' h => ⟨(PA.out.over h).2.1, (PA.out.over h).2.2.1, (PB.out.over h).2.1, (PB.out.over h).2.2.1⟩)
      have k : Below wc.heap.size wc wc.drew := (Below.refl _ _).drew
      refine wp_region_held_drew (S := fun w' => w'.cell? ⟨g3, 0, none⟩ = some (.int .u32 ka) ∧ w'.cell? ⟨g3, 1, none⟩ = some (.slice pa za.length ca) ∧ w'.cell? ⟨g5, 0, none⟩ = some (.int .u32 kb) ∧ w'.cell? ⟨g5, 1, none⟩ = some (.slice pb zb.length cb)) (by kernel_rfl) (HC.out _ k) (fun hHeld => ?_)
      refine Dp.take_yes (i := 0) (oi := ⟨some 51, _, _, _, _, _⟩) (v := ?_) rfl (by kernel_rfl) (by kernel_rfl) (by kernel_rfl) (fun _ _ _ h => h) (by kernel_rfl) ?_ (by assumption) ?_
      rotate_left
      · (intro w' hSw; (try dsimp only at hSw); first | (go_simp; done) | (go_simp; with_reducible rfl))
      (try simp only [Act.put]); (try simp only [List.setIfInBounds_toArray]); (try simp only [List.set_cons_succ]); (try simp only [List.set_cons_zero])
      refine Dp.take_yes (i := 1) (oi := ⟨some 52, _, _, _, _, _⟩) (v := ?_) rfl (by kernel_rfl) (by kernel_rfl) (by kernel_rfl) (fun _ _ _ h => h) (by kernel_rfl) ?_ (by assumption) ?_
      rotate_left
      · (intro w' hSw; (try dsimp only at hSw); first | (go_simp; done) | (go_simp; with_reducible rfl))
      (try simp only [Act.put]); (try simp only [List.setIfInBounds_toArray]); (try simp only [List.set_cons_succ]); (try simp only [List.set_cons_zero])
      refine Dp.take_yes (i := 2) (oi := ⟨some 53, _, _, _, _, _⟩) (v := ?_) rfl (by kernel_rfl) (by kernel_rfl) (by kernel_rfl) (fun _ _ _ h => h) (by kernel_rfl) ?_ (by assumption) ?_
      rotate_left
      · (intro w' hSw; (try dsimp only at hSw); first | (go_simp; done) | (go_simp; with_reducible rfl))
      (try simp only [Act.put]); (try simp only [List.setIfInBounds_toArray]); (try simp only [List.set_cons_succ]); (try simp only [List.set_cons_zero])
      refine Dp.take_yes (i := 4) (oi := ⟨some 55, _, _, _, _, _⟩) (v := ?_) rfl (by kernel_rfl) (by kernel_rfl) (by kernel_rfl) (fun _ _ _ h => h) (by kernel_rfl) ?_ (by assumption) ?_
      rotate_left
      · (intro w' hSw; (try dsimp only at hSw); first | (go_simp; done) | (go_simp; with_reducible rfl))
      (try simp only [Act.put]); (try simp only [List.setIfInBounds_toArray]); (try simp only [List.set_cons_succ]); (try simp only [List.set_cons_zero])
      refine wpAnyH_ready (rs := [3]) (by kernel_rfl) (by simp) ?_
      refine AllReadyH.cons (o := ⟨some 54, _, _, _, _, _⟩) rfl (fun K hK => ?_) AllReadyH.nil
      go_simp
      go_at_call 17
      refine (At.right_any ka za r hr.out pa ca _ (IA.out.kept k).toIds).mono ?_
      rintro e y1 ⟨rfl, hb⟩
      replace k := Dp.keep2 hb k
      clear hb
      (try go_wp2_with fail)
      refine hK.out _ _ (HC.out _ (by assumption)) (fun hHeld2 => ?_)
      clear hK hHeld; have hHeld := hHeld2; clear hHeld2
      (try simp only [Act.put]); (try simp only [List.setIfInBounds_toArray]); (try simp only [List.set_cons_succ]); (try simp only [List.set_cons_zero])
      refine wpAnyH_ready (rs := [5]) (by kernel_rfl) (by simp) ?_
      refine AllReadyH.cons (o := ⟨some 56, _, _, _, _, _⟩) rfl (fun K hK => ?_) AllReadyH.nil
      go_simp
      go_at_call 13
      refine (At.refattr_any ka za pa ca (by have := LA.out; omega) _ (IA.out.kept k).toIds).mono ?_
      rintro e y2 ⟨j1, d1, rfl, i1, hb⟩
      replace k := Dp.keep2 hb k
      clear hb
      (try go_wp2_with fail)
      refine hK.out _ _ (HC.out _ (by assumption)) (fun hHeld2 => ?_)
      clear hK hHeld; have hHeld := hHeld2; clear hHeld2
      (try simp only [Act.put]); (try simp only [List.setIfInBounds_toArray]); (try simp only [List.set_cons_succ]); (try simp only [List.set_cons_zero])
      refine wpAnyH_ready (rs := [6]) (by kernel_rfl) (by simp) ?_
      refine AllReadyH.cons (o := ⟨some 57, _, _, _, _, _⟩) rfl (fun K hK => ?_) AllReadyH.nil
      go_simp
      go_at_call 18
      refine (At.refright_any ka za r hr.out j1 d1 _ i1.toIds).mono ?_
      rintro e y3 ⟨rfl, hb⟩
      replace k := Dp.keep2 hb k
      clear hb
      (try go_wp2_with fail)
      refine hK.out _ _ (HC.out _ (by assumption)) (fun hHeld2 => ?_)
      clear hK hHeld; have hHeld := hHeld2; clear hHeld2
      (try simp only [Act.put]); (try simp only [List.setIfInBounds_toArray]); (try simp only [List.set_cons_succ]); (try simp only [List.set_cons_zero])
      refine Dp.take_yes (i := 7) (oi := ⟨some 58, _, _, _, _, _⟩) (v := ?_) rfl (by kernel_rfl) (by kernel_rfl) (by kernel_rfl) (fun _ _ _ h => h) (by kernel_rfl) ?_ (by assumption) ?_
      rotate_left
      · (intro w' hSw; (try dsimp only at hSw); first | (go_simp; done) | (go_simp; with_reducible rfl))
      (try simp only [Act.put]); (try simp only [List.setIfInBounds_toArray]); (try simp only [List.set_cons_succ]); (try simp only [List.set_cons_zero])
      refine Dp.take_yes (i := 8) (oi := ⟨some 59, _, _, _, _, _⟩) (v := ?_) rfl (by kernel_rfl) (by kernel_rfl) (by kernel_rfl) (fun _ _ _ h => h) (by kernel_rfl) ?_ (by assumption) ?_
      rotate_left
      · (intro w' hSw; (try dsimp only at hSw); first | (go_simp; done) | (go_simp; with_reducible rfl))
      (try simp only [Act.put]); (try simp only [List.setIfInBounds_toArray]); (try simp only [List.set_cons_succ]); (try simp only [List.set_cons_zero])
      refine Dp.take_yes (i := 9) (oi := ⟨some 60, _, _, _, _, _⟩) (v := ?_) rfl (by kernel_rfl) (by kernel_rfl) (by kernel_rfl) (fun _ _ _ h => h) (by kernel_rfl) ?_ (by assumption) ?_
      rotate_left
      · (intro w' hSw; (try dsimp only at hSw); first | (go_simp; done) | (go_simp; with_reducible rfl))
      (try simp only [Act.put]); (try simp only [List.setIfInBounds_toArray]); (try simp only [List.set_cons_succ]); (try simp only [List.set_cons_zero])
      refine Dp.take_yes (i := 10) (oi := ⟨some 61, _, _, _, _, _⟩) (v := ?_) rfl (by kernel_rfl) (by kernel_rfl) (by kernel_rfl) (fun _ _ _ h => h) (by kernel_rfl) ?_ (by assumption) ?_
      rotate_left
      · (intro w' hSw; (try dsimp only at hSw); first | (go_simp; done) | (go_simp; with_reducible rfl))
      (try simp only [Act.put]); (try simp only [List.setIfInBounds_toArray]); (try simp only [List.set_cons_succ]); (try simp only [List.set_cons_zero])
      refine Dp.take_yes (i := 11) (oi := ⟨some 62, _, _, _, _, _⟩) (v := ?_) rfl (by kernel_rfl) (by kernel_rfl) (by kernel_rfl) (fun _ _ _ h => h) (by kernel_rfl) ?_ (by assumption) ?_
      rotate_left
      · (intro w' hSw; (try dsimp only at hSw); first | (go_simp; done) | (go_simp; with_reducible rfl))
      (try simp only [Act.put]); (try simp only [List.setIfInBounds_toArray]); (try simp only [List.set_cons_succ]); (try simp only [List.set_cons_zero])
      refine Dp.take_yes (i := 13) (oi := ⟨some 64, _, _, _, _, _⟩) (v := ?_) rfl (by kernel_rfl) (by kernel_rfl) (by kernel_rfl) (fun _ _ _ h => h) (by kernel_rfl) ?_ (by assumption) ?_
      rotate_left
      · (intro w' hSw; (try dsimp only at hSw); first | (go_simp; done) | (go_simp; with_reducible rfl))
      (try simp only [Act.put]); (try simp only [List.setIfInBounds_toArray]); (try simp only [List.set_cons_succ]); (try simp only [List.set_cons_zero])
      refine Dp.take_yes (i := 15) (oi := ⟨some 66, _, _, _, _, _⟩) (v := ?_) rfl (by kernel_rfl) (by kernel_rfl) (by kernel_rfl) (fun _ _ _ h => h) (by kernel_rfl) ?_ (by assumption) ?_
      rotate_left
      · (intro w' hSw; (try dsimp only at hSw); first | (go_simp; done) | (go_simp; with_reducible rfl))
      (try simp only [Act.put]); (try simp only [List.setIfInBounds_toArray]); (try simp only [List.set_cons_succ]); (try simp only [List.set_cons_zero])
      refine wpAnyH_ready (rs := [12]) (by kernel_rfl) (by simp) ?_
      refine AllReadyH.cons (o := ⟨some 63, _, _, _, _, _⟩) rfl (fun K hK => ?_) AllReadyH.nil
      go_simp
      go_at_call 19
      refine (At.same_any ka kb za zb q hq.out pa pb ca cb _ (IA.out.kept k) (IB.out.kept k)).mono ?_
      rintro e y4 ⟨rfl, hb⟩
      replace k := Dp.keep2 hb k
      clear hb
      (try go_wp2_with fail)
      refine hK.out _ _ (HC.out _ (by assumption)) (fun hHeld2 => ?_)
      clear hK hHeld; have hHeld := hHeld2; clear hHeld2
      (try simp only [Act.put]); (try simp only [List.setIfInBounds_toArray]); (try simp only [List.set_cons_succ]); (try simp only [List.set_cons_zero])
      refine wpAnyH_ready (rs := [14]) (by kernel_rfl) (by simp) ?_
      refine AllReadyH.cons (o := ⟨some 65, _, _, _, _, _⟩) rfl (fun K hK => ?_) AllReadyH.nil
      go_simp
      go_at_call 13
      refine (At.refattr_any ka za pa ca (by have := LA.out; omega) _ (IA.out.kept k).toIds).mono ?_
      rintro e y5 ⟨j2, d2, rfl, i2, hb⟩
      replace k := Dp.keep2 hb k
      clear hb
      (try go_wp2_with fail)
      refine hK.out _ _ (HC.out _ (by assumption)) (fun hHeld2 => ?_)
      clear hK hHeld; have hHeld := hHeld2; clear hHeld2
      (try simp only [Act.put]); (try simp only [List.setIfInBounds_toArray]); (try simp only [List.set_cons_succ]); (try simp only [List.set_cons_zero])
      refine wpAnyH_ready (rs := [16]) (by kernel_rfl) (by simp) ?_
      refine AllReadyH.cons (o := ⟨some 67, _, _, _, _, _⟩) rfl (fun K hK => ?_) AllReadyH.nil
      go_simp
      go_at_call 13
      refine (At.refattr_any kb zb pb cb (by have := LB.out; omega) _ (IB.out.kept k).toIds).mono ?_
      rintro e y6 ⟨j3, d3, rfl, i3, hb⟩
      replace k := Dp.keep2 hb k
      replace i2 := i2.kept hb
      clear hb
      (try go_wp2_with fail)
      refine hK.out _ _ (HC.out _ (by assumption)) (fun hHeld2 => ?_)
      clear hK hHeld; have hHeld := hHeld2; clear hHeld2
      (try simp only [Act.put]); (try simp only [List.setIfInBounds_toArray]); (try simp only [List.set_cons_succ]); (try simp only [List.set_cons_zero])
      refine wpAnyH_ready (rs := [17]) (by kernel_rfl) (by simp) ?_
      refine AllReadyH.cons (o := ⟨some 68, _, _, _, _, _⟩) rfl (fun K hK => ?_) AllReadyH.nil
      go_simp
      go_at_call 16
      refine (At.refsame_any ka kb za zb q hq.out j2 j3 d2 d3 _ i2.toIds i3.toIds).mono ?_
      rintro e y7 ⟨rfl, hb⟩
      replace k := Dp.keep2 hb k
      clear hb
      (try go_wp2_with fail)
      refine hK.out _ _ (HC.out _ (by assumption)) (fun hHeld2 => ?_)
      clear hK hHeld; have hHeld := hHeld2; clear hHeld2
      (try simp only [Act.put]); (try simp only [List.setIfInBounds_toArray]); (try simp only [List.set_cons_succ]); (try simp only [List.set_cons_zero])
      refine Dp.take_yes (i := 18) (oi := ⟨some 69, _, _, _, _, _⟩) (v := ?_) rfl (by kernel_rfl) (by kernel_rfl) (by kernel_rfl) (fun _ _ _ h => h) (by kernel_rfl) ?_ (by assumption) ?_
      rotate_left
      · (intro w' hSw; (try dsimp only at hSw); first | (go_simp; done) | (go_simp; with_reducible rfl))
      (try simp only [Act.put]); (try simp only [List.setIfInBounds_toArray]); (try simp only [List.set_cons_succ]); (try simp only [List.set_cons_zero])
      refine Dp.take_yes (i := 19) (oi := ⟨some 70, _, _, _, _, _⟩) (v := ?_) rfl (by kernel_rfl) (by kernel_rfl) (by kernel_rfl) (fun _ _ _ h => h) (by kernel_rfl) ?_ (by assumption) ?_
      rotate_left
      · (intro w' hSw; (try dsimp only at hSw); first | (go_simp; done) | (go_simp; with_reducible rfl))
      (try simp only [Act.put]); (try simp only [List.setIfInBounds_toArray]); (try simp only [List.set_cons_succ]); (try simp only [List.set_cons_zero])
      refine Dp.take_yes (i := 20) (oi := ⟨some 71, _, _, _, _, _⟩) (v := ?_) rfl (by kernel_rfl) (by kernel_rfl) (by kernel_rfl) (fun _ _ _ h => h) (by kernel_rfl) ?_ (by assumption) ?_
      rotate_left
      · (intro w' hSw; (try dsimp only at hSw); first | (go_simp; done) | (go_simp; with_reducible rfl))
      (try simp only [Act.put]); (try simp only [List.setIfInBounds_toArray]); (try simp only [List.set_cons_succ]); (try simp only [List.set_cons_zero])
      refine Dp.take_yes (i := 21) (oi := ⟨some 72, _, _, _, _, _⟩) (v := ?_) rfl (by kernel_rfl) (by kernel_rfl) (by kernel_rfl) (fun _ _ _ h => h) (by kernel_rfl) ?_ (by assumption) ?_
      rotate_left
      · (intro w' hSw; (try dsimp only at hSw); first | (go_simp; done) | (go_simp; with_reducible rfl))
      (try simp only [Act.put]); (try simp only [List.setIfInBounds_toArray]); (try simp only [List.set_cons_succ]); (try simp only [List.set_cons_zero])
      refine Dp.take_yes (i := 22) (oi := ⟨some 73, _, _, _, _, _⟩) (v := ?_) rfl (by kernel_rfl) (by kernel_rfl) (by kernel_rfl) (fun _ _ _ h => h) (by kernel_rfl) ?_ (by assumption) ?_
      rotate_left
      · (intro w' hSw; (try dsimp only at hSw); first | (go_simp; done) | (go_simp; with_reducible rfl))
      (try simp only [Act.put]); (try simp only [List.setIfInBounds_toArray]); (try simp only [List.set_cons_succ]); (try simp only [List.set_cons_zero])
      refine Dp.take_yes (i := 23) (oi := ⟨some 74, _, _, _, _, _⟩) (v := ?_) rfl (by kernel_rfl) (by kernel_rfl) (by kernel_rfl) (fun _ _ _ h => h) (by kernel_rfl) ?_ (by assumption) ?_
      rotate_left
      · (intro w' hSw; (try dsimp only at hSw); first | (go_simp; done) | (go_simp; with_reducible rfl))
      (try simp only [Act.put]); (try simp only [List.setIfInBounds_toArray]); (try simp only [List.set_cons_succ]); (try simp only [List.set_cons_zero])
      refine Dp.take_yes (i := 24) (oi := ⟨some 75, _, _, _, _, _⟩) (v := ?_) rfl (by kernel_rfl) (by kernel_rfl) (by kernel_rfl) (fun _ _ _ h => h) (by kernel_rfl) ?_ (by assumption) ?_
      rotate_left
      · (intro w' hSw; (try dsimp only at hSw); first | (go_simp; done) | (go_simp; with_reducible rfl))
      (try simp only [Act.put]); (try simp only [List.setIfInBounds_toArray]); (try simp only [List.set_cons_succ]); (try simp only [List.set_cons_zero])
      refine Dp.take_yes (i := 25) (oi := ⟨some 76, _, _, _, _, _⟩) (v := ?_) rfl (by kernel_rfl) (by kernel_rfl) (by kernel_rfl) (fun _ _ _ h => h) (by kernel_rfl) ?_ (by assumption) ?_
      rotate_left
      · (intro w' hSw; (try dsimp only at hSw); first | (go_simp; done) | (go_simp; with_reducible rfl))
      (try simp only [Act.put]); (try simp only [List.setIfInBounds_toArray]); (try simp only [List.set_cons_succ]); (try simp only [List.set_cons_zero])
      refine Dp.take_yes (i := 26) (oi := ⟨some 77, _, _, _, _, _⟩) (v := ?_) rfl (by kernel_rfl) (by kernel_rfl) (by kernel_rfl) (fun _ _ _ h => h) (by kernel_rfl) ?_ (by assumption) ?_
      rotate_left
      · (intro w' hSw; (try dsimp only at hSw); first | (go_simp; done) | (go_simp; with_reducible rfl))
      (try simp only [Act.put]); (try simp only [List.setIfInBounds_toArray]); (try simp only [List.set_cons_succ]); (try simp only [List.set_cons_zero])
      refine Dp.take_yes (i := 27) (oi := ⟨some 78, _, _, _, _, _⟩) (v := ?_) rfl (by kernel_rfl) (by kernel_rfl) (by kernel_rfl) (fun _ _ _ h => h) (by kernel_rfl) ?_ (by assumption) ?_
      rotate_left
      · (intro w' hSw; (try dsimp only at hSw); first | (go_simp; done) | (go_simp; with_reducible rfl))
      (try simp only [Act.put]); (try simp only [List.setIfInBounds_toArray]); (try simp only [List.set_cons_succ]); (try simp only [List.set_cons_zero])
      refine Dp.take_yes (i := 28) (oi := ⟨some 79, _, _, _, _, _⟩) (v := ?_) rfl (by kernel_rfl) (by kernel_rfl) (by kernel_rfl) (fun _ _ _ h => h) (by kernel_rfl) ?_ (by assumption) ?_
      rotate_left
      · (intro w' hSw; (try dsimp only at hSw); first | (go_simp; done) | (go_simp; with_reducible rfl))
      (try simp only [Act.put]); (try simp only [List.setIfInBounds_toArray]); (try simp only [List.set_cons_succ]); (try simp only [List.set_cons_zero])
      refine Dp.take_yes (i := 29) (oi := ⟨some 80, _, _, _, _, _⟩) (v := ?_) rfl (by kernel_rfl) (by kernel_rfl) (by kernel_rfl) (fun _ _ _ h => h) (by kernel_rfl) ?_ (by assumption) ?_
      rotate_left
      · (intro w' hSw; (try dsimp only at hSw); first | (go_simp; done) | (go_simp; with_reducible rfl))
      (try simp only [Act.put]); (try simp only [List.setIfInBounds_toArray]); (try simp only [List.set_cons_succ]); (try simp only [List.set_cons_zero])
      refine Dp.take_yes (i := 30) (oi := ⟨some 81, _, _, _, _, _⟩) (v := ?_) rfl (by kernel_rfl) (by kernel_rfl) (by kernel_rfl) (fun _ _ _ h => h) (by kernel_rfl) ?_ (by assumption) ?_
      rotate_left
      · (intro w' hSw; (try dsimp only at hSw); first | (go_simp; done) | (go_simp; with_reducible rfl))
      (try simp only [Act.put]); (try simp only [List.setIfInBounds_toArray]); (try simp only [List.set_cons_succ]); (try simp only [List.set_cons_zero])
      refine Dp.take_yes (i := 31) (oi := ⟨some 82, _, _, _, _, _⟩) (v := ?_) rfl (by kernel_rfl) (by kernel_rfl) (by kernel_rfl) (fun _ _ _ h => h) (by kernel_rfl) ?_ (by assumption) ?_
      rotate_left
      · (intro w' hSw; (try dsimp only at hSw); first | (go_simp; done) | (go_simp; with_reducible rfl))
      (try simp only [Act.put]); (try simp only [List.setIfInBounds_toArray]); (try simp only [List.set_cons_succ]); (try simp only [List.set_cons_zero])
      refine Dp.take_yes (i := 33) (oi := ⟨some 84, _, _, _, _, _⟩) (v := ?_) rfl (by kernel_rfl) (by kernel_rfl) (by kernel_rfl) (fun _ _ _ h => h) (by kernel_rfl) ?_ (by assumption) ?_
      rotate_left
      · (intro w' hSw; (try dsimp only at hSw); first | (go_simp; done) | (go_simp; with_reducible rfl))
      (try simp only [Act.put]); (try simp only [List.setIfInBounds_toArray]); (try simp only [List.set_cons_succ]); (try simp only [List.set_cons_zero])
      refine wpAnyH_ready (rs := [32]) (by kernel_rfl) (by simp) ?_
      refine AllReadyH.cons (o := ⟨some 83, _, _, _, _, _⟩) rfl (fun K hK => ?_) AllReadyH.nil
      go_simp
      go_at_call 20
      refine (At.text_any ka ua za ta hta.out GA.out (by have := LA.out; omega) pa ca _ (IA.out.kept k).toIds (HT.out.over (B.out.trans (k.mono B.out.size)))).mono ?_
      rintro e y8 ⟨rfl, hb⟩
      replace k := Dp.keep2 hb k
      clear hb
      (try go_wp2_with fail)
      refine hK.out _ _ (HC.out _ (by assumption)) (fun hHeld2 => ?_)
      clear hK hHeld; have hHeld := hHeld2; clear hHeld2
      (try simp only [Act.put]); (try simp only [List.setIfInBounds_toArray]); (try simp only [List.set_cons_succ]); (try simp only [List.set_cons_zero])
      refine wpAnyH_ready (rs := [34]) (by kernel_rfl) (by simp) ?_
      refine AllReadyH.cons (o := ⟨some 85, _, _, _, _, _⟩) rfl (fun K hK => ?_) AllReadyH.nil
      go_simp
      go_at_call 13
      refine (At.refattr_any ka za pa ca (by have := LA.out; omega) _ (IA.out.kept k).toIds).mono ?_
      rintro e y9 ⟨j4, d4, rfl, i4, hb⟩
      replace k := Dp.keep2 hb k
      clear hb
      (try go_wp2_with fail)
      refine hK.out _ _ (HC.out _ (by assumption)) (fun hHeld2 => ?_)
      clear hK hHeld; have hHeld := hHeld2; clear hHeld2
      (try simp only [Act.put]); (try simp only [List.setIfInBounds_toArray]); (try simp only [List.set_cons_succ]); (try simp only [List.set_cons_zero])
      refine wpAnyH_ready (rs := [35]) (by kernel_rfl) (by simp) ?_
      refine AllReadyH.cons (o := ⟨some 86, _, _, _, _, _⟩) rfl (fun K hK => ?_) AllReadyH.nil
      go_simp
      go_at_call 21
      refine (At.reftext_any ka ua za ta hta.out GA.out (by have := LA.out; omega) j4 d4 _ i4.toIds).mono ?_
      rintro e y10 ⟨rfl, hb⟩
      replace k := Dp.keep2 hb k
      clear hb
      (try go_wp2_with fail)
      refine hK.out _ _ (HC.out _ (by assumption)) (fun hHeld2 => ?_)
      clear hK hHeld; have hHeld := hHeld2; clear hHeld2
      (try simp only [Act.put]); (try simp only [List.setIfInBounds_toArray]); (try simp only [List.set_cons_succ]); (try simp only [List.set_cons_zero])
      refine Dp.take_yes (i := 36) (oi := ⟨some 87, _, _, _, _, _⟩) (v := ?_) rfl (by kernel_rfl) (by kernel_rfl) (by kernel_rfl) (fun _ _ _ h => h) (by kernel_rfl) ?_ (by assumption) ?_
      rotate_left
      · (intro w' hSw; (try dsimp only at hSw); first | (go_simp; done) | (go_simp; with_reducible rfl))
      (try simp only [Act.put]); (try simp only [List.setIfInBounds_toArray]); (try simp only [List.set_cons_succ]); (try simp only [List.set_cons_zero])
      refine Dp.take_yes (i := 37) (oi := ⟨some 88, _, _, _, _, _⟩) (v := ?_) rfl (by kernel_rfl) (by kernel_rfl) (by kernel_rfl) (fun _ _ _ h => h) (by kernel_rfl) ?_ (by assumption) ?_
      rotate_left
      · (intro w' hSw; (try dsimp only at hSw); first | (go_simp; done) | (go_simp; with_reducible rfl))
      (try simp only [Act.put]); (try simp only [List.setIfInBounds_toArray]); (try simp only [List.set_cons_succ]); (try simp only [List.set_cons_zero])
      refine Dp.take_yes (i := 38) (oi := ⟨some 4, _, _, _, _, _⟩) (v := ?_) rfl (by kernel_rfl) (by kernel_rfl) (by kernel_rfl) (fun _ _ _ h => h) (by kernel_rfl) ?_ (by assumption) ?_
      rotate_left
      · (intro w' hSw; (try dsimp only at hSw); first | (go_simp; done) | (go_simp; with_reducible rfl))
      (try simp only [Act.put]); (try simp only [List.setIfInBounds_toArray]); (try simp only [List.set_cons_succ]); (try simp only [List.set_cons_zero])
      refine wpAnyH_done (by kernel_rfl) ?_ _
      go_wp2
      go_ret
      exact ⟨rfl, B.out.trans (k.mono B.out.size)⟩

theorem laid_met (os : Os) : laidMet Tryd.prog Rows.attrTellsRow.laid ((World.doorLaid Tryd.prog 24 os).forCall (fun _ _ => 0) ⟨#[], #[.agg #[.int .u32 0, .slice none 0 0, .bool false, .slice none 0 0], .agg #[.int .u32 0, .slice none 0 0, .bool false, .slice none 0 0]], []⟩).memory :=
  laidMet_of_run' 8 (by kernel_rfl) (by kernel_rfl)
theorem reads (os : Os) {H : Type} (enc : TypeId × Value → H) : ∃ places, DataW.whole enc Tryd.prog ((World.doorLaid Tryd.prog 24 os).forCall (fun _ _ => 0) ⟨#[], #[.agg #[.int .u32 0, .slice none 0 0, .bool false, .slice none 0 0], .agg #[.int .u32 0, .slice none 0 0, .bool false, .slice none 0 0]], []⟩).memory Tryd.f3.params.toList Rows.attrTellsSpec.vars false (#[.agg #[.int .u32 0, .slice none 0 0, .bool false, .slice none 0 0], .agg #[.int .u32 0, .slice none 0 0, .bool false, .slice none 0 0]] : Array Value).toList 8 = some ([.agg [.agg [.lit (.int .u32 0), .nil], .lit (.bool false), .nil], .agg [.agg [.lit (.int .u32 0), .nil], .lit (.bool false), .nil]], [], places) :=
  ⟨[], by kernel_rfl⟩

set_option maxRecDepth 100000 in
theorem lifted (os : Os) (started : os.Started) (H : Type) (enc : TypeId × Value → H) (F : Stop.Interp) :
    ReturnsInHanded {} Tryd.checked os 3 .any ((OpenSpec.ofChange Rows.attrTellsSpec).preRow enc Tryd.prog Tryd.f3 Rows.attrTellsRow.domain false Rows.attrTellsRow.laid) (((OpenSpec.ofChange Rows.attrTellsSpec).at F).post enc Tryd.prog Tryd.f3 false true false false) := by
  obtain ⟨places, hx⟩ := reads os enc
  refine returnsInHanded_of_row (C := Tryd.checked) (s := OpenSpec.ofChange Rows.attrTellsSpec) own started (by kernel_rfl) Tryd.func3
    (witness_row_at (enc := enc) (C := Tryd.checked) false (World.doorLaid Tryd.prog 24 os) #[.agg #[.int .u32 0, .slice none 0 0, .bool false, .slice none 0 0], .agg #[.int .u32 0, .slice none 0 0, .bool false, .slice none 0 0]] rfl (by kernel_rfl) (by kernel_rfl) (by kernel_rfl)
      (OpenSpec.preRow_of_cond 8 hx (by kernel_rfl) (fun k hk => by cases hk) (by kernel_rfl) (laid_met os))) ?_
  intro W base args ds gs before hval0 hW _ _ hsz0 hL _ _
  have hval : ∀ (j : Nat) t v, Tryd.f3.params[j]? = some t → args[j]? = some v → Value.okWide Tryd.prog W .any base t v := hval0
  have hsz : (DataW.weightsEach Tryd.prog (Tryd.f3.params.toList ++ Rows.attrTellsSpec.plain.varTypes Tryd.prog) (ds ++ gs)).all (· ≤ reachBytes) = true := hsz0
  have hW' := hW
  obtain ⟨p, q, hA0, hV, rfl, hfz, hnd⟩ := hW
  have hA : DataW.TrodAll enc Tryd.prog W 0 (fun _ => true) true Tryd.f3.params.toList args.toList ds p := hA0
  rw [Tryd.params3] at hA hval hsz
  obtain ⟨v0, vs0, d0, ds0, p0, q0, hargs, rfl, rfl, h0, r0⟩ := trodAll_cons hA
  obtain ⟨v1, vs1, d1, ds1, p1, q1, rfl, rfl, rfl, h1, r1⟩ := trodAll_cons r0
  obtain ⟨rfl, rfl, rfl⟩ := trodAll_nil r1
  obtain rfl : args = #[v0, v1] := by cases args; simp_all
  obtain ⟨rfl, rfl⟩ := trodVars_none hV
  have k0 := h0
  have lt0 : ∀ x ∈ p0, x.block < W.heap.size := by obtain ⟨m, hm⟩ := k0; exact DataW.trod_lt m _ _ _ hm
  have k1 := h1
  have lt1 : ∀ x ∈ p1, x.block < W.heap.size := by obtain ⟨m, hm⟩ := k1; exact DataW.trod_lt m _ _ _ hm
  obtain ⟨c0_0, c0_1, c0_2, c0_3, y0_0, y0_1, y0_2, y0_3, n0, m0, rfl, rfl, g0_0, g0_1, g0_2, g0_3⟩ := Rw.open_nest2 Tryd.underlying28 Tryd.underlying25 rfl rfl rfl (by kernel_rfl) (by kernel_rfl) (by kernel_rfl) (by kernel_rfl) (by kernel_rfl) (hval 0 28 v0 rfl rfl) h0
  obtain ⟨a0_0, e0_0, rfl, w0_0⟩ := DataW.trod_int Tryd.underlying22 g0_0
  obtain rfl : c0_0 = .int .u32 a0_0 := by simpa using e0_0
  obtain ⟨a0_1, len0_1, cap0_1, e0_1, w0_1, l0_1, m0_1, o0_1⟩ := Rw.pairs_of Tryd.underlying23 Tryd.underlying58 (by kernel_rfl) rfl rfl (by kernel_rfl) (by kernel_rfl) Tryd.underlying3 Tryd.underlying3 g0_1
  obtain rfl : c0_1 = .slice a0_1 len0_1 cap0_1 := e0_1
  obtain ⟨a0_2, e0_2, rfl⟩ := DataW.trod_bool Tryd.underlying4 g0_2
  obtain rfl : c0_2 = .bool a0_2 := by simpa using e0_2
  obtain ⟨a0_3, len0_3, cap0_3, e0_3, w0_3, l0_3, m0_3⟩ := Rw.ints_of Tryd.underlying26 Tryd.underlying5 (by kernel_rfl) g0_3
  obtain rfl : c0_3 = .slice a0_3 len0_3 cap0_3 := e0_3
  obtain ⟨c1_0, c1_1, c1_2, c1_3, y1_0, y1_1, y1_2, y1_3, n1, m1, rfl, rfl, g1_0, g1_1, g1_2, g1_3⟩ := Rw.open_nest2 Tryd.underlying28 Tryd.underlying25 rfl rfl rfl (by kernel_rfl) (by kernel_rfl) (by kernel_rfl) (by kernel_rfl) (by kernel_rfl) (hval 1 28 v1 rfl rfl) h1
  obtain ⟨a1_0, e1_0, rfl, w1_0⟩ := DataW.trod_int Tryd.underlying22 g1_0
  obtain rfl : c1_0 = .int .u32 a1_0 := by simpa using e1_0
  obtain ⟨a1_1, len1_1, cap1_1, e1_1, w1_1, l1_1, m1_1, o1_1⟩ := Rw.pairs_of Tryd.underlying23 Tryd.underlying58 (by kernel_rfl) rfl rfl (by kernel_rfl) (by kernel_rfl) Tryd.underlying3 Tryd.underlying3 g1_1
  obtain rfl : c1_1 = .slice a1_1 len1_1 cap1_1 := e1_1
  obtain ⟨a1_2, e1_2, rfl⟩ := DataW.trod_bool Tryd.underlying4 g1_2
  obtain rfl : c1_2 = .bool a1_2 := by simpa using e1_2
  obtain ⟨a1_3, len1_3, cap1_3, e1_3, w1_3, l1_3, m1_3⟩ := Rw.ints_of Tryd.underlying26 Tryd.underlying5 (by kernel_rfl) g1_3
  obtain rfl : c1_3 = .slice a1_3 len1_3 cap1_3 := e1_3
  clear hA0 hval0
  refine (walk a0_0 a0_1 len0_1 cap0_1 a0_2 a0_3 len0_3 cap0_3 a1_0 a1_1 len1_1 cap1_1 a1_2 a1_3 len1_3 cap1_3 W w0_0 w0_1 l0_1 m0_1 o0_1 w0_3 l0_3 m0_3 w1_0 w1_1 l1_1 m1_1 o1_1 w1_3 l1_3 m1_3 (Bl.tab_of hL)).mono fun e W' ⟨he, bel⟩ => ?_
  subst he
  exact ⟨_, rfl, _, _, _, [], _, [], hW', trodAll_mk1 (shut_bool Tryd.underlying4 _), (trodAll_cons_mk (Below.trod laidOut (by kernel_rfl) (of_decide_eq_true (by kernel_rfl)) k0 bel lt0) (trodAll_cons_mk (Below.trod laidOut (by kernel_rfl) (of_decide_eq_true (by kernel_rfl)) k1 bel lt1) trodAll_mk0)), rfl, bel.frame _, fun h => by cases h⟩

theorem over : Rows.attrTellsRow.holds Tryd.pinned (OpenSpec.ofChange Rows.attrTellsSpec) :=
  OpenClaim.holds_of_cond 3 Tryd.f3 rfl rfl rfl rfl rfl rfl rfl ⟨rfl, rfl, rfl, rfl, rfl⟩ rfl rfl rfl rfl rfl (by kernel_rfl) Tryd.func3 (by kernel_rfl)
    (of_decide_eq_true (by kernel_rfl)) (by unfold Func.isWrapper; first | (rw [if_pos (by decide +kernel)]; kernel_rfl) | (rw [if_neg (by decide +kernel)]; exact ⟨rfl, rfl⟩))
    (fun os started H enc _ F => by rw [OpenClaim.pre_eq_preRow]; exact lifted os started H enc F)

/-- No parameter wants a stand-in. -/
theorem plain (f : FuncId) (fn : Func) (hf : Tryd.pinned.checked.prog.funcNamed "comitia/comitialaw09.AttrTells" = some f) (hfn : Tryd.pinned.checked.prog.funcs[f]? = some fn) :
    false = Tryd.pinned.checked.prog.looks [] ∧ ∀ (j : Nat) t, fn.params[j]? = some t → Tryd.pinned.checked.prog.wantsStandIn t = false := by
  obtain rfl : f = 3 := Option.some.inj ((show Tryd.prog.funcNamed "comitia/comitialaw09.AttrTells" = some 3 by kernel_rfl).symm.trans hf) |>.symm
  obtain rfl : fn = Tryd.f3 := (Option.some.inj (Tryd.func3.symm.trans hfn)).symm
  refine ⟨by kernel_rfl, fun j t ht => ?_⟩
  rw [Tryd.params3] at ht
  have hm : t ∈ [28, 28] := by simpa using Array.mem_of_getElem? ht
  have hall : ([28, 28].all fun u => !Tryd.prog.wantsStandIn u) = true := by kernel_rfl
  exact (show Tryd.prog.wantsStandIn t = false by simpa using List.all_eq_true.1 hall t hm)

theorem proved : Rows.AttrTellsCardSaid :=
  Claim7.holds_tied_plain_at .later [] _ _ _ _ over (fun _ h => by cases h) (by kernel_rfl) (fun _ h => by cases h) attrTells_row_tie rfl ⟨rfl, rfl⟩ (by kernel_rfl) rfl plain (by kernel_rfl)
end Go.Proofs.YtkemljpjfbmjgaaDoor.attrTells
