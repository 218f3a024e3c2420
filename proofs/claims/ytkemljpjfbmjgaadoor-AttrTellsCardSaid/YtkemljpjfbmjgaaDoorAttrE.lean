/-
  Contract: the chapter's examples hold. Condition: the library's table of powers of ten lies as it was laid.
-/
import Derived.Test.YtkemljpjfbmjgaaDoorAttrP
import Derived.Test.YtkemljpjfbmjgaaDoorAttrG
import Derived.Test.YtkemljpjfbmjgaaDoorAttrS
import Derived.Test.YtkemljpjfbmjgaaDoorRow
namespace Go.Proofs.YtkemljpjfbmjgaaDoor.At
open Go.RowKit
open Dp (ID IsSet setD joinD Ids Idz InR)
open Bl (Pair Tab below_then)
set_option maxRecDepth 100000

def exA : List ID := [(1, 1)]
def exB : List ID := [(2, 1)]
def exC : List ID := [(1, 1), (2, 1)]
theorem ex_join : joinD exA exB = exC := by decide +kernel
theorem ex_setA : IsSet exA := (Dp.setD_iff _).1 (by decide +kernel)
theorem ex_setB : IsSet exB := (Dp.setD_iff _).1 (by decide +kernel)
theorem ex_put : putA (2, exC) = (⟨#[2, 0, 0, 0, 2, 0, 1, 1, 0, 0, 2, 1, 0, 0]⟩, true) := by decide +kernel
theorem ex_get : getA (⟨#[2, 0, 0, 0, 2, 0, 1, 1, 0, 0, 2, 1, 0, 0]⟩ ++ ⟨#[120]⟩) false = ((2, exC), ⟨#[120]⟩, false) := by decide +kernel
theorem ex_right : rightA (2, exA) = true := by decide +kernel
theorem ex_same : decide (((2, exC) : AT) = (2, exC)) = true := by decide +kernel
theorem ex_other : decide (((2, exA) : AT) = (1, exB)) = false := by decide +kernel
theorem ex_text : (⟨(textA (2, exC)).toArray⟩ : ByteArray) = ⟨#[50, 91, 49, 46, 49, 44, 50, 46, 49, 93]⟩ := by
  have e1 : Lib.itoa 1 = [49] := by
    rw [Dp.itoa_nat _ (by decide), show (1 : Int).toNat = 1 from rfl, Lib.decDigits_one (by omega)]; rfl
  have e2 : Lib.itoa 2 = [50] := by
    rw [Dp.itoa_nat _ (by decide), show (2 : Int).toNat = 2 from rfl, Lib.decDigits_one (by omega)]; rfl
  have e3 : Lib.decDigits 2 = [50] := by rw [Lib.decDigits_one (by omega)]; rfl
  unfold textA exC
  simp only [Dp.textD, Dp.itemD, e1, e2, e3]
  rfl
theorem ex_text0 : (⟨(textA (0, [])).toArray⟩ : ByteArray) = ⟨#[48, 91, 93]⟩ := by
  have e3 : Lib.decDigits 0 = [48] := by rw [Lib.decDigits_one (by omega)]; rfl
  unfold textA
  simp only [Dp.textD, e3]
  rfl
theorem ex_inr : InR exC := by
  intro x hx
  rcases List.mem_cons.1 hx with rfl | hx
  · exact ⟨⟨by decide, by decide⟩, by decide, by decide⟩
  · rcases List.mem_cons.1 hx with rfl | hx
    · exact ⟨⟨by decide, by decide⟩, by decide, by decide⟩
    · cases hx

set_option maxHeartbeats 4000000 in
theorem examples_any (w : World) (ht : Tab w) : Calls Tryd.prog 9 #[] w fun e w' => e = .returned (.bool true) ∧ Below w.heap.size w w' := by
  have lC : exC.length = 2 := rfl
  have HT := Lib.hid ht
  clear ht
  go_enter Tryd.func9, Tryd.ntmps9
  go_wp2_with fail
  have B := Lib.hid (Rw.below_4 w (.cells #[.int .i64 1, .int .i64 1] 58) (.cells #[.int .u32 2, .slice (some ⟨w.heap.size, 0, none⟩) 1 1] 25) (.cells #[.int .i64 2, .int .i64 1] 58) (.cells #[.int .u32 1, .slice (some ⟨w.heap.size + 1 + 1, 0, none⟩) 1 1] 25))
  have IA := Lib.hid ((((Dp.one_new w 1 1 58).kept (Bl.below_1 _ (.cells #[.int .u32 2, .slice (some ⟨w.heap.size, 0, none⟩) 1 1] 25))).kept (Bl.below_1 _ (.cells #[.int .i64 2, .int .i64 1] 58))).kept (Bl.below_1 _ (.cells #[.int .u32 1, .slice (some ⟨w.heap.size + 1 + 1, 0, none⟩) 1 1] 25)))
  have PA := Lib.hid (((Bl.Pair.newAt (w.alloc (.cells #[.int .i64 1, .int .i64 1] 58)) (.int .u32 2) (.slice (some ⟨w.heap.size, 0, none⟩) 1 1) 25 (w.heap.size + 1) (by simp)).alloc (.cells #[.int .i64 2, .int .i64 1] 58)).alloc (.cells #[.int .u32 1, .slice (some ⟨w.heap.size + 1 + 1, 0, none⟩) 1 1] 25))
  have IB := Lib.hid (((Dp.one_new ((w.alloc (.cells #[.int .i64 1, .int .i64 1] 58)).alloc (.cells #[.int .u32 2, .slice (some ⟨w.heap.size, 0, none⟩) 1 1] 25)) 2 1 58)).kept (Bl.below_1 _ (.cells #[.int .u32 1, .slice (some ⟨w.heap.size + 1 + 1, 0, none⟩) 1 1] 25)))
  have PB := Lib.hid (Bl.Pair.newAt (((w.alloc (.cells #[.int .i64 1, .int .i64 1] 58)).alloc (.cells #[.int .u32 2, .slice (some ⟨w.heap.size, 0, none⟩) 1 1] 25)).alloc (.cells #[.int .i64 2, .int .i64 1] 58)) (.int .u32 1) (.slice (some ⟨w.heap.size + 1 + 1, 0, none⟩) 1 1) 25 (w.heap.size + 1 + 1 + 1) (by simp))
  rw [show ((w.alloc (.cells #[.int .i64 1, .int .i64 1] 58)).alloc (.cells #[.int .u32 2, .slice (some ⟨w.heap.size, 0, none⟩) 1 1] 25)).heap.size = w.heap.size + 1 + 1 by simp] at IB
  generalize (((w.alloc (.cells #[.int .i64 1, .int .i64 1] 58)).alloc (.cells #[.int .u32 2, .slice (some ⟨w.heap.size, 0, none⟩) 1 1] 25)).alloc (.cells #[.int .i64 2, .int .i64 1] 58)).alloc (.cells #[.int .u32 1, .slice (some ⟨w.heap.size + 1 + 1, 0, none⟩) 1 1] 25) = w4 at *
  refine (join_any 2 1 2 rfl exA exB exC ex_join ex_setA ex_setB (by decide) (by decide) _ _ _ _ w4 IA.out IB.out).mono ?_
  rintro e v1 ⟨vc, cc, rfl, ic, hb⟩
  replace IA := Lib.hid (IA.out.kept hb)
  replace PA := Lib.hid (PA.out.over hb)
  replace IB := Lib.hid (IB.out.kept hb)
  replace PB := Lib.hid (PB.out.over hb)
  replace B := Lib.hid (B.out.trans (hb.mono B.out.size))
  clear hb
  have IC := Lib.hid ic
  clear ic
  go_wp2_with fail
  have hb := Bl.below_1 v1 (.cells #[.int .u32 2, .slice vc 2 cc] 25)
  replace IA := Lib.hid (IA.out.kept hb)
  replace PA := Lib.hid (PA.out.over hb)
  replace IB := Lib.hid (IB.out.kept hb)
  replace PB := Lib.hid (PB.out.over hb)
  replace IC := Lib.hid (IC.out.kept hb)
  replace B := Lib.hid (B.out.trans (hb.mono B.out.size))
  have PC := Lib.hid (Bl.Pair.newAt (v1) (.int .u32 2) (.slice vc 2 cc) 25 (v1.heap.size) (by simp))
  generalize v1.alloc (.cells #[.int .u32 2, .slice vc 2 cc] 25) = v2 at *
  generalize v1.heap.size = g2 at *
  clear hb
  have ⟨pc_0, pc_1, pc_2, pc_3, pc_4⟩ := PC.out
  go_wp2_with fail
  refine (put_any 2 (by decide) exC _ true ex_put (by decide) _ _ v2 IC.out.toIds).mono ?_
  rintro e v3 ⟨rfl, hb⟩
  clear pc_0 pc_1 pc_2 pc_3 pc_4
  replace IA := Lib.hid (IA.out.kept hb)
  replace PA := Lib.hid (PA.out.over hb)
  replace IB := Lib.hid (IB.out.kept hb)
  replace PB := Lib.hid (PB.out.over hb)
  replace IC := Lib.hid (IC.out.kept hb)
  replace PC := Lib.hid (PC.out.over hb)
  replace B := Lib.hid (B.out.trans (hb.mono B.out.size))
  clear hb
  go_wp2_with fail
  refine (get_any _ false 2 exC ⟨#[120]⟩ false ex_get (by decide) v3).mono ?_
  rintro e v4 ⟨vd, cd, rfl, id, hb⟩
  replace IA := Lib.hid (IA.out.kept hb)
  replace PA := Lib.hid (PA.out.over hb)
  replace IB := Lib.hid (IB.out.kept hb)
  replace PB := Lib.hid (PB.out.over hb)
  replace IC := Lib.hid (IC.out.kept hb)
  replace PC := Lib.hid (PC.out.over hb)
  replace B := Lib.hid (B.out.trans (hb.mono B.out.size))
  clear hb
  have ID := Lib.hid id
  clear id
  have ⟨pc_0, pc_1, pc_2, pc_3, pc_4⟩ := PC.out
  go_wp2_with fail
  have hb := Bl.below_2 v4 (.cells #[.int .u32 2, .slice vd 2 cd] 25) (.cells #[.string ⟨#[120]⟩, .bool false] 49)
  clear pc_0 pc_1 pc_2 pc_3 pc_4
  replace IA := Lib.hid (IA.out.kept hb)
  replace PA := Lib.hid (PA.out.over hb)
  replace IB := Lib.hid (IB.out.kept hb)
  replace PB := Lib.hid (PB.out.over hb)
  replace IC := Lib.hid (IC.out.kept hb)
  replace PC := Lib.hid (PC.out.over hb)
  replace ID := Lib.hid (ID.out.kept hb)
  replace B := Lib.hid (B.out.trans (hb.mono B.out.size))
  have PD := Lib.hid ((Bl.Pair.newAt (v4) (.int .u32 2) (.slice vd 2 cd) 25 (v4.heap.size) (by simp)).alloc (.cells #[.string ⟨#[120]⟩, .bool false] 49))
  have PR := Lib.hid (Bl.Pair.newAt (v4.alloc (.cells #[.int .u32 2, .slice vd 2 cd] 25)) (.string ⟨#[120]⟩) (.bool false) 49 (v4.heap.size + 1) (by simp))
  generalize (v4.alloc (.cells #[.int .u32 2, .slice vd 2 cd] 25)).alloc (.cells #[.string ⟨#[120]⟩, .bool false] 49) = v5 at *
  generalize v4.heap.size = g5 at *
  clear hb
  refine (same_any 2 2 exC exC true ex_same _ _ _ _ v5 IC.out ID.out).mono ?_
  rintro e v6 ⟨rfl, hb⟩
  replace IA := Lib.hid (IA.out.kept hb)
  replace PA := Lib.hid (PA.out.over hb)
  replace IB := Lib.hid (IB.out.kept hb)
  replace PB := Lib.hid (PB.out.over hb)
  replace IC := Lib.hid (IC.out.kept hb)
  replace PC := Lib.hid (PC.out.over hb)
  replace ID := Lib.hid (ID.out.kept hb)
  replace PD := Lib.hid (PD.out.over hb)
  replace PR := Lib.hid (PR.out.over hb)
  replace B := Lib.hid (B.out.trans (hb.mono B.out.size))
  clear hb
  have ⟨pa_0, pa_1, pa_2, pa_3, pa_4⟩ := PA.out
  have ⟨pb_0, pb_1, pb_2, pb_3, pb_4⟩ := PB.out
  have ⟨pr_0, pr_1, pr_2, pr_3, pr_4⟩ := PR.out
  go_wp2_with fail
  refine (same_any 2 1 exA exB false ex_other _ _ _ _ v6 IA.out IB.out).mono ?_
  rintro e v7 ⟨rfl, hb⟩
  clear pa_0 pa_1 pa_2 pa_3 pa_4 pb_0 pb_1 pb_2 pb_3 pb_4 pr_0 pr_1 pr_2 pr_3 pr_4
  replace IA := Lib.hid (IA.out.kept hb)
  replace PA := Lib.hid (PA.out.over hb)
  replace IB := Lib.hid (IB.out.kept hb)
  replace PB := Lib.hid (PB.out.over hb)
  replace IC := Lib.hid (IC.out.kept hb)
  replace PC := Lib.hid (PC.out.over hb)
  replace ID := Lib.hid (ID.out.kept hb)
  replace PD := Lib.hid (PD.out.over hb)
  replace PR := Lib.hid (PR.out.over hb)
  replace B := Lib.hid (B.out.trans (hb.mono B.out.size))
  clear hb
  have ⟨pc_0, pc_1, pc_2, pc_3, pc_4⟩ := PC.out
  go_wp2_with fail
  refine (text_any 2 (by decide) exC _ ex_text ex_inr (by decide) _ _ v7 IC.out.toIds (HT.out.over B.out)).mono ?_
  rintro e v8 ⟨rfl, hb⟩
  clear pc_0 pc_1 pc_2 pc_3 pc_4
  replace IA := Lib.hid (IA.out.kept hb)
  replace PA := Lib.hid (PA.out.over hb)
  replace IB := Lib.hid (IB.out.kept hb)
  replace PB := Lib.hid (PB.out.over hb)
  replace IC := Lib.hid (IC.out.kept hb)
  replace PC := Lib.hid (PC.out.over hb)
  replace ID := Lib.hid (ID.out.kept hb)
  replace PD := Lib.hid (PD.out.over hb)
  replace PR := Lib.hid (PR.out.over hb)
  replace B := Lib.hid (B.out.trans (hb.mono B.out.size))
  clear hb
  have ⟨pa_0, pa_1, pa_2, pa_3, pa_4⟩ := PA.out
  go_wp2_with fail
  refine (right_any 2 exA true ex_right _ _ v8 IA.out.toIds).mono ?_
  rintro e v9 ⟨rfl, hb⟩
  clear pa_0 pa_1 pa_2 pa_3 pa_4
  replace IA := Lib.hid (IA.out.kept hb)
  replace PA := Lib.hid (PA.out.over hb)
  replace IB := Lib.hid (IB.out.kept hb)
  replace PB := Lib.hid (PB.out.over hb)
  replace IC := Lib.hid (IC.out.kept hb)
  replace PC := Lib.hid (PC.out.over hb)
  replace ID := Lib.hid (ID.out.kept hb)
  replace PD := Lib.hid (PD.out.over hb)
  replace PR := Lib.hid (PR.out.over hb)
  replace B := Lib.hid (B.out.trans (hb.mono B.out.size))
  clear hb
  go_wp2_with fail
  refine (text_any 0 (by decide) [] _ ex_text0 (fun x hx => by cases hx) (by decide) none 0 v9 (Dp.Ids.nil _) (HT.out.over B.out)).mono ?_
  rintro e v10 ⟨rfl, hb⟩
  replace IA := Lib.hid (IA.out.kept hb)
  replace PA := Lib.hid (PA.out.over hb)
  replace IB := Lib.hid (IB.out.kept hb)
  replace PB := Lib.hid (PB.out.over hb)
  replace IC := Lib.hid (IC.out.kept hb)
  replace PC := Lib.hid (PC.out.over hb)
  replace ID := Lib.hid (ID.out.kept hb)
  replace PD := Lib.hid (PD.out.over hb)
  replace PR := Lib.hid (PR.out.over hb)
  replace B := Lib.hid (B.out.trans (hb.mono B.out.size))
  clear hb
  go_wp2
  go_ret
  exact ⟨rfl, B.out⟩
end Go.Proofs.YtkemljpjfbmjgaaDoor.At
