/-
  Proved: for every two ballots and every bool the law BallotTexts returns true and leaves its inputs as they were; the card ties the three tables of the library that the row lists to the text of the program. No condition beyond the form itself (each text at most 2^47 - 4096 bytes; the listed tables start as that text lays them).
-/
import Derived.Test.YthmadcmoendndaaDoorBalK
import Derived.Deep.RegionHeld3
import Derived.Test.YthmadcmoendndaaDoorCards
import Derived.Test.YthmadcmoendndaaDoorTie
import Derived.Deep.DeepHandedRow
import Derived.LaidMore
import Derived.SevenTiedAt
import Derived.WalkKit
import Derived.ProofKit
import Derived.OpenShut
import Derived.ShutString
import Derived.SizedLaws
import Derived.ChangeOld
import Derived.Below
import Derived.Carry
import Derived.Lib.SmallJoins
import Derived.Deep.SlicePairs
import Derived.SliceStrings
namespace Go.Proofs.YthmadcmoendndaaDoor.ballotTexts
open Go.ChangeShapes Go.WideShapes Go.ChangeAt Go.RowKit Go.Joins Go.Deep
open Go.ChangeMaps (open_string shut_string)
set_option linter.unusedVariables false

theorem own : ownKnob Tryd.prog.godebug = none := by kernel_rfl
theorem laidOut : laidOutB Tryd.prog = true := by kernel_rfl

set_option maxRecDepth 100000 in
set_option maxHeartbeats 4000000 in
theorem walk (a0_0 : Int) (a0_1 : Int) (a1_0 : Int) (a1_1 : Int) (a2 : Bool) (w : World) (w0_0 : (Lit.int .u32 a0_0).wf = true) (w0_1 : (Lit.int .i64 a0_1).wf = true) (w1_0 : (Lit.int .u32 a1_0).wf = true) (w1_1 : (Lit.int .i64 a1_1).wf = true) (ht : Bl.Tab w) :
    Calls Tryd.prog 7 #[.agg #[.int .u32 a0_0, .int .i64 a0_1], .agg #[.int .u32 a1_0, .int .i64 a1_1], .bool a2] w fun e w' => e = .returned (.bool true) ∧ Below w.heap.size w w' := by
  have q0 : 0 ≤ a0_0 ∧ a0_0 ≤ 4294967295 := by simpa [Lit.wf, IntKind.min, IntKind.max, IntKind.signed, IntKind.bits] using w0_0
  have q1 : 0 ≤ a1_0 ∧ a1_0 ≤ 4294967295 := by simpa [Lit.wf, IntKind.min, IntKind.max, IntKind.signed, IntKind.bits] using w1_0
  have v0 : -9223372036854775808 ≤ a0_1 ∧ a0_1 ≤ 9223372036854775807 := by simpa [Lit.wf, IntKind.min, IntKind.max, IntKind.signed, IntKind.bits] using w0_1
  have v1 : -9223372036854775808 ≤ a1_1 ∧ a1_1 ≤ 9223372036854775807 := by simpa [Lit.wf, IntKind.min, IntKind.max, IntKind.signed, IntKind.bits] using w1_1
  obtain ⟨q00, q01⟩ := q0
  obtain ⟨q10, q11⟩ := q1
  obtain ⟨v00, v01⟩ := v0
  obtain ⟨v10, v11⟩ := v1
  clear w0_0 w0_1 w1_0 w1_1
  have htw := ht
  obtain ⟨r, er⟩ : ∃ r, (if a2 then a0_0 else a1_0) = r := ⟨_, rfl⟩
  have p0 : 0 ≤ r := by rw [← er]; split <;> assumption
  have p1 : r ≤ 4294967295 := by rw [← er]; split <;> assumption
  obtain ⟨q, eq⟩ : ∃ q, (a0_0 == r && a0_1 == a1_1) = q := ⟨_, rfl⟩
  have hq : ∀ W, (binOp .eql 24 (.agg #[.int .u32 a0_0, .int .i64 a0_1]) (.agg #[.int .u32 r, .int .i64 a1_1])).run Tryd.prog W = Result.ok (Value.bool q) W := by
    intro W
    rw [Bl.run_eql 24 (.inl rfl), ← eq]
  have he : ((Bl.textB a0_0 a0_1).toList == (Bl.textB r a1_1).toList) = q := by
    rw [← eq, Bool.eq_iff_iff, beq_iff_eq, ByteArray.toList_eq, ByteArray.toList_eq]
    constructor
    · intro h
      have h2 := Bl.text_inj a0_0 a0_1 r a1_1 q00 p0 (ByteArray.ext (Array.toList_inj.1 h))
      simp [h2]
    · intro h
      simp only [Bool.and_eq_true, beq_iff_eq] at h
      rw [h.1, h.2]
  have hz : ((Bl.putB a0_0 a0_1).size : Int) = 5 := by rw [Bl.putB_size]; rfl
  clear eq
  cases a2
  · replace er : a1_0 = r := er
    subst er
    go_enter Tryd.func7, Tryd.ntmps7
    go_wp2_with fail
    have bel' : Below w.heap.size w ((w.alloc (.cells #[.int .u32 a0_0, .int .i64 a0_1] 24)).alloc (.cells #[.int .u32 a1_0, .int .i64 a1_1] 24)) := Bl.below_then ((Below.refl _ _)) (Bl.below_2 _ _ _) (Nat.le_refl _)
    have k3 := (Bl.Pair.newAt (w) (.int .u32 a0_0) (.int .i64 a0_1) 24 (w.heap.size) (by simp)).alloc (.cells #[.int .u32 a1_0, .int .i64 a1_1] 24)
    have k4 := Bl.Pair.newAt (w.alloc (.cells #[.int .u32 a0_0, .int .i64 a0_1] 24)) (.int .u32 a1_0) (.int .i64 a1_1) 24 (w.heap.size + 1) (by simp)
    have ht' : Bl.Tab ((w.alloc (.cells #[.int .u32 a0_0, .int .i64 a0_1] 24)).alloc (.cells #[.int .u32 a1_0, .int .i64 a1_1] 24)) := Bl.Tab.over (ht) (Bl.below_2 _ _ _)
    clear ht
    have ht := ht'; clear ht'
    have bel := bel'; clear bel'
    generalize (w.alloc (.cells #[.int .u32 a0_0, .int .i64 a0_1] 24)).alloc (.cells #[.int .u32 a1_0, .int .i64 a1_1] 24) = X1 at *
    refine (Bl.examples_any _ ht).mono ?_
    rintro e x2 ⟨rfl, hb⟩
    have belb := Bl.below_then bel hb bel.size; clear bel
    have k3b := k3.over hb; clear k3
    have k4b := k4.over hb; clear k4
    have htb := Bl.Tab.over ht hb; clear ht
    clear hb
    have k3 := k3b; clear k3b
    have k4 := k4b; clear k4b
    have ht := htb; clear htb
    have bel := belb; clear belb
    have ⟨k3_0, k3_1, k3_2, k3_3, k3_4⟩ := k3
    have ⟨k4_0, k4_1, k4_2, k4_3, k4_4⟩ := k4
    go_wp2
    clear k3_0 k3_1 k3_2 k3_3 k3_4 k4_0 k4_1 k4_2 k4_3 k4_4
    have hd : Bl.Duo w w.heap.size w.heap.size (.int .u32 a0_0) (.int .i64 a0_1) (w.heap.size + 1) (.int .u32 a1_0) (.int .i64 a1_1) x2.drew := ⟨k3.drew, k4.drew, bel.drew, bel.size, Bl.Tab.over htw bel.drew⟩
    clear k3 k4 bel ht
    go_region_held3 (fun w' => w'.cell? ⟨w.heap.size, 0, none⟩ = some (.int .u32 a0_0) ∧ w'.cell? ⟨w.heap.size, 1, none⟩ = some (.int .i64 a0_1) ∧ w'.cell? ⟨w.heap.size + 1, 0, none⟩ = some (.int .u32 a1_0) ∧ w'.cell? ⟨w.heap.size + 1, 1, none⟩ = some (.int .i64 a1_1)) (exact Bl.Duo.cells (by assumption)) (first | (go_at_call 22; refine (Bl.text_any _ _ _ rfl (by assumption) (by assumption) (by assumption) (by assumption) _ (Bl.Duo.tab (by assumption))).mono ?_; rintro e w3 ⟨rfl, hb3⟩; have hp3 := Bl.Duo.keep hb3 (by assumption)) | (go_at_call 20; refine (Bl.put_any _ _ _ rfl (by assumption) (by assumption) _).mono ?_; rintro e w4 ⟨rfl, hb4⟩; have hp4 := Bl.Duo.keep hb4 (by assumption)))
    go_wp2
    go_ret
    exact ⟨rfl, hp4.2.2.1⟩
  · replace er : a0_0 = r := er
    subst er
    go_enter Tryd.func7, Tryd.ntmps7
    go_wp2_with fail
    have bel' : Below w.heap.size w ((w.alloc (.cells #[.int .u32 a0_0, .int .i64 a0_1] 24)).alloc (.cells #[.int .u32 a1_0, .int .i64 a1_1] 24)) := Bl.below_then ((Below.refl _ _)) (Bl.below_2 _ _ _) (Nat.le_refl _)
    have k3 := (Bl.Pair.newAt (w) (.int .u32 a0_0) (.int .i64 a0_1) 24 (w.heap.size) (by simp)).alloc (.cells #[.int .u32 a1_0, .int .i64 a1_1] 24)
    have k4 := Bl.Pair.newAt (w.alloc (.cells #[.int .u32 a0_0, .int .i64 a0_1] 24)) (.int .u32 a1_0) (.int .i64 a1_1) 24 (w.heap.size + 1) (by simp)
    have ht' : Bl.Tab ((w.alloc (.cells #[.int .u32 a0_0, .int .i64 a0_1] 24)).alloc (.cells #[.int .u32 a1_0, .int .i64 a1_1] 24)) := Bl.Tab.over (ht) (Bl.below_2 _ _ _)
    clear ht
    have ht := ht'; clear ht'
    have bel := bel'; clear bel'
    generalize (w.alloc (.cells #[.int .u32 a0_0, .int .i64 a0_1] 24)).alloc (.cells #[.int .u32 a1_0, .int .i64 a1_1] 24) = X1 at *
    refine (Bl.examples_any _ ht).mono ?_
    rintro e x2 ⟨rfl, hb⟩
    have belb := Bl.below_then bel hb bel.size; clear bel
    have k3b := k3.over hb; clear k3
    have k4b := k4.over hb; clear k4
    have htb := Bl.Tab.over ht hb; clear ht
    clear hb
    have k3 := k3b; clear k3b
    have k4 := k4b; clear k4b
    have ht := htb; clear htb
    have bel := belb; clear belb
    have ⟨k3_0, k3_1, k3_2, k3_3, k3_4⟩ := k3
    have ⟨k4_0, k4_1, k4_2, k4_3, k4_4⟩ := k4
    go_wp2
    clear k3_0 k3_1 k3_2 k3_3 k3_4 k4_0 k4_1 k4_2 k4_3 k4_4
    have hd : Bl.Duo w w.heap.size w.heap.size (.int .u32 a0_0) (.int .i64 a0_1) (w.heap.size + 1) (.int .u32 a0_0) (.int .i64 a1_1) (x2.setCell ⟨w.heap.size + 1, 0, none⟩ (.int .u32 a0_0)).drew := ⟨(k3.far ⟨w.heap.size + 1, 0, none⟩ (by simp) _).drew, (Bl.Pair.set0 k4 _).drew, (bel.setCell (p := ⟨w.heap.size + 1, 0, none⟩) (Nat.le_succ _) _).drew, (bel.setCell (p := ⟨w.heap.size + 1, 0, none⟩) (Nat.le_succ _) (.int .u32 a0_0)).size, Bl.Tab.over htw (bel.setCell (p := ⟨w.heap.size + 1, 0, none⟩) (Nat.le_succ _) _).drew⟩
    generalize x2.setCell ⟨w.heap.size + 1, 0, none⟩ (.int .u32 a0_0) = X at *
    clear k3 k4 bel ht
    go_region_held3 (fun w' => w'.cell? ⟨w.heap.size, 0, none⟩ = some (.int .u32 a0_0) ∧ w'.cell? ⟨w.heap.size, 1, none⟩ = some (.int .i64 a0_1) ∧ w'.cell? ⟨w.heap.size + 1, 0, none⟩ = some (.int .u32 a0_0) ∧ w'.cell? ⟨w.heap.size + 1, 1, none⟩ = some (.int .i64 a1_1)) (exact Bl.Duo.cells (by assumption)) (first | (go_at_call 22; refine (Bl.text_any _ _ _ rfl (by assumption) (by assumption) (by assumption) (by assumption) _ (Bl.Duo.tab (by assumption))).mono ?_; rintro e w3 ⟨rfl, hb3⟩; have hp3 := Bl.Duo.keep hb3 (by assumption)) | (go_at_call 20; refine (Bl.put_any _ _ _ rfl (by assumption) (by assumption) _).mono ?_; rintro e w4 ⟨rfl, hb4⟩; have hp4 := Bl.Duo.keep hb4 (by assumption)))
    go_wp2
    go_ret
    exact ⟨rfl, hp4.2.2.1⟩

theorem laid_met (os : Os) : laidMet Tryd.prog Rows.ballotTextsRow.laid ((World.doorLaid Tryd.prog 24 os).forCall (fun _ _ => 0) ⟨#[], #[.agg #[.int .u32 0, .int .i64 0], .agg #[.int .u32 0, .int .i64 0], .bool false], []⟩).memory :=
  laidMet_of_run' 8 (by kernel_rfl) (by kernel_rfl)
theorem reads (os : Os) {H : Type} (enc : TypeId × Value → H) : ∃ places, DataW.whole enc Tryd.prog ((World.doorLaid Tryd.prog 24 os).forCall (fun _ _ => 0) ⟨#[], #[.agg #[.int .u32 0, .int .i64 0], .agg #[.int .u32 0, .int .i64 0], .bool false], []⟩).memory Tryd.f7.params.toList Rows.ballotTextsSpec.vars false (#[.agg #[.int .u32 0, .int .i64 0], .agg #[.int .u32 0, .int .i64 0], .bool false] : Array Value).toList 8 = some ([.agg [.lit (.int .u32 0), .lit (.int .i64 0)], .agg [.lit (.int .u32 0), .lit (.int .i64 0)], .lit (.bool false)], [], places) :=
  ⟨[], by kernel_rfl⟩

set_option maxRecDepth 100000 in
theorem lifted (os : Os) (started : os.Started) (H : Type) (enc : TypeId × Value → H) (F : Stop.Interp) :
    ReturnsInHanded {} Tryd.checked os 7 .any ((OpenSpec.ofChange Rows.ballotTextsSpec).preRow enc Tryd.prog Tryd.f7 Rows.ballotTextsRow.domain false Rows.ballotTextsRow.laid) (((OpenSpec.ofChange Rows.ballotTextsSpec).at F).post enc Tryd.prog Tryd.f7 false true false false) := by
  obtain ⟨places, hx⟩ := reads os enc
  refine returnsInHanded_of_row (C := Tryd.checked) (s := OpenSpec.ofChange Rows.ballotTextsSpec) own started (by kernel_rfl) Tryd.func7
    (witness_row_at (enc := enc) (C := Tryd.checked) false (World.doorLaid Tryd.prog 24 os) #[.agg #[.int .u32 0, .int .i64 0], .agg #[.int .u32 0, .int .i64 0], .bool false] rfl (by kernel_rfl) (by kernel_rfl) (by kernel_rfl)
      (OpenSpec.preRow_of_cond 8 hx (by kernel_rfl) (fun k hk => by cases hk) (by kernel_rfl) (laid_met os))) ?_
  intro W base args ds gs before hval0 hW _ _ hsz0 hL _ _
  have hval : ∀ (j : Nat) t v, Tryd.f7.params[j]? = some t → args[j]? = some v → Value.okWide Tryd.prog W .any base t v := hval0
  have hsz : (DataW.weightsEach Tryd.prog (Tryd.f7.params.toList ++ Rows.ballotTextsSpec.plain.varTypes Tryd.prog) (ds ++ gs)).all (· ≤ reachBytes) = true := hsz0
  have hW' := hW
  obtain ⟨p, q, hA0, hV, rfl, hfz, hnd⟩ := hW
  have hA : DataW.TrodAll enc Tryd.prog W 0 (fun _ => true) true Tryd.f7.params.toList args.toList ds p := hA0
  rw [Tryd.params7] at hA hval hsz
  obtain ⟨v0, vs0, d0, ds0, p0, q0, hargs, rfl, rfl, h0, r0⟩ := trodAll_cons hA
  obtain ⟨v1, vs1, d1, ds1, p1, q1, rfl, rfl, rfl, h1, r1⟩ := trodAll_cons r0
  obtain ⟨v2, vs2, d2, ds2, p2, q2, rfl, rfl, rfl, h2, r2⟩ := trodAll_cons r1
  obtain ⟨rfl, rfl, rfl⟩ := trodAll_nil r2
  obtain rfl : args = #[v0, v1, v2] := by cases args; simp_all
  obtain ⟨rfl, rfl⟩ := trodVars_none hV
  have k0 := h0
  have lt0 : ∀ x ∈ p0, x.block < W.heap.size := by obtain ⟨m, hm⟩ := k0; exact DataW.trod_lt m _ _ _ hm
  have k1 := h1
  have lt1 : ∀ x ∈ p1, x.block < W.heap.size := by obtain ⟨m, hm⟩ := k1; exact DataW.trod_lt m _ _ _ hm
  obtain ⟨c0_0, c0_1, y0_0, y0_1, m0, rfl, rfl, hp0, g0_0, g0_1⟩ := open_agg2 Tryd.underlying24 (by kernel_rfl) (by kernel_rfl) (hval 0 24 v0 rfl rfl) h0
  obtain ⟨a0_0, e0_0, rfl, w0_0⟩ := DataW.trod_int Tryd.underlying22 g0_0
  obtain rfl : c0_0 = .int .u32 a0_0 := by simpa using e0_0
  obtain ⟨a0_1, e0_1, rfl, w0_1⟩ := DataW.trod_int Tryd.underlying3 g0_1
  obtain rfl : c0_1 = .int .i64 a0_1 := by simpa using e0_1
  obtain ⟨c1_0, c1_1, y1_0, y1_1, m1, rfl, rfl, hp1, g1_0, g1_1⟩ := open_agg2 Tryd.underlying24 (by kernel_rfl) (by kernel_rfl) (hval 1 24 v1 rfl rfl) h1
  obtain ⟨a1_0, e1_0, rfl, w1_0⟩ := DataW.trod_int Tryd.underlying22 g1_0
  obtain rfl : c1_0 = .int .u32 a1_0 := by simpa using e1_0
  obtain ⟨a1_1, e1_1, rfl, w1_1⟩ := DataW.trod_int Tryd.underlying3 g1_1
  obtain rfl : c1_1 = .int .i64 a1_1 := by simpa using e1_1
  obtain ⟨a2, rfl, rfl, rfl⟩ := open_bool Tryd.underlying4 (hval 2 4 v2 rfl rfl) h2
  clear hA0 hval0
  refine (walk a0_0 a0_1 a1_0 a1_1 a2 W w0_0 w0_1 w1_0 w1_1 (Bl.tab_of hL)).mono fun e W' ⟨he, bel⟩ => ?_
  subst he
  exact ⟨_, rfl, _, _, _, [], _, [], hW', trodAll_mk1 (shut_bool Tryd.underlying4 _), (trodAll_cons_mk (Below.trod laidOut (by kernel_rfl) (of_decide_eq_true (by kernel_rfl)) k0 bel lt0) (trodAll_cons_mk (Below.trod laidOut (by kernel_rfl) (of_decide_eq_true (by kernel_rfl)) k1 bel lt1) (trodAll_cons_mk (shut_bool Tryd.underlying4 _) trodAll_mk0))), rfl, bel.frame _, fun h => by cases h⟩

theorem over : Rows.ballotTextsRow.holds Tryd.pinned (OpenSpec.ofChange Rows.ballotTextsSpec) :=
  OpenClaim.holds_of_cond 7 Tryd.f7 rfl rfl rfl rfl rfl rfl rfl ⟨rfl, rfl, rfl, rfl, rfl⟩ rfl rfl rfl rfl rfl (by kernel_rfl) Tryd.func7 (by kernel_rfl)
    (of_decide_eq_true (by kernel_rfl)) (by unfold Func.isWrapper; first | (rw [if_pos (by decide +kernel)]; kernel_rfl) | (rw [if_neg (by decide +kernel)]; exact ⟨rfl, rfl⟩))
    (fun os started H enc _ F => by rw [OpenClaim.pre_eq_preRow]; exact lifted os started H enc F)

/-- No parameter wants a stand-in. -/
theorem plain (f : FuncId) (fn : Func) (hf : Tryd.pinned.checked.prog.funcNamed "comitia/comitialaw06.BallotTexts" = some f) (hfn : Tryd.pinned.checked.prog.funcs[f]? = some fn) :
    false = Tryd.pinned.checked.prog.looks [] ∧ ∀ (j : Nat) t, fn.params[j]? = some t → Tryd.pinned.checked.prog.wantsStandIn t = false := by
  obtain rfl : f = 7 := Option.some.inj ((show Tryd.prog.funcNamed "comitia/comitialaw06.BallotTexts" = some 7 by kernel_rfl).symm.trans hf) |>.symm
  obtain rfl : fn = Tryd.f7 := (Option.some.inj (Tryd.func7.symm.trans hfn)).symm
  refine ⟨by kernel_rfl, fun j t ht => ?_⟩
  rw [Tryd.params7] at ht
  have hm : t ∈ [24, 24, 4] := by simpa using Array.mem_of_getElem? ht
  have hall : ([24, 24, 4].all fun u => !Tryd.prog.wantsStandIn u) = true := by kernel_rfl
  exact (show Tryd.prog.wantsStandIn t = false by simpa using List.all_eq_true.1 hall t hm)

theorem proved : Rows.BallotTextsCardSaid :=
  Claim7.holds_tied_plain_at .later [] _ _ _ _ over (fun _ h => by cases h) (by kernel_rfl) (fun _ h => by cases h) ballotTexts_row_tie rfl ⟨rfl, rfl⟩ (by kernel_rfl) rfl plain (by kernel_rfl)
end Go.Proofs.YthmadcmoendndaaDoor.ballotTexts
