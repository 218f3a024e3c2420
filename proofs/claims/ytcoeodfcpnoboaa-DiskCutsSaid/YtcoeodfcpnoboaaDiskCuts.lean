/-
  Proved: for every text, every size and both flags the law DiskCuts returns true and leaves its inputs as they were. No condition beyond the form's own reach (the text at most 2^47 - 4096 bytes).
-/
import Derived.Test.YtcoeodfcpnoboaaDiskX
import Derived.WalkKit
import Derived.Deep.RegionHeld3
import Derived.Laws.Small
import Derived.Lib.Strings
import Derived.ProofKit
import Derived.OpenShut
import Derived.ShutString
import Derived.SizedLaws
import Derived.ChangeOld
import Derived.Below
import Derived.Carry
import Derived.Lib.SmallJoins
import Derived.Deep.SlicePairs
namespace Go.Proofs.Ytcoeodfcpnoboaa.diskCuts
open Go.ChangeShapes Go.WideShapes Go.ChangeAt Go.RowKit Go.Joins Go.Deep
open Go.ChangeMaps (open_string shut_string)
set_option linter.unusedVariables false

theorem own : ownKnob Try.prog.godebug = none := by kernel_rfl
theorem laidOut : laidOutB Try.prog = true := by kernel_rfl

set_option maxRecDepth 100000 in
set_option maxHeartbeats 4000000 in
theorem walk (a0 : ByteArray) (a1 : Int) (a2 : Bool) (w : World) (z0 : a0.size ≤ 140737488351232) (w1 : (Lit.int .i64 a1).wf = true) :
    Calls Try.prog 7 #[.string a0, .int .i64 a1, .bool a2] w fun e w' => e = .returned (.bool true) ∧ Below w.heap.size w w' := by
  obtain ⟨m, hm⟩ : ∃ m, min a0.size 300 = m := ⟨_, rfl⟩
  have hmin : ∀ W, (Builtin.min_ #[3, 3] 3 #[.int .i64 (a0.size : Int), .int .i64 300]).run Try.prog W = .ok (.int .i64 (m : Int)) W := by
    intro W
    rw [run_min_int2]
    have : (if (300 : Int) < (a0.size : Int) then (300 : Int) else (a0.size : Int)) = (m : Int) := by split <;> omega
    rw [this]
  have m0 : (0 : Int) ≤ (m : Int) := by omega
  have m1 : (m : Int) ≤ (a0.size : Int) := by omega
  have hxs : (a0.extract 0 m).size = m := by rw [ByteArray.size_extract]; omega
  obtain ⟨x, hx⟩ : ∃ x, a0.extract 0 m = x := ⟨_, rfl⟩
  rw [hx] at hxs
  have hx3 : x.size ≤ 300 := by omega
  have hxl : x.data.toList.length = x.size := by rw [← Lib.size_eq]
  have HXL := Lib.hid hxl
  clear hm hxs hxl
  cases a2
  · skip
    rcases Int.lt_or_le a1 0 with r1 | r1
    · skip
      go_enter Try.func7, Try.ntmps7
      go_wp2_with fail
      refine (Dk.examples_any _).mono ?_
      rintro e w1 ⟨rfl, b1⟩
      go_wp2_with fail
      refine (Dk.new_yes 1048576 (by decide) (by decide) _).mono ?_
      rintro e w2 ⟨rfl, hD, b⟩
      have b2 := Dk.behind b1 b
      have hs := b1.size
      go_wp2_with fail
      refine (Dk.append_fits hD x (by simp; omega)).mono ?_
      rintro e w3 ⟨rfl, hD2, hF⟩
      have b3 := b2.trans (hF.below.mono hs)
      clear hD hF b2 b1 b
      go_wp2_with fail
      refine (Dk.cut_no hD2 a1 (by have := HXL.out; simp; omega)).mono ?_
      rintro e w4 ⟨rfl, rfl⟩
      go_wp2_with fail
      refine (Dk.bytes_str hD2 x rfl).mono ?_
      rintro e w5 ⟨rfl, hD3, hb⟩
      have b4 := Dk.behind b3 hb
      go_wp2_with fail
      refine (Dk.synced_any hD3).mono ?_
      rintro e w6 ⟨rfl, rfl⟩
      go_wp2
      go_ret
      exact ⟨rfl, b4⟩
    · rcases Int.lt_or_le (x.size : Int) a1 with r2 | r2
      · skip
        go_enter Try.func7, Try.ntmps7
        go_wp2_with fail
        refine (Dk.examples_any _).mono ?_
        rintro e w1 ⟨rfl, b1⟩
        go_wp2_with fail
        refine (Dk.new_yes 1048576 (by decide) (by decide) _).mono ?_
        rintro e w2 ⟨rfl, hD, b⟩
        have b2 := Dk.behind b1 b
        have hs := b1.size
        go_wp2_with fail
        refine (Dk.append_fits hD x (by simp; omega)).mono ?_
        rintro e w3 ⟨rfl, hD2, hF⟩
        have b3 := b2.trans (hF.below.mono hs)
        clear hD hF b2 b1 b
        go_wp2_with fail
        refine (Dk.cut_no hD2 a1 (by have := HXL.out; simp; omega)).mono ?_
        rintro e w4 ⟨rfl, rfl⟩
        go_wp2_with fail
        refine (Dk.bytes_str hD2 x rfl).mono ?_
        rintro e w5 ⟨rfl, hD3, hb⟩
        have b4 := Dk.behind b3 hb
        go_wp2_with fail
        refine (Dk.synced_any hD3).mono ?_
        rintro e w6 ⟨rfl, rfl⟩
        go_wp2
        go_ret
        exact ⟨rfl, b4⟩
      · obtain ⟨k, rfl⟩ : ∃ k : Nat, a1 = (k : Int) := ⟨a1.toNat, by omega⟩
        go_enter Try.func7, Try.ntmps7
        go_wp2_with fail
        refine (Dk.examples_any _).mono ?_
        rintro e w1 ⟨rfl, b1⟩
        go_wp2_with fail
        refine (Dk.new_yes 1048576 (by decide) (by decide) _).mono ?_
        rintro e w2 ⟨rfl, hD, b⟩
        have b2 := Dk.behind b1 b
        have hs := b1.size
        go_wp2_with fail
        refine (Dk.append_fits hD x (by simp; omega)).mono ?_
        rintro e w3 ⟨rfl, hD2, hF⟩
        have b3 := b2.trans (hF.below.mono hs)
        clear hD hF b2 b1 b
        go_wp2_with fail
        refine (Dk.cut_yes hD2 k (by have := HXL.out; simp; omega)).mono ?_
        rintro e w4 ⟨rfl, hD3, hF⟩
        have b4 := b3.trans (hF.below.mono hs)
        have k0 : (0 : Int) ≤ (k : Int) := by omega
        obtain ⟨y, hy⟩ : ∃ y, x.extract 0 k = y := ⟨_, rfl⟩
        have hyl : y.data.toList = ([] ++ x.data.toList).take k := by rw [← hy, Lib.extract_data]; simp
        have HY := Lib.hid hyl
        clear hyl
        have hD4 := hD3.drew
        have b5 := b4.drew
        go_wp2_with fail
        go_region_held3 (fun _ => True) (trivial) (first | (go_at_call 23; refine (Dk.bytes_str hD4 y HY.out).mono ?_; rintro e w5 ⟨rfl, hD5, hb⟩; have b6 := Dk.behind b5 hb) | (go_at_call 24; refine (Dk.synced_any hD5).mono ?_; rintro e w6 ⟨rfl, rfl⟩))
        go_wp2
        go_ret
        exact ⟨rfl, b6⟩
  · obtain ⟨z, hz⟩ : ∃ z, a1.tmod 350 = z := ⟨_, rfl⟩
    rcases Int.lt_or_le z 0 with r1 | r1
    · skip
      go_enter Try.func7, Try.ntmps7
      go_wp2_with fail
      refine (Dk.examples_any _).mono ?_
      rintro e w1 ⟨rfl, b1⟩
      go_wp2_with fail
      refine (Dk.new_yes 1048576 (by decide) (by decide) _).mono ?_
      rintro e w2 ⟨rfl, hD, b⟩
      have b2 := Dk.behind b1 b
      have hs := b1.size
      go_wp2_with fail
      refine (Dk.append_fits hD x (by simp; omega)).mono ?_
      rintro e w3 ⟨rfl, hD2, hF⟩
      have b3 := b2.trans (hF.below.mono hs)
      clear hD hF b2 b1 b
      go_wp2_with fail
      refine (Dk.cut_no hD2 z (by have := HXL.out; simp; omega)).mono ?_
      rintro e w4 ⟨rfl, rfl⟩
      go_wp2_with fail
      refine (Dk.bytes_str hD2 x rfl).mono ?_
      rintro e w5 ⟨rfl, hD3, hb⟩
      have b4 := Dk.behind b3 hb
      go_wp2_with fail
      refine (Dk.synced_any hD3).mono ?_
      rintro e w6 ⟨rfl, rfl⟩
      go_wp2
      go_ret
      exact ⟨rfl, b4⟩
    · rcases Int.lt_or_le (x.size : Int) z with r2 | r2
      · skip
        go_enter Try.func7, Try.ntmps7
        go_wp2_with fail
        refine (Dk.examples_any _).mono ?_
        rintro e w1 ⟨rfl, b1⟩
        go_wp2_with fail
        refine (Dk.new_yes 1048576 (by decide) (by decide) _).mono ?_
        rintro e w2 ⟨rfl, hD, b⟩
        have b2 := Dk.behind b1 b
        have hs := b1.size
        go_wp2_with fail
        refine (Dk.append_fits hD x (by simp; omega)).mono ?_
        rintro e w3 ⟨rfl, hD2, hF⟩
        have b3 := b2.trans (hF.below.mono hs)
        clear hD hF b2 b1 b
        go_wp2_with fail
        refine (Dk.cut_no hD2 z (by have := HXL.out; simp; omega)).mono ?_
        rintro e w4 ⟨rfl, rfl⟩
        go_wp2_with fail
        refine (Dk.bytes_str hD2 x rfl).mono ?_
        rintro e w5 ⟨rfl, hD3, hb⟩
        have b4 := Dk.behind b3 hb
        go_wp2_with fail
        refine (Dk.synced_any hD3).mono ?_
        rintro e w6 ⟨rfl, rfl⟩
        go_wp2
        go_ret
        exact ⟨rfl, b4⟩
      · obtain ⟨k, rfl⟩ : ∃ k : Nat, z = (k : Int) := ⟨z.toNat, by omega⟩
        go_enter Try.func7, Try.ntmps7
        go_wp2_with fail
        refine (Dk.examples_any _).mono ?_
        rintro e w1 ⟨rfl, b1⟩
        go_wp2_with fail
        refine (Dk.new_yes 1048576 (by decide) (by decide) _).mono ?_
        rintro e w2 ⟨rfl, hD, b⟩
        have b2 := Dk.behind b1 b
        have hs := b1.size
        go_wp2_with fail
        refine (Dk.append_fits hD x (by simp; omega)).mono ?_
        rintro e w3 ⟨rfl, hD2, hF⟩
        have b3 := b2.trans (hF.below.mono hs)
        clear hD hF b2 b1 b
        go_wp2_with fail
        refine (Dk.cut_yes hD2 k (by have := HXL.out; simp; omega)).mono ?_
        rintro e w4 ⟨rfl, hD3, hF⟩
        have b4 := b3.trans (hF.below.mono hs)
        have k0 : (0 : Int) ≤ (k : Int) := by omega
        obtain ⟨y, hy⟩ : ∃ y, x.extract 0 k = y := ⟨_, rfl⟩
        have hyl : y.data.toList = ([] ++ x.data.toList).take k := by rw [← hy, Lib.extract_data]; simp
        have HY := Lib.hid hyl
        clear hyl
        have hD4 := hD3.drew
        have b5 := b4.drew
        go_wp2_with fail
        go_region_held3 (fun _ => True) (trivial) (first | (go_at_call 23; refine (Dk.bytes_str hD4 y HY.out).mono ?_; rintro e w5 ⟨rfl, hD5, hb⟩; have b6 := Dk.behind b5 hb) | (go_at_call 24; refine (Dk.synced_any hD5).mono ?_; rintro e w6 ⟨rfl, rfl⟩))
        go_wp2
        go_ret
        exact ⟨rfl, b6⟩

set_option maxRecDepth 100000 in
theorem lifted (os : Os) (started : os.Started) (H : Type) (enc : TypeId × Value → H) :
    ReturnsInHanded {} Try.checked os 7 .any (Rows.diskCutsSpec.pre6 enc Try.prog Try.f7 Rows.diskCutsRow.domain false) (Rows.diskCutsSpec.post enc Try.prog Try.f7 false true false false) := by
  refine returnsInHanded_of_change_sized (C := Try.checked) own started (by kernel_rfl) Try.func7
    (ChangeSpec.witness6 (enc := enc) (C := Try.checked) false ⟨#[], #[.string ByteArray.empty, .int .i64 0, .bool false], []⟩ 8 (by kernel_rfl) (by kernel_rfl) (by kernel_rfl) (by kernel_rfl)) ?_
  intro W base args ds gs before hval0 hW hcnd hsz0 _
  have hval : ∀ (j : Nat) t v, Try.f7.params[j]? = some t → args[j]? = some v → Value.okWide Try.prog W .any base t v := hval0
  have hsz : (DataW.weightsEach Try.prog (Try.f7.params.toList ++ Rows.diskCutsSpec.plain.varTypes Try.prog) (ds ++ gs)).all (· ≤ reachBytes) = true := hsz0
  have hW' := hW
  obtain ⟨p, q, hA0, hV, rfl, hfz, hnd⟩ := hW
  have hA : DataW.TrodAll enc Try.prog W 0 (fun _ => true) true Try.f7.params.toList args.toList ds p := hA0
  rw [Try.params7] at hA hval hsz
  obtain ⟨v0, vs0, d0, ds0, p0, q0, hargs, rfl, rfl, h0, r0⟩ := trodAll_cons hA
  obtain ⟨v1, vs1, d1, ds1, p1, q1, rfl, rfl, rfl, h1, r1⟩ := trodAll_cons r0
  obtain ⟨v2, vs2, d2, ds2, p2, q2, rfl, rfl, rfl, h2, r2⟩ := trodAll_cons r1
  obtain ⟨rfl, rfl, rfl⟩ := trodAll_nil r2
  obtain rfl : args = #[v0, v1, v2] := by cases args; simp_all
  obtain ⟨rfl, rfl⟩ := trodVars_none hV
  obtain ⟨a0, rfl, rfl, rfl, w0⟩ := open_string Try.underlying9 (hval 0 9 v0 rfl rfl) h0
  obtain ⟨a1, rfl, rfl, rfl, w1⟩ := open_int Try.underlying3 (hval 1 3 v1 rfl rfl) h1
  obtain ⟨a2, rfl, rfl, rfl⟩ := open_bool Try.underlying4 (hval 2 4 v2 rfl rfl) h2
  clear hA0 hval0
  have z0 : a0.size ≤ 140737488351232 := by
    have := sized_string hsz (j := 0) (t := 9) rfl rfl
    simp only [Array.length_toList, reachBytes] at this
    exact this
  refine (walk a0 a1 a2 W z0 w1).mono fun e W' ⟨he, bel⟩ => ?_
  subst he
  exact ⟨_, rfl, _, _, _, [], _, [], hW', trodAll_mk1 (shut_bool Try.underlying4 _), (trodAll_cons_mk (shut_string Try.underlying9 w0) (trodAll_cons_mk (shut_int Try.underlying3 w1) (trodAll_cons_mk (shut_bool Try.underlying4 _) trodAll_mk0))), rfl, bel.frame _, fun h => by cases h⟩

theorem over : Rows.diskCutsRow.holds Try.pinned (OpenSpec.ofChange Rows.diskCutsSpec) :=
  OpenClaim.holds_of_wide 7 Try.f7 rfl rfl rfl rfl rfl rfl rfl ⟨rfl, rfl, rfl, rfl, rfl⟩ rfl rfl rfl rfl rfl (by kernel_rfl) Try.func7 (by kernel_rfl)
    (of_decide_eq_true (by kernel_rfl)) (by unfold Func.isWrapper; first | (rw [if_pos (by decide +kernel)]; kernel_rfl) | (rw [if_neg (by decide +kernel)]; exact ⟨rfl, rfl⟩))
    (fun os started H enc _ => lifted os started H enc)

theorem proved : Rows.DiskCutsSaid := over
end Go.Proofs.Ytcoeodfcpnoboaa.diskCuts
