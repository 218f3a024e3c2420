/-
  Proved: for every room and every number the law DiskWrong returns true and leaves its inputs as they were. No condition.
-/
import Derived.Test.YtcoeodfcpnoboaaDiskX
import Derived.WalkKit
import Derived.ProofKit
import Derived.OpenShut
import Derived.ShutString
import Derived.SizedLaws
import Derived.ChangeOld
import Derived.Below
import Derived.Carry
import Derived.Lib.SmallJoins
import Derived.Deep.SlicePairs
namespace Go.Proofs.Ytcoeodfcpnoboaa.diskWrong
open Go.ChangeShapes Go.WideShapes Go.ChangeAt Go.RowKit Go.Joins Go.Deep
open Go.ChangeMaps (open_string shut_string)
set_option linter.unusedVariables false

theorem own : ownKnob Try.prog.godebug = none := by kernel_rfl
theorem laidOut : laidOutB Try.prog = true := by kernel_rfl

set_option maxRecDepth 100000 in
set_option maxHeartbeats 4000000 in
theorem walk (a0 : Int) (a1 : Int) (w : World) (w0 : (Lit.int .i64 a0).wf = true) (w1 : (Lit.int .i64 a1).wf = true) :
    Calls Try.prog 8 #[.int .i64 a0, .int .i64 a1] w fun e w' => e = .returned (.bool true) ∧ Below w.heap.size w w' := by
  rcases Int.lt_or_le a0 1 with r1 | r1
  · skip
    rcases Int.lt_or_le a1 0 with m1 | m1
    · skip
      go_enter Try.func8, Try.ntmps8
      go_wp2_with fail
      refine (Dk.examples_any _).mono ?_
      rintro e w1 ⟨rfl, b1⟩
      go_wp2_with fail
      refine (Dk.new_no a0 (by omega) _).mono ?_
      rintro e w2 ⟨rfl, rfl⟩
      have b2 := b1
      go_wp2_with fail
      refine (Dk.new_yes 10 (by decide) (by decide) _).mono ?_
      rintro e w3 ⟨rfl, hD, b⟩
      have b3 := Dk.behind b2 b
      have hs := b2.size
      go_wp2_with fail
      refine (Dk.grow_any hD a1).mono ?_
      rintro e w4 ⟨rfl, hD2, hF⟩
      have b4 := b3.trans (hF.below.mono hs)
      clear hD hF b3 b2 b1 b hs
      rw [show Dk.growsE 10 a1 = 1 by rw [Dk.growsE, if_neg (by omega)]]
      rw [show Dk.grows 10 a1 = 10 by rw [Dk.grows, if_neg (by omega)]] at hD2
      go_wp2_with fail
      refine (Dk.room_any hD2).mono ?_
      rintro e w5 ⟨rfl, rfl⟩
      go_wp2
      go_ret
      exact ⟨rfl, b4⟩
    · rcases Int.lt_or_le 16777206 a1 with m2 | m2
      · skip
        go_enter Try.func8, Try.ntmps8
        go_wp2_with fail
        refine (Dk.examples_any _).mono ?_
        rintro e w1 ⟨rfl, b1⟩
        go_wp2_with fail
        refine (Dk.new_no a0 (by omega) _).mono ?_
        rintro e w2 ⟨rfl, rfl⟩
        have b2 := b1
        go_wp2_with fail
        refine (Dk.new_yes 10 (by decide) (by decide) _).mono ?_
        rintro e w3 ⟨rfl, hD, b⟩
        have b3 := Dk.behind b2 b
        have hs := b2.size
        go_wp2_with fail
        refine (Dk.grow_any hD a1).mono ?_
        rintro e w4 ⟨rfl, hD2, hF⟩
        have b4 := b3.trans (hF.below.mono hs)
        clear hD hF b3 b2 b1 b hs
        rw [show Dk.growsE 10 a1 = 1 by rw [Dk.growsE, if_neg (by omega)]]
        rw [show Dk.grows 10 a1 = 10 by rw [Dk.grows, if_neg (by omega)]] at hD2
        go_wp2_with fail
        refine (Dk.room_any hD2).mono ?_
        rintro e w5 ⟨rfl, rfl⟩
        go_wp2
        go_ret
        exact ⟨rfl, b4⟩
      · skip
        obtain ⟨n, rfl⟩ : ∃ n : Nat, a1 = (n : Int) := ⟨a1.toNat, by omega⟩
        go_enter Try.func8, Try.ntmps8
        go_wp2_with fail
        refine (Dk.examples_any _).mono ?_
        rintro e w1 ⟨rfl, b1⟩
        go_wp2_with fail
        refine (Dk.new_no a0 (by omega) _).mono ?_
        rintro e w2 ⟨rfl, rfl⟩
        have b2 := b1
        go_wp2_with fail
        refine (Dk.new_yes 10 (by decide) (by decide) _).mono ?_
        rintro e w3 ⟨rfl, hD, b⟩
        have b3 := Dk.behind b2 b
        have hs := b2.size
        go_wp2_with fail
        refine (Dk.grow_any hD (n : Int)).mono ?_
        rintro e w4 ⟨rfl, hD2, hF⟩
        have b4 := b3.trans (hF.below.mono hs)
        clear hD hF b3 b2 b1 b hs
        rw [show Dk.growsE 10 (n : Int) = 0 by rw [Dk.growsE, if_pos (by omega)]]
        rw [show Dk.grows 10 (n : Int) = 10 + n by rw [Dk.grows, if_pos (by omega)]; rfl] at hD2
        go_wp2_with fail
        refine (Dk.room_any hD2).mono ?_
        rintro e w5 ⟨rfl, rfl⟩
        go_wp2
        go_ret
        exact ⟨rfl, b4⟩
  · rcases Int.lt_or_le 16777216 a0 with r2 | r2
    · have r3 : decide (a0 ≤ 16777216) = false := decide_eq_false (by omega)
      rcases Int.lt_or_le a1 0 with m1 | m1
      · skip
        go_enter Try.func8, Try.ntmps8
        go_wp2_with fail
        refine (Dk.examples_any _).mono ?_
        rintro e w1 ⟨rfl, b1⟩
        go_wp2_with fail
        refine (Dk.new_no a0 (by omega) _).mono ?_
        rintro e w2 ⟨rfl, rfl⟩
        have b2 := b1
        go_wp2_with fail
        refine (Dk.new_yes 10 (by decide) (by decide) _).mono ?_
        rintro e w3 ⟨rfl, hD, b⟩
        have b3 := Dk.behind b2 b
        have hs := b2.size
        go_wp2_with fail
        refine (Dk.grow_any hD a1).mono ?_
        rintro e w4 ⟨rfl, hD2, hF⟩
        have b4 := b3.trans (hF.below.mono hs)
        clear hD hF b3 b2 b1 b hs
        rw [show Dk.growsE 10 a1 = 1 by rw [Dk.growsE, if_neg (by omega)]]
        rw [show Dk.grows 10 a1 = 10 by rw [Dk.grows, if_neg (by omega)]] at hD2
        go_wp2_with fail
        refine (Dk.room_any hD2).mono ?_
        rintro e w5 ⟨rfl, rfl⟩
        go_wp2
        go_ret
        exact ⟨rfl, b4⟩
      · rcases Int.lt_or_le 16777206 a1 with m2 | m2
        · skip
          go_enter Try.func8, Try.ntmps8
          go_wp2_with fail
          refine (Dk.examples_any _).mono ?_
          rintro e w1 ⟨rfl, b1⟩
          go_wp2_with fail
          refine (Dk.new_no a0 (by omega) _).mono ?_
          rintro e w2 ⟨rfl, rfl⟩
          have b2 := b1
          go_wp2_with fail
          refine (Dk.new_yes 10 (by decide) (by decide) _).mono ?_
          rintro e w3 ⟨rfl, hD, b⟩
          have b3 := Dk.behind b2 b
          have hs := b2.size
          go_wp2_with fail
          refine (Dk.grow_any hD a1).mono ?_
          rintro e w4 ⟨rfl, hD2, hF⟩
          have b4 := b3.trans (hF.below.mono hs)
          clear hD hF b3 b2 b1 b hs
          rw [show Dk.growsE 10 a1 = 1 by rw [Dk.growsE, if_neg (by omega)]]
          rw [show Dk.grows 10 a1 = 10 by rw [Dk.grows, if_neg (by omega)]] at hD2
          go_wp2_with fail
          refine (Dk.room_any hD2).mono ?_
          rintro e w5 ⟨rfl, rfl⟩
          go_wp2
          go_ret
          exact ⟨rfl, b4⟩
        · skip
          obtain ⟨n, rfl⟩ : ∃ n : Nat, a1 = (n : Int) := ⟨a1.toNat, by omega⟩
          go_enter Try.func8, Try.ntmps8
          go_wp2_with fail
          refine (Dk.examples_any _).mono ?_
          rintro e w1 ⟨rfl, b1⟩
          go_wp2_with fail
          refine (Dk.new_no a0 (by omega) _).mono ?_
          rintro e w2 ⟨rfl, rfl⟩
          have b2 := b1
          go_wp2_with fail
          refine (Dk.new_yes 10 (by decide) (by decide) _).mono ?_
          rintro e w3 ⟨rfl, hD, b⟩
          have b3 := Dk.behind b2 b
          have hs := b2.size
          go_wp2_with fail
          refine (Dk.grow_any hD (n : Int)).mono ?_
          rintro e w4 ⟨rfl, hD2, hF⟩
          have b4 := b3.trans (hF.below.mono hs)
          clear hD hF b3 b2 b1 b hs
          rw [show Dk.growsE 10 (n : Int) = 0 by rw [Dk.growsE, if_pos (by omega)]]
          rw [show Dk.grows 10 (n : Int) = 10 + n by rw [Dk.grows, if_pos (by omega)]; rfl] at hD2
          go_wp2_with fail
          refine (Dk.room_any hD2).mono ?_
          rintro e w5 ⟨rfl, rfl⟩
          go_wp2
          go_ret
          exact ⟨rfl, b4⟩
    · skip
      rcases Int.lt_or_le a1 0 with m1 | m1
      · skip
        obtain ⟨k, rfl⟩ : ∃ k : Nat, a0 = (k : Int) := ⟨a0.toNat, by omega⟩
        go_enter Try.func8, Try.ntmps8
        go_wp2_with fail
        refine (Dk.examples_any _).mono ?_
        rintro e w1 ⟨rfl, b1⟩
        go_wp2_with fail
        refine (Dk.new_yes k (by omega) (by omega) _).mono ?_
        rintro e w2 ⟨rfl, -, b⟩
        have b2 := Dk.behind b1 b
        go_wp2_with fail
        refine (Dk.new_yes 10 (by decide) (by decide) _).mono ?_
        rintro e w3 ⟨rfl, hD, b⟩
        have b3 := Dk.behind b2 b
        have hs := b2.size
        go_wp2_with fail
        refine (Dk.grow_any hD a1).mono ?_
        rintro e w4 ⟨rfl, hD2, hF⟩
        have b4 := b3.trans (hF.below.mono hs)
        clear hD hF b3 b2 b1 b hs
        rw [show Dk.growsE 10 a1 = 1 by rw [Dk.growsE, if_neg (by omega)]]
        rw [show Dk.grows 10 a1 = 10 by rw [Dk.grows, if_neg (by omega)]] at hD2
        go_wp2_with fail
        refine (Dk.room_any hD2).mono ?_
        rintro e w5 ⟨rfl, rfl⟩
        go_wp2
        go_ret
        exact ⟨rfl, b4⟩
      · rcases Int.lt_or_le 16777206 a1 with m2 | m2
        · skip
          obtain ⟨k, rfl⟩ : ∃ k : Nat, a0 = (k : Int) := ⟨a0.toNat, by omega⟩
          go_enter Try.func8, Try.ntmps8
          go_wp2_with fail
          refine (Dk.examples_any _).mono ?_
          rintro e w1 ⟨rfl, b1⟩
          go_wp2_with fail
          refine (Dk.new_yes k (by omega) (by omega) _).mono ?_
          rintro e w2 ⟨rfl, -, b⟩
          have b2 := Dk.behind b1 b
          go_wp2_with fail
          refine (Dk.new_yes 10 (by decide) (by decide) _).mono ?_
          rintro e w3 ⟨rfl, hD, b⟩
          have b3 := Dk.behind b2 b
          have hs := b2.size
          go_wp2_with fail
          refine (Dk.grow_any hD a1).mono ?_
          rintro e w4 ⟨rfl, hD2, hF⟩
          have b4 := b3.trans (hF.below.mono hs)
          clear hD hF b3 b2 b1 b hs
          rw [show Dk.growsE 10 a1 = 1 by rw [Dk.growsE, if_neg (by omega)]]
          rw [show Dk.grows 10 a1 = 10 by rw [Dk.grows, if_neg (by omega)]] at hD2
          go_wp2_with fail
          refine (Dk.room_any hD2).mono ?_
          rintro e w5 ⟨rfl, rfl⟩
          go_wp2
          go_ret
          exact ⟨rfl, b4⟩
        · skip
          obtain ⟨k, rfl⟩ : ∃ k : Nat, a0 = (k : Int) := ⟨a0.toNat, by omega⟩
          obtain ⟨n, rfl⟩ : ∃ n : Nat, a1 = (n : Int) := ⟨a1.toNat, by omega⟩
          go_enter Try.func8, Try.ntmps8
          go_wp2_with fail
          refine (Dk.examples_any _).mono ?_
          rintro e w1 ⟨rfl, b1⟩
          go_wp2_with fail
          refine (Dk.new_yes k (by omega) (by omega) _).mono ?_
          rintro e w2 ⟨rfl, -, b⟩
          have b2 := Dk.behind b1 b
          go_wp2_with fail
          refine (Dk.new_yes 10 (by decide) (by decide) _).mono ?_
          rintro e w3 ⟨rfl, hD, b⟩
          have b3 := Dk.behind b2 b
          have hs := b2.size
          go_wp2_with fail
          refine (Dk.grow_any hD (n : Int)).mono ?_
          rintro e w4 ⟨rfl, hD2, hF⟩
          have b4 := b3.trans (hF.below.mono hs)
          clear hD hF b3 b2 b1 b hs
          rw [show Dk.growsE 10 (n : Int) = 0 by rw [Dk.growsE, if_pos (by omega)]]
          rw [show Dk.grows 10 (n : Int) = 10 + n by rw [Dk.grows, if_pos (by omega)]; rfl] at hD2
          go_wp2_with fail
          refine (Dk.room_any hD2).mono ?_
          rintro e w5 ⟨rfl, rfl⟩
          go_wp2
          go_ret
          exact ⟨rfl, b4⟩

set_option maxRecDepth 100000 in
theorem lifted (os : Os) (started : os.Started) (H : Type) (enc : TypeId × Value → H) :
    ReturnsInHanded {} Try.checked os 8 .any (Rows.diskWrongSpec.pre6 enc Try.prog Try.f8 Rows.diskWrongRow.domain false) (Rows.diskWrongSpec.post enc Try.prog Try.f8 false true false false) := by
  refine returnsInHanded_of_change_sized (C := Try.checked) own started (by kernel_rfl) Try.func8
    (ChangeSpec.witness6 (enc := enc) (C := Try.checked) false ⟨#[], #[.int .i64 0, .int .i64 0], []⟩ 8 (by kernel_rfl) (by kernel_rfl) (by kernel_rfl) (by kernel_rfl)) ?_
  intro W base args ds gs before hval0 hW hcnd hsz0 _
  have hval : ∀ (j : Nat) t v, Try.f8.params[j]? = some t → args[j]? = some v → Value.okWide Try.prog W .any base t v := hval0
  have hsz : (DataW.weightsEach Try.prog (Try.f8.params.toList ++ Rows.diskWrongSpec.plain.varTypes Try.prog) (ds ++ gs)).all (· ≤ reachBytes) = true := hsz0
  have hW' := hW
  obtain ⟨p, q, hA0, hV, rfl, hfz, hnd⟩ := hW
  have hA : DataW.TrodAll enc Try.prog W 0 (fun _ => true) true Try.f8.params.toList args.toList ds p := hA0
  rw [Try.params8] at hA hval hsz
  obtain ⟨v0, vs0, d0, ds0, p0, q0, hargs, rfl, rfl, h0, r0⟩ := trodAll_cons hA
  obtain ⟨v1, vs1, d1, ds1, p1, q1, rfl, rfl, rfl, h1, r1⟩ := trodAll_cons r0
  obtain ⟨rfl, rfl, rfl⟩ := trodAll_nil r1
  obtain rfl : args = #[v0, v1] := by cases args; simp_all
  obtain ⟨rfl, rfl⟩ := trodVars_none hV
  obtain ⟨a0, rfl, rfl, rfl, w0⟩ := open_int Try.underlying3 (hval 0 3 v0 rfl rfl) h0
  obtain ⟨a1, rfl, rfl, rfl, w1⟩ := open_int Try.underlying3 (hval 1 3 v1 rfl rfl) h1
  clear hA0 hval0
  refine (walk a0 a1 W w0 w1).mono fun e W' ⟨he, bel⟩ => ?_
  subst he
  exact ⟨_, rfl, _, _, _, [], _, [], hW', trodAll_mk1 (shut_bool Try.underlying4 _), (trodAll_cons_mk (shut_int Try.underlying3 w0) (trodAll_cons_mk (shut_int Try.underlying3 w1) trodAll_mk0)), rfl, bel.frame _, fun h => by cases h⟩

theorem over : Rows.diskWrongRow.holds Try.pinned (OpenSpec.ofChange Rows.diskWrongSpec) :=
  OpenClaim.holds_of_wide 8 Try.f8 rfl rfl rfl rfl rfl rfl rfl ⟨rfl, rfl, rfl, rfl, rfl⟩ rfl rfl rfl rfl rfl (by kernel_rfl) Try.func8 (by kernel_rfl)
    (of_decide_eq_true (by kernel_rfl)) (by unfold Func.isWrapper; first | (rw [if_pos (by decide +kernel)]; kernel_rfl) | (rw [if_neg (by decide +kernel)]; exact ⟨rfl, rfl⟩))
    (fun os started H enc _ => lifted os started H enc)

theorem proved : Rows.DiskWrongSaid := over
end Go.Proofs.Ytcoeodfcpnoboaa.diskWrong
