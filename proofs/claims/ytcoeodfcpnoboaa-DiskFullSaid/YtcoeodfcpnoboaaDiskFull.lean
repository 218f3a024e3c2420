/-
  Proved: for every room, size and number of a byte the law DiskFull returns true and leaves its inputs as they were. No condition.
-/
import Derived.Test.YtcoeodfcpnoboaaDiskZ
import Derived.WalkKit
import Derived.ProofKit
import Derived.OpenShut
import Derived.ShutString
import Derived.SizedLaws
import Derived.ChangeOld
import Derived.Below
import Derived.Carry
import Derived.Lib.SmallJoins
import Derived.Deep.SlicePairs
namespace Go.Proofs.Ytcoeodfcpnoboaa.diskFull
open Go.ChangeShapes Go.WideShapes Go.ChangeAt Go.RowKit Go.Joins Go.Deep
open Go.ChangeMaps (open_string shut_string)
set_option linter.unusedVariables false

theorem own : ownKnob Try.prog.godebug = none := by kernel_rfl
theorem laidOut : laidOutB Try.prog = true := by kernel_rfl

set_option maxRecDepth 100000 in
set_option maxHeartbeats 4000000 in
theorem walk (a0 : Int) (a1 : Int) (a2 : Int) (w : World) (w0 : (Lit.int .u8 a0).wf = true) (w1 : (Lit.int .u8 a1).wf = true) (w2 : (Lit.int .u8 a2).wf = true) :
    Calls Try.prog 5 #[.int .u8 a0, .int .u8 a1, .int .u8 a2] w fun e w' => e = .returned (.bool true) ∧ Below w.heap.size w w' := by
  have hb0 : 0 ≤ a0 ∧ a0 ≤ 255 := by simpa [Lit.wf, IntKind.min, IntKind.max, IntKind.signed, IntKind.bits] using w0
  have hb1 : 0 ≤ a1 ∧ a1 ≤ 255 := by simpa [Lit.wf, IntKind.min, IntKind.max, IntKind.signed, IntKind.bits] using w1
  have hb2 : 0 ≤ a2 ∧ a2 ≤ 255 := by simpa [Lit.wf, IntKind.min, IntKind.max, IntKind.signed, IntKind.bits] using w2
  obtain ⟨r, rfl⟩ : ∃ r : Nat, a0 = (r : Int) := ⟨a0.toNat, by omega⟩
  obtain ⟨n, rfl⟩ : ∃ n : Nat, a1 = (n : Int) := ⟨a1.toNat, by omega⟩
  obtain ⟨m, rfl⟩ : ∃ m : Nat, a2 = (m : Int) := ⟨a2.toNat, by omega⟩
  have hr : r ≤ 255 := by omega
  have hn : n ≤ 255 := by omega
  have hm : m ≤ 255 := by omega
  have hmk := Dk.make_zeros n (by omega)
  have hcv := Dk.conv_zeros n
  have hss := Dk.zeroText_size n
  generalize Dk.zeroText n = s at *
  subst hss
  have hmk' : ∀ W : World, (Instr.makeSlice 47 (.int .i64 (s.size : Int)) (.int .i64 (s.size : Int))).run Try.prog W = .ok (.slice (some ⟨W.heap.size, 0, none⟩) s.size s.size) (W.alloc (.cells (Dk.zeros s.size) 5)) := hmk
  generalize Dk.zeros s.size = Z at *
  have hge : Dk.growsE (1 + r) (m : Int) = 0 := by rw [Dk.growsE, if_pos (by omega)]
  have hgr : Dk.grows (1 + r) (m : Int) = 1 + r + m := by rw [Dk.grows, if_pos (by omega), Int.toNat_natCast]
  have HGE := Lib.hid hge
  have HGR := Lib.hid hgr
  have hc1 : (1 : Int) + (r : Int) = ((1 + r : Nat) : Int) := by omega
  have HC1 := Lib.hid hc1
  clear hge hgr hc1 hmk w0 w1 w2 hb0 hb1 hb2
  rcases Nat.lt_or_ge (1 + r) s.size with f1 | f1
  · have he := Dk.nonempty_of s (by omega)
    have f2 : decide ((s.size : Int) ≤ 1 + (r : Int)) = false := decide_eq_false (by omega)
    have f3 : ((0 : Int) == (s.size : Int)) = false := by rw [beq_eq_false_iff_ne]; omega
    rcases Nat.lt_or_ge (1 + r + m) s.size with g1 | g1
    · have g2 : decide ((s.size : Int) ≤ 1 + (r : Int) + (m : Int)) = false := decide_eq_false (by omega)
      go_enter Try.func5, Try.ntmps5
      go_wp2_with fail
      refine (Dk.examples_any _).mono ?_
      rintro e w1 ⟨rfl, b1⟩
      have hs := b1.size
      go_wp2_with fail
      rw [HC1.out]
      refine (Dk.new_yes (1 + r) (by omega) (by omega) _).mono ?_
      rintro e w2 ⟨rfl, hD0, b⟩
      have b2 := Dk.behind b1 b
      have hD1 := hD0.below ((Below.refl _ _).alloc (Nat.le_refl _) (.cells Z 5))
      have b3 : Below w.heap.size w (w2.alloc (.cells Z 5)) := b2.alloc b2.size _
      clear b b1 b2 hD0
      go_wp2_with fail
      refine (Dk.append_full hD1 s (by unfold maxLen; omega) (by simp; omega)).mono ?_
      rintro e w3 ⟨rfl, hD2, hF⟩
      have b4 := b3.trans (hF.below.mono hs)
      clear hF b3 hD1
      go_wp2_with fail
      refine (Dk.bytes_str hD2 ⟨#[]⟩ rfl).mono ?_
      rintro e w4 ⟨rfl, hD3, hb⟩
      have b5 := Dk.behind b4 hb
      clear b4 hb hD2
      go_wp2_with fail
      refine (Dk.grow_any hD3 (m : Int)).mono ?_
      rintro e w5 ⟨rfl, hD4, hF⟩
      have b6 := b5.trans (hF.below.mono hs)
      rw [HGR.out] at hD4
      rw [HGE.out]
      clear hF b5 hD3
      go_wp2_with fail
      refine (Dk.append_full hD4 s (by unfold maxLen; omega) (by simp; omega)).mono ?_
      rintro e w6 ⟨rfl, hD5, hF⟩
      have b7 := b6.trans (hF.below.mono hs)
      clear hF b6 hD4
      go_wp2_with fail
      refine (Dk.room_any hD5).mono ?_
      rintro e w7 ⟨rfl, rfl⟩
      go_wp2
      go_ret
      exact ⟨rfl, b7⟩
    · have g2 : decide ((s.size : Int) ≤ 1 + (r : Int) + (m : Int)) = true := decide_eq_true (by omega)
      go_enter Try.func5, Try.ntmps5
      go_wp2_with fail
      refine (Dk.examples_any _).mono ?_
      rintro e w1 ⟨rfl, b1⟩
      have hs := b1.size
      go_wp2_with fail
      rw [HC1.out]
      refine (Dk.new_yes (1 + r) (by omega) (by omega) _).mono ?_
      rintro e w2 ⟨rfl, hD0, b⟩
      have b2 := Dk.behind b1 b
      have hD1 := hD0.below ((Below.refl _ _).alloc (Nat.le_refl _) (.cells Z 5))
      have b3 : Below w.heap.size w (w2.alloc (.cells Z 5)) := b2.alloc b2.size _
      clear b b1 b2 hD0
      go_wp2_with fail
      refine (Dk.append_full hD1 s (by unfold maxLen; omega) (by simp; omega)).mono ?_
      rintro e w3 ⟨rfl, hD2, hF⟩
      have b4 := b3.trans (hF.below.mono hs)
      clear hF b3 hD1
      go_wp2_with fail
      refine (Dk.bytes_str hD2 ⟨#[]⟩ rfl).mono ?_
      rintro e w4 ⟨rfl, hD3, hb⟩
      have b5 := Dk.behind b4 hb
      clear b4 hb hD2
      go_wp2_with fail
      refine (Dk.grow_any hD3 (m : Int)).mono ?_
      rintro e w5 ⟨rfl, hD4, hF⟩
      have b6 := b5.trans (hF.below.mono hs)
      rw [HGR.out] at hD4
      rw [HGE.out]
      clear hF b5 hD3
      go_wp2_with fail
      refine (Dk.append_fits hD4 s (by simp; omega)).mono ?_
      rintro e w6 ⟨rfl, hD5, hF⟩
      have b7 := b6.trans (hF.below.mono hs)
      clear hF b6 hD4
      go_wp2_with fail
      refine (Dk.room_any hD5).mono ?_
      rintro e w7 ⟨rfl, rfl⟩
      go_wp2
      go_ret
      exact ⟨rfl, b7⟩
  · have f2 : decide ((s.size : Int) ≤ 1 + (r : Int)) = true := decide_eq_true (by omega)
    rcases Nat.lt_or_ge (1 + r + m) (s.size + s.size) with g1 | g1
    · have g2 : decide ((s.size : Int) + (s.size : Int) ≤ 1 + (r : Int) + (m : Int)) = false := decide_eq_false (by omega)
      go_enter Try.func5, Try.ntmps5
      go_wp2_with fail
      refine (Dk.examples_any _).mono ?_
      rintro e w1 ⟨rfl, b1⟩
      have hs := b1.size
      go_wp2_with fail
      rw [HC1.out]
      refine (Dk.new_yes (1 + r) (by omega) (by omega) _).mono ?_
      rintro e w2 ⟨rfl, hD0, b⟩
      have b2 := Dk.behind b1 b
      have hD1 := hD0.below ((Below.refl _ _).alloc (Nat.le_refl _) (.cells Z 5))
      have b3 : Below w.heap.size w (w2.alloc (.cells Z 5)) := b2.alloc b2.size _
      clear b b1 b2 hD0
      go_wp2_with fail
      refine (Dk.append_fits hD1 s (by simp; omega)).mono ?_
      rintro e w3 ⟨rfl, hD, hF⟩
      have b4 := b3.trans (hF.below.mono hs)
      have hD2 := hD.said (l' := s.data.toList) rfl rfl
      clear hD hF b3 hD1
      go_wp2_with fail
      refine (Dk.bytes_str hD2 s rfl).mono ?_
      rintro e w4 ⟨rfl, hD3, hb⟩
      have b5 := Dk.behind b4 hb
      clear b4 hb hD2
      go_wp2_with fail
      refine (Dk.grow_any hD3 (m : Int)).mono ?_
      rintro e w5 ⟨rfl, hD4, hF⟩
      have b6 := b5.trans (hF.below.mono hs)
      rw [HGR.out] at hD4
      rw [HGE.out]
      clear hF b5 hD3
      go_wp2_with fail
      refine (Dk.append_full hD4 s (by unfold maxLen; omega) (by rw [Dk.data_length]; omega)).mono ?_
      rintro e w6 ⟨rfl, hD5, hF⟩
      have b7 := b6.trans (hF.below.mono hs)
      clear hF b6 hD4
      go_wp2_with fail
      refine (Dk.room_any hD5).mono ?_
      rintro e w7 ⟨rfl, rfl⟩
      go_wp2
      go_ret
      exact ⟨rfl, b7⟩
    · have g2 : decide ((s.size : Int) + (s.size : Int) ≤ 1 + (r : Int) + (m : Int)) = true := decide_eq_true (by omega)
      go_enter Try.func5, Try.ntmps5
      go_wp2_with fail
      refine (Dk.examples_any _).mono ?_
      rintro e w1 ⟨rfl, b1⟩
      have hs := b1.size
      go_wp2_with fail
      rw [HC1.out]
      refine (Dk.new_yes (1 + r) (by omega) (by omega) _).mono ?_
      rintro e w2 ⟨rfl, hD0, b⟩
      have b2 := Dk.behind b1 b
      have hD1 := hD0.below ((Below.refl _ _).alloc (Nat.le_refl _) (.cells Z 5))
      have b3 : Below w.heap.size w (w2.alloc (.cells Z 5)) := b2.alloc b2.size _
      clear b b1 b2 hD0
      go_wp2_with fail
      refine (Dk.append_fits hD1 s (by simp; omega)).mono ?_
      rintro e w3 ⟨rfl, hD, hF⟩
      have b4 := b3.trans (hF.below.mono hs)
      have hD2 := hD.said (l' := s.data.toList) rfl rfl
      clear hD hF b3 hD1
      go_wp2_with fail
      refine (Dk.bytes_str hD2 s rfl).mono ?_
      rintro e w4 ⟨rfl, hD3, hb⟩
      have b5 := Dk.behind b4 hb
      clear b4 hb hD2
      go_wp2_with fail
      refine (Dk.grow_any hD3 (m : Int)).mono ?_
      rintro e w5 ⟨rfl, hD4, hF⟩
      have b6 := b5.trans (hF.below.mono hs)
      rw [HGR.out] at hD4
      rw [HGE.out]
      clear hF b5 hD3
      go_wp2_with fail
      refine (Dk.append_fits hD4 s (by rw [Dk.data_length]; omega)).mono ?_
      rintro e w6 ⟨rfl, hD5, hF⟩
      have b7 := b6.trans (hF.below.mono hs)
      clear hF b6 hD4
      go_wp2_with fail
      refine (Dk.room_any hD5).mono ?_
      rintro e w7 ⟨rfl, rfl⟩
      go_wp2
      go_ret
      exact ⟨rfl, b7⟩

set_option maxRecDepth 100000 in
theorem lifted (os : Os) (started : os.Started) (H : Type) (enc : TypeId × Value → H) :
    ReturnsInHanded {} Try.checked os 5 .any (Rows.diskFullSpec.pre6 enc Try.prog Try.f5 Rows.diskFullRow.domain false) (Rows.diskFullSpec.post enc Try.prog Try.f5 false true false false) := by
  refine returnsInHanded_of_change_sized (C := Try.checked) own started (by kernel_rfl) Try.func5
    (ChangeSpec.witness6 (enc := enc) (C := Try.checked) false ⟨#[], #[.int .u8 0, .int .u8 0, .int .u8 0], []⟩ 8 (by kernel_rfl) (by kernel_rfl) (by kernel_rfl) (by kernel_rfl)) ?_
  intro W base args ds gs before hval0 hW hcnd hsz0 _
  have hval : ∀ (j : Nat) t v, Try.f5.params[j]? = some t → args[j]? = some v → Value.okWide Try.prog W .any base t v := hval0
  have hsz : (DataW.weightsEach Try.prog (Try.f5.params.toList ++ Rows.diskFullSpec.plain.varTypes Try.prog) (ds ++ gs)).all (· ≤ reachBytes) = true := hsz0
  have hW' := hW
  obtain ⟨p, q, hA0, hV, rfl, hfz, hnd⟩ := hW
  have hA : DataW.TrodAll enc Try.prog W 0 (fun _ => true) true Try.f5.params.toList args.toList ds p := hA0
  rw [Try.params5] at hA hval hsz
  obtain ⟨v0, vs0, d0, ds0, p0, q0, hargs, rfl, rfl, h0, r0⟩ := trodAll_cons hA
  obtain ⟨v1, vs1, d1, ds1, p1, q1, rfl, rfl, rfl, h1, r1⟩ := trodAll_cons r0
  obtain ⟨v2, vs2, d2, ds2, p2, q2, rfl, rfl, rfl, h2, r2⟩ := trodAll_cons r1
  obtain ⟨rfl, rfl, rfl⟩ := trodAll_nil r2
  obtain rfl : args = #[v0, v1, v2] := by cases args; simp_all
  obtain ⟨rfl, rfl⟩ := trodVars_none hV
  obtain ⟨a0, rfl, rfl, rfl, w0⟩ := open_int Try.underlying5 (hval 0 5 v0 rfl rfl) h0
  obtain ⟨a1, rfl, rfl, rfl, w1⟩ := open_int Try.underlying5 (hval 1 5 v1 rfl rfl) h1
  obtain ⟨a2, rfl, rfl, rfl, w2⟩ := open_int Try.underlying5 (hval 2 5 v2 rfl rfl) h2
  clear hA0 hval0
  refine (walk a0 a1 a2 W w0 w1 w2).mono fun e W' ⟨he, bel⟩ => ?_
  subst he
  exact ⟨_, rfl, _, _, _, [], _, [], hW', trodAll_mk1 (shut_bool Try.underlying4 _), (trodAll_cons_mk (shut_int Try.underlying5 w0) (trodAll_cons_mk (shut_int Try.underlying5 w1) (trodAll_cons_mk (shut_int Try.underlying5 w2) trodAll_mk0))), rfl, bel.frame _, fun h => by cases h⟩

theorem over : Rows.diskFullRow.holds Try.pinned (OpenSpec.ofChange Rows.diskFullSpec) :=
  OpenClaim.holds_of_wide 5 Try.f5 rfl rfl rfl rfl rfl rfl rfl ⟨rfl, rfl, rfl, rfl, rfl⟩ rfl rfl rfl rfl rfl (by kernel_rfl) Try.func5 (by kernel_rfl)
    (of_decide_eq_true (by kernel_rfl)) (by unfold Func.isWrapper; first | (rw [if_pos (by decide +kernel)]; kernel_rfl) | (rw [if_neg (by decide +kernel)]; exact ⟨rfl, rfl⟩))
    (fun os started H enc _ => lifted os started H enc)

theorem proved : Rows.DiskFullSaid := over
end Go.Proofs.Ytcoeodfcpnoboaa.diskFull
