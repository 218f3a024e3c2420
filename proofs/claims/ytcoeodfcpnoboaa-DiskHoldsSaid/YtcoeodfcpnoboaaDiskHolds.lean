/-
  Proved: for every three texts and every byte the law DiskHolds returns true and leaves its inputs as they were. No condition beyond the form's own reach (each text at most 2^47 - 4096 bytes).
-/
import Derived.Test.YtcoeodfcpnoboaaDiskX
import Derived.WalkKit
import Derived.ProofKit
import Derived.OpenShut
import Derived.ShutString
import Derived.SizedLaws
import Derived.ChangeOld
import Derived.Below
import Derived.Carry
import Derived.Lib.SmallJoins
import Derived.Deep.SlicePairs
namespace Go.Proofs.Ytcoeodfcpnoboaa.diskHolds
open Go.ChangeShapes Go.WideShapes Go.ChangeAt Go.RowKit Go.Joins Go.Deep
open Go.ChangeMaps (open_string shut_string)
set_option linter.unusedVariables false

theorem own : ownKnob Try.prog.godebug = none := by kernel_rfl
theorem laidOut : laidOutB Try.prog = true := by kernel_rfl

set_option maxRecDepth 100000 in
set_option maxHeartbeats 4000000 in
theorem walk (a0 : ByteArray) (a1 : ByteArray) (a2 : ByteArray) (a3 : Int) (w : World) (z0 : a0.size ≤ 140737488351232) (z1 : a1.size ≤ 140737488351232) (z2 : a2.size ≤ 140737488351232) (w3 : (Lit.int .u8 a3).wf = true) :
    Calls Try.prog 6 #[.string a0, .string a1, .string a2, .int .u8 a3] w fun e w' => e = .returned (.bool true) ∧ Below w.heap.size w w' := by
  obtain ⟨m0, hmin0, u0, v0, k0, e0⟩ := Dk.cut_min a0 200 200 rfl
  obtain ⟨x, hx⟩ : ∃ x, a0.extract 0 m0 = x := ⟨_, rfl⟩
  rw [hx] at e0
  have l0 : x.size ≤ 200 := by omega
  clear e0
  obtain ⟨m1, hmin1, u1, v1, k1, e1⟩ := Dk.cut_min a1 200 200 rfl
  obtain ⟨y, hy⟩ : ∃ y, a1.extract 0 m1 = y := ⟨_, rfl⟩
  rw [hy] at e1
  have l1 : y.size ≤ 200 := by omega
  clear e1
  obtain ⟨m2, hmin2, u2, v2, k2, e2⟩ := Dk.cut_min a2 200 200 rfl
  obtain ⟨z, hz⟩ : ∃ z, a2.extract 0 m2 = z := ⟨_, rfl⟩
  rw [hz] at e2
  have l2 : z.size ≤ 200 := by omega
  clear e2
  obtain ⟨kp, rfl⟩ : ∃ kp : Nat, a3 = (kp : Int) := ⟨a3.toNat, by simp [Lit.wf, IntKind.min, IntKind.max, IntKind.bits, IntKind.signed] at w3; omega⟩
  have hkp : kp ≤ 255 := by simp [Lit.wf, IntKind.min, IntKind.max, IntKind.bits, IntKind.signed] at w3; omega
  obtain ⟨q, hq⟩ : ∃ q, min kp y.size = q := ⟨_, rfl⟩
  have hminq : ∀ W, (Builtin.min_ #[3, 3] 3 #[.int .i64 (kp : Int), .int .i64 (y.size : Int)]).run Try.prog W = .ok (.int .i64 (q : Int)) W := by
    intro W
    rw [run_min_int2]
    have : (if (y.size : Int) < (kp : Int) then (y.size : Int) else (kp : Int)) = (q : Int) := by split <;> omega
    rw [this]
  have q0 : (0 : Int) ≤ (q : Int) := by omega
  have q1 : (q : Int) ≤ (y.size : Int) := by omega
  obtain ⟨u, hu⟩ : ∃ u, y.extract 0 q = u := ⟨_, rfl⟩
  have hus : u.size = q := by rw [← hu, ByteArray.size_extract]; omega
  have hul : u.data.toList = y.data.toList.take q := by rw [← hu, Lib.extract_data]; simp
  obtain ⟨s1, h1⟩ : ∃ s1, x ++ y = s1 := ⟨_, rfl⟩
  obtain ⟨s2, h2⟩ : ∃ s2, x ++ u = s2 := ⟨_, rfl⟩
  obtain ⟨s3, h3⟩ : ∃ s3, s2 ++ z = s3 := ⟨_, rfl⟩
  have c1 : x.size + y.size ≤ 9223372036854775807 := by omega
  have c2 : x.size + u.size ≤ 9223372036854775807 := by omega
  have s2l : s2.size = x.size + u.size := by rw [← h2, ByteArray.size_append]
  have c3 : s2.size + z.size ≤ 9223372036854775807 := by omega
  have t1 : s1.data.toList = x.data.toList ++ y.data.toList := by rw [← h1, Dk.data_append]
  have t2 : s2.data.toList = x.data.toList ++ u.data.toList := by rw [← h2, Dk.data_append]
  have t3 : s3.data.toList = s2.data.toList ++ z.data.toList := by rw [← h3, Dk.data_append]
  have hcut : s1.data.toList.take (Dk.leaves s1.data.toList.length x.size (kp : Int)) = s2.data.toList ∧ Dk.leaves s1.data.toList.length x.size (kp : Int) = s2.size := by
    have e1 : Dk.leaves s1.data.toList.length x.size (kp : Int) = x.data.toList.length + q := by
      rw [Dk.leaves, t1, List.length_append, Dk.data_length, Dk.data_length, Nat.add_sub_cancel_left, Int.toNat_natCast, hq]
    refine ⟨?_, by rw [e1, s2l, Dk.data_length, hus]⟩
    rw [e1, t1, t2, hul, List.take_append, List.take_of_length_le (by omega), Nat.add_sub_cancel_left]
  have lus : u.size ≤ 200 := by omega
  have H1 := Lib.hid t1
  have H2 := Lib.hid t2
  have H3 := Lib.hid t3
  have HC := Lib.hid hcut
  have HS := Lib.hid s2l
  have s2b : s2.size ≤ 400 := by omega
  clear hq hus hul s2l t1 t2 t3 hcut
  go_enter Try.func6, Try.ntmps6
  go_wp2_with fail
  refine (Dk.examples_any _).mono ?_
  rintro e w1 ⟨rfl, b1⟩
  have hs := b1.size
  go_wp2_with fail
  refine (Dk.new_yes 1048576 (by decide) (by decide) _).mono ?_
  rintro e w2 ⟨rfl, hD, b⟩
  have b2 := Dk.behind b1 b
  clear b b1
  go_wp2_with fail
  refine (Dk.append_fits hD x (by simp; omega)).mono ?_
  rintro e w3 ⟨rfl, hD2, hF⟩
  have b3 := b2.trans (hF.below.mono hs)
  have hD3 := hD2.said (l' := x.data.toList) (sy' := 0) rfl rfl
  clear hD hF b2 hD2
  go_wp2_with fail
  refine (Dk.sync_any hD3).mono ?_
  rintro e w4 ⟨rfl, hD4, hF⟩
  have b4 := b3.trans (hF.below.mono hs)
  have hD5 := hD4.said (sy' := x.size) rfl (by rw [Dk.syncs, if_neg (by decide), Dk.data_length])
  clear hD4 hF b3 hD3
  go_wp2_with fail
  refine (Dk.hold_any hD5).mono ?_
  rintro e w5 ⟨rfl, hD6, hF⟩
  have b5 := b4.trans (hF.below.mono hs)
  clear hD5 hF b4
  go_wp2_with fail
  refine (Dk.append_fits hD6 y (by rw [Dk.data_length]; omega)).mono ?_
  rintro e w6 ⟨rfl, hD7, hF⟩
  have b6 := b5.trans (hF.below.mono hs)
  have hD8 := hD7.said (l' := s1.data.toList) (sy' := x.size) H1.out.symm rfl
  clear hD6 hF b5 hD7
  go_wp2_with fail
  refine (Dk.sync_any hD8).mono ?_
  rintro e w7 ⟨rfl, hD9, hF⟩
  have b7 := b6.trans (hF.below.mono hs)
  have hD10 := hD9.said (sy' := x.size) rfl rfl
  clear hD8 hF b6 hD9
  go_wp2_with fail
  refine (Dk.synced_any hD10).mono ?_
  rintro e w8 ⟨rfl, rfl⟩
  go_wp2_with fail
  refine (Dk.bytes_str hD10 s1 rfl).mono ?_
  rintro e w8 ⟨rfl, hD11, hb⟩
  have b8 := Dk.behind b7 hb
  clear b7 hb hD10
  go_wp2_with fail
  refine (Dk.crash_any hD11 (kp : Int)).mono ?_
  rintro e w9 ⟨rfl, hD12, hF⟩
  have b9 := b8.trans (hF.below.mono hs)
  have hD13 := hD12.said (l' := s2.data.toList) (sy' := s2.size) HC.out.1 HC.out.2
  clear hD11 hF b8 hD12
  go_wp2_with fail
  refine (Dk.bytes_str hD13 s2 rfl).mono ?_
  rintro e w10 ⟨rfl, hD14, hb⟩
  have b10 := Dk.behind b9 hb
  clear b9 hb hD13
  go_wp2_with fail
  refine (Dk.append_fits hD14 z (by rw [Dk.data_length]; omega)).mono ?_
  rintro e w11 ⟨rfl, hD15, hF⟩
  have b11 := b10.trans (hF.below.mono hs)
  have hD16 := hD15.said (l' := s3.data.toList) (sy' := s2.size) H3.out.symm rfl
  clear hD14 hF b10 hD15
  go_wp2_with fail
  refine (Dk.sync_any hD16).mono ?_
  rintro e w12 ⟨rfl, hD17, hF⟩
  have b12 := b11.trans (hF.below.mono hs)
  have hD18 := hD17.said (sy' := s2.size + z.size) rfl (by rw [Dk.syncs, if_neg (by decide), H3.out, List.length_append, Dk.data_length, Dk.data_length])
  clear hD16 hF b11 hD17
  go_wp2_with fail
  refine (Dk.synced_any hD18).mono ?_
  rintro e w13 ⟨rfl, rfl⟩
  go_wp2_with fail
  refine (Dk.bytes_str hD18 s3 rfl).mono ?_
  rintro e w14 ⟨rfl, hD19, hb⟩
  have b13 := Dk.behind b12 hb
  go_wp2
  go_ret
  exact ⟨rfl, b13⟩

set_option maxRecDepth 100000 in
theorem lifted (os : Os) (started : os.Started) (H : Type) (enc : TypeId × Value → H) :
    ReturnsInHanded {} Try.checked os 6 .any (Rows.diskHoldsSpec.pre6 enc Try.prog Try.f6 Rows.diskHoldsRow.domain false) (Rows.diskHoldsSpec.post enc Try.prog Try.f6 false true false false) := by
  refine returnsInHanded_of_change_sized (C := Try.checked) own started (by kernel_rfl) Try.func6
    (ChangeSpec.witness6 (enc := enc) (C := Try.checked) false ⟨#[], #[.string ByteArray.empty, .string ByteArray.empty, .string ByteArray.empty, .int .u8 0], []⟩ 8 (by kernel_rfl) (by kernel_rfl) (by kernel_rfl) (by kernel_rfl)) ?_
  intro W base args ds gs before hval0 hW hcnd hsz0 _
  have hval : ∀ (j : Nat) t v, Try.f6.params[j]? = some t → args[j]? = some v → Value.okWide Try.prog W .any base t v := hval0
  have hsz : (DataW.weightsEach Try.prog (Try.f6.params.toList ++ Rows.diskHoldsSpec.plain.varTypes Try.prog) (ds ++ gs)).all (· ≤ reachBytes) = true := hsz0
  have hW' := hW
  obtain ⟨p, q, hA0, hV, rfl, hfz, hnd⟩ := hW
  have hA : DataW.TrodAll enc Try.prog W 0 (fun _ => true) true Try.f6.params.toList args.toList ds p := hA0
  rw [Try.params6] at hA hval hsz
  obtain ⟨v0, vs0, d0, ds0, p0, q0, hargs, rfl, rfl, h0, r0⟩ := trodAll_cons hA
  obtain ⟨v1, vs1, d1, ds1, p1, q1, rfl, rfl, rfl, h1, r1⟩ := trodAll_cons r0
  obtain ⟨v2, vs2, d2, ds2, p2, q2, rfl, rfl, rfl, h2, r2⟩ := trodAll_cons r1
  obtain ⟨v3, vs3, d3, ds3, p3, q3, rfl, rfl, rfl, h3, r3⟩ := trodAll_cons r2
  obtain ⟨rfl, rfl, rfl⟩ := trodAll_nil r3
  obtain rfl : args = #[v0, v1, v2, v3] := by cases args; simp_all
  obtain ⟨rfl, rfl⟩ := trodVars_none hV
  obtain ⟨a0, rfl, rfl, rfl, w0⟩ := open_string Try.underlying9 (hval 0 9 v0 rfl rfl) h0
  obtain ⟨a1, rfl, rfl, rfl, w1⟩ := open_string Try.underlying9 (hval 1 9 v1 rfl rfl) h1
  obtain ⟨a2, rfl, rfl, rfl, w2⟩ := open_string Try.underlying9 (hval 2 9 v2 rfl rfl) h2
  obtain ⟨a3, rfl, rfl, rfl, w3⟩ := open_int Try.underlying5 (hval 3 5 v3 rfl rfl) h3
  clear hA0 hval0
  have z0 : a0.size ≤ 140737488351232 := by
    have := sized_string hsz (j := 0) (t := 9) rfl rfl
    simp only [Array.length_toList, reachBytes] at this
    exact this
  have z1 : a1.size ≤ 140737488351232 := by
    have := sized_string hsz (j := 1) (t := 9) rfl rfl
    simp only [Array.length_toList, reachBytes] at this
    exact this
  have z2 : a2.size ≤ 140737488351232 := by
    have := sized_string hsz (j := 2) (t := 9) rfl rfl
    simp only [Array.length_toList, reachBytes] at this
    exact this
  refine (walk a0 a1 a2 a3 W z0 z1 z2 w3).mono fun e W' ⟨he, bel⟩ => ?_
  subst he
  exact ⟨_, rfl, _, _, _, [], _, [], hW', trodAll_mk1 (shut_bool Try.underlying4 _), (trodAll_cons_mk (shut_string Try.underlying9 w0) (trodAll_cons_mk (shut_string Try.underlying9 w1) (trodAll_cons_mk (shut_string Try.underlying9 w2) (trodAll_cons_mk (shut_int Try.underlying5 w3) trodAll_mk0)))), rfl, bel.frame _, fun h => by cases h⟩

theorem over : Rows.diskHoldsRow.holds Try.pinned (OpenSpec.ofChange Rows.diskHoldsSpec) :=
  OpenClaim.holds_of_wide 6 Try.f6 rfl rfl rfl rfl rfl rfl rfl ⟨rfl, rfl, rfl, rfl, rfl⟩ rfl rfl rfl rfl rfl (by kernel_rfl) Try.func6 (by kernel_rfl)
    (of_decide_eq_true (by kernel_rfl)) (by unfold Func.isWrapper; first | (rw [if_pos (by decide +kernel)]; kernel_rfl) | (rw [if_neg (by decide +kernel)]; exact ⟨rfl, rfl⟩))
    (fun os started H enc _ => lifted os started H enc)

theorem proved : Rows.DiskHoldsSaid := over
end Go.Proofs.Ytcoeodfcpnoboaa.diskHolds
