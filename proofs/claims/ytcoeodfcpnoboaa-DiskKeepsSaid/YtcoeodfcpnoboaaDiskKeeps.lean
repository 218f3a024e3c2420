/-
  Proved: for every list of texts, every number of 32 bits and every keep the law DiskKeeps returns true and leaves its inputs as they were. No condition beyond the form's own reach (each text and slice at most 2^47 - 4096 bytes).
-/
import Derived.Test.YtcoeodfcpnoboaaDiskT
import Derived.WalkKit
import Derived.RegionTactic
import Derived.Deep.RegionHeld3
import Derived.Laws.Small
import Derived.Lib.Strings
import Derived.ProofKit
import Derived.OpenShut
import Derived.ShutString
import Derived.SizedLaws
import Derived.ChangeOld
import Derived.Below
import Derived.Carry
import Derived.Lib.SmallJoins
import Derived.Deep.SlicePairs
import Derived.SliceStrings
namespace Go.Proofs.Ytcoeodfcpnoboaa.diskKeeps
open Go.ChangeShapes Go.WideShapes Go.ChangeAt Go.RowKit Go.Joins Go.Deep
open Go.ChangeMaps (open_string shut_string)
set_option linter.unusedVariables false

theorem own : ownKnob Try.prog.godebug = none := by kernel_rfl
theorem laidOut : laidOutB Try.prog = true := by kernel_rfl

set_option maxRecDepth 100000 in
set_option maxHeartbeats 4000000 in
theorem walk (a0 : Option Addr) (len0 cap0 : Nat) (a1 : Int) (a2 : Int) (w : World) (w0 : ∀ i, i < len0 → ∃ (x : Addr) (e0 : ByteArray), a0 = some x ∧ x.block < w.heap.size ∧ w.cell? (x.add i) = some (.string e0) ∧ e0.size ≤ maxLen) (l0 : len0 ≤ cap0) (m0 : cap0 ≤ maxLen) (w1 : (Lit.int .u32 a1).wf = true) (w2 : (Lit.int .i64 a2).wf = true) :
    Calls Try.prog 4 #[.slice a0 len0 cap0, .int .u32 a1, .int .i64 a2] w fun e w' => e = .returned (.bool true) ∧ Below w.heap.size w w' := by
  have hb1 : 0 ≤ a1 ∧ a1 ≤ 4294967295 := by simpa [Lit.wf, IntKind.min, IntKind.max, IntKind.signed, IntKind.bits] using w1
  have hb2 : -9223372036854775808 ≤ a2 ∧ a2 ≤ 9223372036854775807 := by simpa [Lit.wf, IntKind.min, IntKind.max, IntKind.signed, IntKind.bits] using w2
  obtain ⟨n1, rfl⟩ := Int.eq_ofNat_of_zero_le hb1.1
  have hn1 : n1 < 4294967296 := by omega
  unfold maxLen at m0
  have hlen : len0 ≤ 9223372036854775807 := by omega
  have W0 := Lib.hid w0
  clear w0 w1 w2 hb1
  go_enter Try.func4, Try.ntmps4
  go_wp2_with fail
  refine (Dk.examples_any _).mono ?_
  rintro e x1 ⟨rfl, b1⟩
  have hs := b1.size
  go_wp2_with fail
  refine (Dk.new_yes 1048576 (by decide) (by decide) _).mono ?_
  rintro e x2 ⟨rfl, hD, b⟩
  have b2 := Dk.behind b1 b
  obtain ⟨g, hg⟩ : ∃ g, x1.heap.size = g := ⟨_, rfl⟩
  rw [hg] at hD
  rw [hg] at hs
  rw [hg]
  clear b b1 hg
  go_wp2_with fail
  go_loopw [10, 11, 12] (fun sy al i W => ∃ (k : Nat) (S A : ByteArray), k ≤ len0 ∧ k ≤ 20 ∧ i = .int .i64 k ∧ sy = .string S ∧ al = .string A ∧ A.size ≤ 100 * k ∧ S.size ≤ A.size ∧ Dk.DiskAt g g A.data.toList S.size 1048576 false W ∧ Below w.heap.size w W) (fun _ _ i _ => len0 - (intOf i).toNat)
  case atStart => exact ⟨0, ⟨#[]⟩, ⟨#[]⟩, Nat.zero_le _, Nat.zero_le _, rfl, rfl, rfl, Nat.le_refl _, Nat.le_refl _, hD, b2⟩
  case round =>
    obtain ⟨k, S, A, hk, hk20, rfl, rfl, rfl, hA, hSA, hD, b2⟩ := hrel
    by_cases hlt : k < len0 ∧ k < 20
    · obtain ⟨hlt, h20⟩ := hlt
      obtain ⟨x, s0, rfl, hxb, hc0, hs0⟩ := W0.out k hlt
      have hc0' := (b2.cell (p := x.add k) (by rw [Dk.block_add]; exact hxb)).trans hc0
      have hkk : (0 : Int) ≤ (k : Int) := by omega
      have hkl : (k : Int) < (len0 : Int) := by omega
      have hk20' : (k : Int) < 20 := by omega
      unfold maxLen at hs0
      obtain ⟨m, hmin, u0, v0, k0, e0⟩ := Dk.cut_min s0 100 100 rfl
      obtain ⟨X, hX⟩ : ∃ X, s0.extract 0 m = X := ⟨_, rfl⟩
      rw [hX] at e0
      have lX : X.size ≤ 100 := by omega
      have hAX : A.size + X.size ≤ 9223372036854775807 := by omega
      obtain ⟨A2, hA2⟩ : ∃ A2, A ++ X = A2 := ⟨_, rfl⟩
      have hA2s : A2.size = A.size + X.size := by rw [← hA2, ByteArray.size_append]
      have hA2d : A2.data.toList = A.data.toList ++ X.data.toList := by rw [← hA2, Dk.data_append]
      have HS := Lib.hid hA2s
      have HDt := Lib.hid hA2d
      clear e0 hc0 hA2s hA2d
      go_wp2_with fail
      go_region
      have hD' := hD.drew
      have b3 := b2.drew
      go_wp2_with fail
      refine (Dk.append_fits hD' X (by rw [Dk.data_length]; omega)).mono ?_
      rintro e x3 ⟨rfl, hD3, hF⟩
      have b4 := b3.trans (hF.below.mono hs)
      go_wp2_with fail
      · refine (Dk.sync_any hD3).mono ?_
        rintro e x4 ⟨rfl, hD4, hF4⟩
        have b5 := b4.trans (hF4.below.mono hs)
        have hD5 := hD4.said (l' := A2.data.toList) (sy' := A2.size) HDt.out.symm (by rw [Dk.syncs, if_neg (by decide), List.length_append, Dk.data_length, Dk.data_length]; exact HS.out.symm)
        clear hD4 hD3 hF4 hF b4 b3 b2 hD hD'
        go_wp2
        refine ⟨⟨k + 1, A2, A2, by omega, by omega, by go_num, rfl, rfl, by have := HS.out; omega, Nat.le_refl _, hD5, b5⟩, by simp [intOf]; omega⟩
      · have hD5 := hD3.said (l' := A2.data.toList) (sy' := S.size) HDt.out.symm rfl
        refine ⟨⟨k + 1, S, A2, by omega, by omega, by go_num, rfl, rfl, by have := HS.out; omega, by have := HS.out; omega, hD5, b4⟩, by simp [intOf]; omega⟩
    · obtain ⟨lv, hlv⟩ : ∃ lv, Dk.leaves A.data.toList.length S.size a2 = lv := ⟨_, rfl⟩
      have hlv2 : lv = S.size + min a2.toNat (A.size - S.size) := by rw [← hlv, Dk.leaves, Dk.data_length]
      obtain ⟨p, hp⟩ : ∃ p : Int, (if ((A.size : Int) - (S.size : Int)) < a2 then ((A.size : Int) - (S.size : Int)) else a2) = p := ⟨_, rfl⟩
      obtain ⟨q, hq⟩ : ∃ q : Nat, p.toNat = q := ⟨_, rfl⟩
      have hmn : ∀ W, (Builtin.min_ #[3, 3] 3 #[.int .i64 a2, .int .i64 ((A.size : Int) - (S.size : Int))]).run Try.prog W = .ok (.int .i64 p) W := by
        intro W; rw [run_min_int2, hp]
      have hmx : ∀ W, (Builtin.max_ #[3, 3] 3 #[.int .i64 p, .int .i64 0]).run Try.prog W = .ok (.int .i64 (q : Int)) W := by
        intro W
        rw [run_max_int2]
        have : (if (0 : Int) > p then 0 else p) = (q : Int) := by split <;> omega
        rw [this]
      have hlq : lv = S.size + q := by
        rw [hlv2, ← hq, ← hp]
        split <;> omega
      have hlA : lv ≤ A.size := by omega
      obtain ⟨u, hu⟩ : ∃ u, A.extract 0 lv = u := ⟨_, rfl⟩
      have hus : u.size = lv := by rw [← hu, ByteArray.size_extract]; omega
      have hul : u.data.toList = A.data.toList.take lv := by rw [← hu, Lib.extract_data]; simp
      have hAu : A.extract 0 u.size = u := by rw [hus, hu]
      have f1 : S.size ≤ u.size := by omega
      have f2 : u.size ≤ A.size := by omega
      have f3 : ((u.size : Int) == (S.size : Int) + (q : Int)) = true := by rw [beq_iff_eq]; omega
      have f4 : A.size ≤ 2000 := by omega
      have f5 : q ≤ 2000 := by omega
      have HL := Lib.hid hul
      have HV := Lib.hid hlv
      have HU := Lib.hid hus
      clear hlv hlv2 hp hq hlq hu hus hul hA hSA
      have hz : k < len0 ∧ ¬ k < 20 ∨ ¬ k < len0 := by omega
      clear hlt hk hk20
      rcases hz with ⟨hz1, hz2⟩ | hz1
      all_goals
        go_wp2_with fail
        refine (Dk.bytes_str hD A rfl).mono ?_
        rintro e x3 ⟨rfl, hD3, hb⟩
        have b3 := Dk.behind b2 hb
        clear hb
        go_wp2_with fail
        refine (Dk.synced_any hD3).mono ?_
        rintro e x4 ⟨rfl, rfl⟩
        go_wp2_with fail
        refine (Dk.crash_any hD3 a2).mono ?_
        rintro e x5 ⟨rfl, hD4, hF⟩
        have b4 := b3.trans (hF.below.mono hs)
        have hD5 := hD4.said (l' := u.data.toList) (sy' := u.size) (by rw [HV.out, HL.out]) (by rw [HV.out, HU.out])
        clear hD4 hD3 hF b3 b2
        go_wp2_with fail
        refine (Dk.bytes_str hD5 u rfl).mono ?_
        rintro e x6 ⟨rfl, hD6, hb⟩
        have b5 := Dk.behind b4 hb
        clear hb hD5
        go_wp2_with fail
        refine (Dk.synced_any hD6).mono ?_
        rintro e x7 ⟨rfl, rfl⟩
        go_wp2
        go_ret
        exact ⟨rfl, b5⟩

set_option maxRecDepth 100000 in
theorem lifted (os : Os) (started : os.Started) (H : Type) (enc : TypeId × Value → H) :
    ReturnsInHanded {} Try.checked os 4 .any (Rows.diskKeepsSpec.pre6 enc Try.prog Try.f4 Rows.diskKeepsRow.domain false) (Rows.diskKeepsSpec.post enc Try.prog Try.f4 false true false false) := by
  refine returnsInHanded_of_change_sized (C := Try.checked) own started (by kernel_rfl) Try.func4
    (ChangeSpec.witness6 (enc := enc) (C := Try.checked) false ⟨#[], #[.slice none 0 0, .int .u32 0, .int .i64 0], []⟩ 8 (by kernel_rfl) (by kernel_rfl) (by kernel_rfl) (by kernel_rfl)) ?_
  intro W base args ds gs before hval0 hW hcnd hsz0 _
  have hval : ∀ (j : Nat) t v, Try.f4.params[j]? = some t → args[j]? = some v → Value.okWide Try.prog W .any base t v := hval0
  have hsz : (DataW.weightsEach Try.prog (Try.f4.params.toList ++ Rows.diskKeepsSpec.plain.varTypes Try.prog) (ds ++ gs)).all (· ≤ reachBytes) = true := hsz0
  have hW' := hW
  obtain ⟨p, q, hA0, hV, rfl, hfz, hnd⟩ := hW
  have hA : DataW.TrodAll enc Try.prog W 0 (fun _ => true) true Try.f4.params.toList args.toList ds p := hA0
  rw [Try.params4] at hA hval hsz
  obtain ⟨v0, vs0, d0, ds0, p0, q0, hargs, rfl, rfl, h0, r0⟩ := trodAll_cons hA
  obtain ⟨v1, vs1, d1, ds1, p1, q1, rfl, rfl, rfl, h1, r1⟩ := trodAll_cons r0
  obtain ⟨v2, vs2, d2, ds2, p2, q2, rfl, rfl, rfl, h2, r2⟩ := trodAll_cons r1
  obtain ⟨rfl, rfl, rfl⟩ := trodAll_nil r2
  obtain rfl : args = #[v0, v1, v2] := by cases args; simp_all
  obtain ⟨rfl, rfl⟩ := trodVars_none hV
  have k0 := h0
  have lt0 : ∀ x ∈ p0, x.block < W.heap.size := by obtain ⟨m, hm⟩ := k0; exact DataW.trod_lt m _ _ _ hm
  obtain ⟨a0, len0, cap0, rfl⟩ := okWide_slice Try.underlying44 (hval 0 44 v0 rfl rfl)
  obtain ⟨a1, rfl, rfl, rfl, w1⟩ := open_int Try.underlying45 (hval 1 45 v1 rfl rfl) h1
  obtain ⟨a2, rfl, rfl, rfl, w2⟩ := open_int Try.underlying3 (hval 2 3 v2 rfl rfl) h2
  clear hA0 hval0
  have b0 : (∀ i, i < len0 → ∃ (x : Addr) (e0 : ByteArray), a0 = some x ∧ x.block < W.heap.size ∧ W.cell? (x.add i) = some (.string e0) ∧ e0.size ≤ maxLen) ∧ len0 ≤ cap0 ∧ cap0 ≤ maxLen := by
    obtain ⟨fuel, hf⟩ := h0
    rcases open_strings Try.underlying44 Try.underlying9 (by kernel_rfl) hf with ⟨hcs, _⟩ | ⟨x, l, c, ss, hcs, _, hl, hm, hsl, _, hel, hmax⟩
    · simp [Value.cells] at hcs
      obtain ⟨rfl, rfl, rfl⟩ := hcs
      exact ⟨fun i hi => absurd hi (by omega), Nat.le_refl _, Nat.zero_le _⟩
    · simp [Value.cells] at hcs
      obtain ⟨rfl, rfl, rfl⟩ := hcs
      refine ⟨fun i hi => ?_, hl, hm⟩
      have hi' : i < ss.length := by rw [hsl]; split <;> omega
      have c0 := hel i hi'
      have hb := World.block_lt_of_cell? _ _ c0
      rw [Dk.block_add] at hb
      exact ⟨x, _, rfl, hb, c0, hmax _ (by rw [List.getD_eq_getElem?_getD, List.getElem?_eq_getElem hi']; exact List.getElem_mem hi')⟩
  obtain ⟨w0, l0, m0⟩ := b0
  refine (walk a0 len0 cap0 a1 a2 W w0 l0 m0 w1 w2).mono fun e W' ⟨he, bel⟩ => ?_
  subst he
  exact ⟨_, rfl, _, _, _, [], _, [], hW', trodAll_mk1 (shut_bool Try.underlying4 _), (trodAll_cons_mk (Below.trod laidOut (by kernel_rfl) (of_decide_eq_true (by kernel_rfl)) k0 bel lt0) (trodAll_cons_mk (shut_int Try.underlying45 w1) (trodAll_cons_mk (shut_int Try.underlying3 w2) trodAll_mk0))), rfl, bel.frame _, fun h => by cases h⟩

theorem over : Rows.diskKeepsRow.holds Try.pinned (OpenSpec.ofChange Rows.diskKeepsSpec) :=
  OpenClaim.holds_of_wide 4 Try.f4 rfl rfl rfl rfl rfl rfl rfl ⟨rfl, rfl, rfl, rfl, rfl⟩ rfl rfl rfl rfl rfl (by kernel_rfl) Try.func4 (by kernel_rfl)
    (of_decide_eq_true (by kernel_rfl)) (by unfold Func.isWrapper; first | (rw [if_pos (by decide +kernel)]; kernel_rfl) | (rw [if_neg (by decide +kernel)]; exact ⟨rfl, rfl⟩))
    (fun os started H enc _ => lifted os started H enc)

theorem proved : Rows.DiskKeepsSaid := over
end Go.Proofs.Ytcoeodfcpnoboaa.diskKeeps
