/-
  Proved: for every two numbers of 8 bits the law PlaceNear returns true and leaves its inputs as they were. No condition.
-/
import Derived.Test.YtkjedffncphgmaaPlaceE
import Derived.WalkKit
import Derived.ProofKit
import Derived.OpenShut
import Derived.ShutString
import Derived.SizedLaws
import Derived.ChangeOld
import Derived.Below
import Derived.Carry
import Derived.Lib.SmallJoins
import Derived.Deep.SlicePairs
import Derived.SliceStrings
import Derived.Deep.QuietTactic
namespace Go.Proofs.Ytkjedffncphgmaa.placeNear
open Go.ChangeShapes Go.WideShapes Go.ChangeAt Go.RowKit Go.Joins Go.Deep
open Go.ChangeMaps (open_string shut_string)
set_option linter.unusedVariables false

theorem own : ownKnob Try.prog.godebug = none := by kernel_rfl
theorem laidOut : laidOutB Try.prog = true := by kernel_rfl

theorem below_drewN {B : Nat} {w w' : World} (h : Below B w w') (n : Nat) : Below B w (w'.drewN n) := ⟨h.os, h.tape, h.output, h.size, h.block⟩

open Pl in
theorem mg_const (d : Nat → Nat) (hd : ∀ i, d i = 0) : ∀ (xs ys : List Nat), mg d xs ys = xs ++ ys
  | [], ys => by rw [mg_nil]; rfl
  | x :: xs, [] => by rw [mg_none, List.append_nil]
  | x :: xs, y :: ys => by rw [mg_left d x y xs ys (by rw [hd, hd]; exact Nat.le_refl _), mg_const d hd xs (y :: ys)]; rfl

open Pl in
theorem nf_const (d : Nat → Nat) (hd : ∀ i, d i = 0) : ∀ (f : Nat) (xs : List Nat), nf d f xs = xs
  | 0, xs => rfl
  | f + 1, xs => by
    unfold nf
    split
    · rfl
    · rw [nf_const d hd, nf_const d hd, mg_const d hd, List.take_append_drop]

open Pl in
theorem zeros_spots (W : World) (M : Nat) (hM : M ≤ 1048576) : Spots (W.alloc (.cells (zeros M) 26)) (some ⟨W.heap.size, 0, none⟩) M (List.replicate M (0, 0)) := by
  have e : zeros M = ((List.replicate M ((0 : Nat), (0 : Nat))).map cv).toArray := by
    unfold zeros
    rw [List.map_replicate]
    apply Array.ext
    · simp
    · intro i h1 h2
      simp [cv, zv]
  rw [e]
  have h := Spots.of_block (ps := List.replicate M ((0 : Nat), (0 : Nat))) (heap_alloc_new W _) (by rw [List.length_replicate]; unfold maxLen; omega)
  rw [List.length_replicate] at h
  exact h

open Pl in
theorem zeros_fars (M : Nat) : Fars (List.replicate M (0, 0)) (0, 0) (fun _ => 0) := by
  have h := fars_whole (List.replicate M (0, 0)) (0, 0) (fun z hz => by rw [List.eq_of_mem_replicate hz]; decide) (by decide)
  have e : wpl (0, 0) = ((0 : Nat), (0 : Nat)) := by decide +kernel
  have e2 : (fun i => dist ((List.replicate M ((0 : Int), (0 : Int))).getD i (0, 0)) (0, 0)) = fun _ => 0 := by
    funext i
    have : (List.replicate M ((0 : Int), (0 : Int))).getD i (0, 0) = (0, 0) := by
      rw [List.getD_eq_getElem?_getD, List.getElem?_replicate]
      split <;> rfl
    rw [this]
    rfl
  rw [List.map_replicate, e, e2] at h
  exact h

open Pl in
theorem near_in (M k : Nat) (hk : k < M) (hM : M ≤ 1048576) (w W : World) (hs : Spots W (some ⟨w.heap.size, 0, none⟩) M (List.replicate M (0, 0))) :
    Calls Try.prog 10 #[.slice (some ⟨w.heap.size, 0, none⟩) M M, .int .i64 (k : Int)] W fun e w' => ∃ v cv, e = .returned (.slice v (M - 1) cv) ∧ Reads w' v cv (round M (k + 1)) ∧ Below W.heap.size W w' := by
  have h := order_in (List.replicate M ((0 : Nat), (0 : Nat))) k (by simpa using hk) (fun _ => 0) (by simpa using hM) (by rw [List.getElem_replicate]; exact zeros_fars M) _ M W hs
  rw [List.length_replicate, nf_const _ (fun _ => rfl)] at h
  exact h

open Pl in
theorem near_out (M : Nat) (hM : M ≤ 1048576) (w W : World) (hs : Spots W (some ⟨w.heap.size, 0, none⟩) M (List.replicate M (0, 0))) :
    Calls Try.prog 10 #[.slice (some ⟨w.heap.size, 0, none⟩) M M, .int .i64 (-1)] W fun e w' => ∃ v cv, e = .returned (.slice v M cv) ∧ Reads w' v cv (round M 0) ∧ Below W.heap.size W w' := by
  have h := order_out (List.replicate M ((0 : Nat), (0 : Nat))) (-1) (.inl (by decide)) (fun _ => 0) (by simpa using hM) (zeros_fars M) _ M W hs
  rw [List.length_replicate, nf_const _ (fun _ => rfl)] at h
  exact h

open Pl in
theorem round_at (M k i : Nat) (hk : k < M) (hi : i < (round M (k + 1)).length) : (round M (k + 1))[i] = (k + 1 + i) % M := by
  have hl : (round M (k + 1)).length = (M - (k + 1)) + k := by simp [round, seg_length]
  simp only [round, seg, List.getElem_append, List.length_map, List.length_range, List.getElem_map, List.getElem_range]
  split
  · rw [Nat.mod_eq_of_lt (by omega)]
  · rw [Nat.mod_eq_sub_mod (by omega), Nat.mod_eq_of_lt (by omega)]
    omega


set_option maxRecDepth 100000 in
set_option maxHeartbeats 4000000 in
theorem walk (a0 : Int) (a1 : Int) (w : World) (w0 : (Lit.int .u8 a0).wf = true) (w1 : (Lit.int .u8 a1).wf = true) :
    Calls Try.prog 4 #[.int .u8 a0, .int .u8 a1] w fun e w' => e = .returned (.bool true) ∧ Below w.heap.size w w' := by
  have hb0 : 0 ≤ a0 ∧ a0 ≤ 255 := by simpa [Lit.wf, IntKind.min, IntKind.max, IntKind.signed, IntKind.bits] using w0
  have hb1 : 0 ≤ a1 ∧ a1 ≤ 255 := by simpa [Lit.wf, IntKind.min, IntKind.max, IntKind.signed, IntKind.bits] using w1
  obtain ⟨n, rfl⟩ := Int.eq_ofNat_of_zero_le hb0.1
  obtain ⟨m, rfl⟩ := Int.eq_ofNat_of_zero_le hb1.1
  have hm : m ≤ 255 := by omega
  clear w0 w1 hb0 hb1
  obtain ⟨M, hM⟩ : ∃ M : Nat, M = 1 + n % 20 := ⟨_, rfl⟩
  obtain ⟨k, hk⟩ : ∃ k : Nat, k = m % M := ⟨_, rfl⟩
  have e1 : (1 : Int) + (n : Int) % 20 = (M : Int) := by omega
  have hkM : k < M := by rw [hk]; exact Nat.mod_lt _ (by omega)
  have hM2 : M ≤ 20 := by omega
  have e2 : (m : Int) % (M : Int) = (k : Int) := by rw [hk]; rfl
  have hM0 : ¬ ((M : Int) = 0) := by omega
  have hM0n : ¬ (M = 0) := by omega
  have hk20 : k ≤ 20 := by omega
  obtain ⟨q, hq⟩ : ∃ q, M - 1 = q := ⟨_, rfl⟩
  have e3 : (M : Int) - 1 = (q : Int) := by omega
  have hni := fun w W hs => near_in M k hkM (by omega) w W hs
  rw [hq] at hni
  have HNI := Lib.hid hni
  have HQ := Lib.hid hq
  clear hni hq
  have hmk := Pl.make_places M (by omega)
  have HM := Lib.hid hM
  clear hM hk
  go_enter Try.func4, Try.ntmps4
  go_wp2_with fail
  refine (Pl.examples_any _).mono ?_
  rintro e w1 ⟨rfl, b1⟩
  go_wp2_with fail
  have hs := zeros_spots w1 M (by omega)
  have b2 := (Below.refl w1.heap.size w1).alloc (Nat.le_refl _) (.cells (Pl.zeros M) 26)
  generalize w1.alloc (.cells (Pl.zeros M) 26) = w2 at *
  refine (HNI.out w1 w2 hs).mono ?_
  rintro e w3 ⟨v, cv, rfl, hr, b3⟩
  have hs3 := hs.kept b3
  have b4 := b1.trans ((b2.trans (b3.mono b2.size)).mono b1.size)
  clear b1 b2 b3 hs
  go_wp2_with fail
  have hlen : (Pl.round M (k + 1)).length = q := by have := HQ.out; simp [Pl.round, Pl.seg_length]; omega
  have HLen := Lib.hid hlen
  clear hlen
  go_loopw [10] (fun i W => ∃ j : Nat, j ≤ q ∧ i = .int .i64 (j : Int) ∧ Pl.Reads W v cv (Pl.round M (k + 1)) ∧ Pl.Spots W (some ⟨w1.heap.size, 0, none⟩) M (List.replicate M (0, 0)) ∧ Below w.heap.size w W) (fun i _ => q - (intOf i).toNat)
  case atStart => exact ⟨0, Nat.zero_le _, rfl, hr, hs3, b4⟩
  case round =>
    clear hr hs3 b4
    obtain ⟨j, hj, rfl, hr, hs, hb⟩ := hrel
    by_cases hlt : j < q
    · obtain ⟨g, o, rfl, c1⟩ := hr.at j (by rw [HLen.out]; exact hlt)
      rw [round_at M k j hkM] at c1
      have e4 : ((k : Int) + 1 + (j : Int)) % (M : Int) = (((k + 1 + j) % M : Nat) : Int) := by
        rw [Int.natCast_emod]; rfl
      have e5 : ((k : Int) + 1 + (j : Int)).tmod (M : Int) = (((k + 1 + j) % M : Nat) : Int) := by
        rw [Int.tmod_eq_emod_of_nonneg (by omega)]; exact e4
      generalize (k + 1 + j) % M = x at *
      have hj20 : j ≤ 20 := by omega
      have x1 : IntKind.i64.wrap ((k : Int) + 1) = (k : Int) + 1 := by unfold IntKind.wrap; simp [IntKind.bits, IntKind.signed]; omega
      have x2 : IntKind.i64.wrap ((k : Int) + 1 + (j : Int)) = (k : Int) + 1 + (j : Int) := by unfold IntKind.wrap; simp [IntKind.bits, IntKind.signed]; omega
      have j0 : (0 : Int) ≤ (j : Int) := by omega
      have j1 : (j : Int) < (q : Int) := by omega
      go_wp2_with fail
      go_quiet (fail)
      have hd := below_drewN (Below.refl wr.heap.size wr) nq
      go_wp2
      refine ⟨⟨j + 1, by omega, by go_num, hr.kept hd, hs.kept hd, below_drewN hb nq⟩, by simp [intOf]; omega⟩
    · obtain rfl : j = q := by omega
      go_wp2_with fail
      refine (near_out M (by omega) w1 wr hs).mono ?_
      rintro e w4 ⟨v4, cv4, rfl, hr4, hb4⟩
      have hb5 := hb.trans (hb4.mono hb.size)
      have hl4 : (Pl.round M 0).length = M := by simp [Pl.round, Pl.seg_length]
      obtain ⟨g, o, rfl, c1⟩ := hr4.at 0 (by rw [hl4]; omega)
      have e5 : (Pl.round M 0)[0]'(by rw [hl4]; omega) = 0 := by
        simp [Pl.round, Pl.seg]
      rw [e5] at c1
      have c1 : w4.cell? ⟨g, o, none⟩ = some (.int .i64 0) := c1
      have hM1 : (0 : Int) < (M : Int) := by omega
      clear hr4 hr hs hb hb4 e5 hl4
      go_wp2_with fail
      go_ret
      exact ⟨rfl, hb5⟩

set_option maxRecDepth 100000 in
theorem lifted (os : Os) (started : os.Started) (H : Type) (enc : TypeId × Value → H) :
    ReturnsInHanded {} Try.checked os 4 .any (Rows.placeNearSpec.pre6 enc Try.prog Try.f4 Rows.placeNearRow.domain false) (Rows.placeNearSpec.post enc Try.prog Try.f4 false true false false) := by
  refine returnsInHanded_of_change_sized (C := Try.checked) own started (by kernel_rfl) Try.func4
    (ChangeSpec.witness6 (enc := enc) (C := Try.checked) false ⟨#[], #[.int .u8 0, .int .u8 0], []⟩ 8 (by kernel_rfl) (by kernel_rfl) (by kernel_rfl) (by kernel_rfl)) ?_
  intro W base args ds gs before hval0 hW hcnd hsz0 _
  have hval : ∀ (j : Nat) t v, Try.f4.params[j]? = some t → args[j]? = some v → Value.okWide Try.prog W .any base t v := hval0
  have hsz : (DataW.weightsEach Try.prog (Try.f4.params.toList ++ Rows.placeNearSpec.plain.varTypes Try.prog) (ds ++ gs)).all (· ≤ reachBytes) = true := hsz0
  have hW' := hW
  obtain ⟨p, q, hA0, hV, rfl, hfz, hnd⟩ := hW
  have hA : DataW.TrodAll enc Try.prog W 0 (fun _ => true) true Try.f4.params.toList args.toList ds p := hA0
  rw [Try.params4] at hA hval hsz
  obtain ⟨v0, vs0, d0, ds0, p0, q0, hargs, rfl, rfl, h0, r0⟩ := trodAll_cons hA
  obtain ⟨v1, vs1, d1, ds1, p1, q1, rfl, rfl, rfl, h1, r1⟩ := trodAll_cons r0
  obtain ⟨rfl, rfl, rfl⟩ := trodAll_nil r1
  obtain rfl : args = #[v0, v1] := by cases args; simp_all
  obtain ⟨rfl, rfl⟩ := trodVars_none hV
  obtain ⟨a0, rfl, rfl, rfl, w0⟩ := open_int Try.underlying5 (hval 0 5 v0 rfl rfl) h0
  obtain ⟨a1, rfl, rfl, rfl, w1⟩ := open_int Try.underlying5 (hval 1 5 v1 rfl rfl) h1
  clear hA0 hval0
  refine (walk a0 a1 W w0 w1).mono fun e W' ⟨he, bel⟩ => ?_
  subst he
  exact ⟨_, rfl, _, _, _, [], _, [], hW', trodAll_mk1 (shut_bool Try.underlying4 _), (trodAll_cons_mk (shut_int Try.underlying5 w0) (trodAll_cons_mk (shut_int Try.underlying5 w1) trodAll_mk0)), rfl, bel.frame _, fun h => by cases h⟩

theorem over : Rows.placeNearRow.holds Try.pinned (OpenSpec.ofChange Rows.placeNearSpec) :=
  OpenClaim.holds_of_wide 4 Try.f4 rfl rfl rfl rfl rfl rfl rfl ⟨rfl, rfl, rfl, rfl, rfl⟩ rfl rfl rfl rfl rfl (by kernel_rfl) Try.func4 (by kernel_rfl)
    (of_decide_eq_true (by kernel_rfl)) (by unfold Func.isWrapper; first | (rw [if_pos (by decide +kernel)]; kernel_rfl) | (rw [if_neg (by decide +kernel)]; exact ⟨rfl, rfl⟩))
    (fun os started H enc _ => lifted os started H enc)

theorem proved : Rows.PlaceNearSaid := over
end Go.Proofs.Ytkjedffncphgmaa.placeNear
