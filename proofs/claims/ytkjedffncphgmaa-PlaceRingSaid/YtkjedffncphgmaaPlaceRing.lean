/-
  Proved: for every number of 8 bits the law PlaceRing returns true and leaves its input as it was. No condition.
-/
import Derived.Test.YtkjedffncphgmaaPlaceE
import Derived.WalkKit
import Derived.ProofKit
import Derived.OpenShut
import Derived.ShutString
import Derived.SizedLaws
import Derived.ChangeOld
import Derived.Below
import Derived.Carry
import Derived.Lib.SmallJoins
import Derived.Deep.SlicePairs
import Derived.SliceStrings
import Derived.Deep.RegionHeld3
import Derived.Deep.QuietTactic
namespace Go.Proofs.Ytkjedffncphgmaa.placeRing
open Go.ChangeShapes Go.WideShapes Go.ChangeAt Go.RowKit Go.Joins Go.Deep
open Go.ChangeMaps (open_string shut_string)
set_option linter.unusedVariables false

theorem own : ownKnob Try.prog.godebug = none := by kernel_rfl
theorem laidOut : laidOutB Try.prog = true := by kernel_rfl

open Pl in
theorem pt_small (k : Nat) (h : k < 64) : Small (pt k) := by
  unfold pt
  exact tx_small (a := 1 + (k / 4 : Nat)) (b := 0) (by omega) (by omega) (by omega) (by omega) (k % 4)

open Pl in
theorem pt_next (k : Nat) (h : (k + 1) % 4 > 0) : tx 1 (pt k).1 (pt k).2 = pt (k + 1) := by
  have e1 : (k + 1) % 4 = k % 4 + 1 := by omega
  have e2 : (k + 1) / 4 = k / 4 := by omega
  unfold pt
  rw [e1, e2]
  rfl

open Pl in
theorem pt_other_tab : (List.range 64).all (fun i => (List.range i).all fun k => pt i != pt k) = true := by decide +kernel
open Pl in
theorem pt_other (i k : Nat) (hi : i < 64) (hk : k < i) : pt i ≠ pt k := by
  have := List.all_eq_true.1 (List.all_eq_true.1 pt_other_tab i (List.mem_range.2 hi)) k (List.mem_range.2 hk)
  simpa using this

open Pl in
theorem pt_far_tab : (List.range 64).all (fun i => dist (pt i) (0, 0) == (1 + i / 4) * (1 + i / 4)) = true := by decide +kernel
open Pl in
theorem pt_far (i : Nat) (hi : i < 64) : dist (pt i) (0, 0) = (1 + i / 4) * (1 + i / 4) := by
  simpa using List.all_eq_true.1 pt_far_tab i (List.mem_range.2 hi)

open Pl in
theorem eql_of (a c : Int) (a1 : -16 ≤ a) (a2 : a ≤ 16) (c1 : -16 ≤ c) (c2 : c ≤ 16) : (FloatKind.f64.format.order (fb a) (fb c) == some .eq) = decide (a = c) := by
  simpa using of_rng2 eql_tab a1 a2 c1 c2

open Pl in
/-- two places of a ring are not the same -/
theorem other_walk (i k : Nat) (hi : i < 64) (hk : k < i) : ((FloatKind.f64.format.order (wpl (pt i)).1 (wpl (pt k)).1 == some .eq) && (FloatKind.f64.format.order (wpl (pt i)).2 (wpl (pt k)).2 == some .eq)) = false := by
  obtain ⟨a1, a2, a3, a4⟩ := pt_small i hi
  obtain ⟨c1, c2, c3, c4⟩ := pt_small k (by omega)
  unfold wpl
  rw [eql_of _ _ a1 a2 c1 c2, eql_of _ _ a3 a4 c3 c4]
  have h := pt_other i k hi hk
  rw [Bool.and_eq_false_iff]
  by_cases e : (pt i).1 = (pt k).1
  · right
    exact decide_eq_false fun e2 => h (Prod.ext e e2)
  · left
    exact decide_eq_false e

open Pl in
theorem self_walk (i : Nat) (hi : i < 64) : ((FloatKind.f64.format.order (wpl (pt i)).1 (wpl (pt i)).1 == some .eq) && (FloatKind.f64.format.order (wpl (pt i)).2 (wpl (pt i)).2 == some .eq)) = true := by
  obtain ⟨a1, a2, a3, a4⟩ := pt_small i hi
  unfold wpl
  rw [eql_of _ _ a1 a2 a1 a2, eql_of _ _ a3 a4 a3 a4]
  simp

open Pl in
theorem right_at (i : Nat) (hi : i < 64) (w : World) : Calls Try.prog 7 #[.complex .f64 (wpl (pt i)).1 (wpl (pt i)).2] w fun e w' => e = .returned (.bool true) ∧ w = w' := by
  obtain ⟨a1, a2, a3, a4⟩ := pt_small i hi
  exact right_any _ _ (good a1 a2) (good a3 a4) w

open Pl in
theorem turn_at (k : Nat) (hk : k < 64) (h : (k + 1) % 4 > 0) (w : World) : Calls Try.prog 8 #[.complex .f64 (wpl (pt k)).1 (wpl (pt k)).2, .int .i64 1] w fun e w' => e = .returned (.complex .f64 (wpl (pt (k + 1))).1 (wpl (pt (k + 1))).2) ∧ w = w' := by
  obtain ⟨a1, a2, a3, a4⟩ := pt_small k hk
  have := spin_any (pt k).1 (pt k).2 1 1 (by decide +kernel) (by decide) a1 a2 a3 a4 w
  rw [pt_next k h] at this
  exact this

open Pl in
theorem far_at (i : Nat) (hi : i < 64) (w : World) : Calls Try.prog 9 #[.complex .f64 (wpl (pt i)).1 (wpl (pt i)).2, .complex .f64 0 0] w fun e w' => e = .returned (.int .u64 (((1 + i / 4) * (1 + i / 4) : Nat) : Int)) ∧ w = w' := by
  have := far_whole (pt i) (0, 0) (pt_small i hi) (by decide) w
  rw [pt_far i hi, show wpl (0, 0) = ((0 : Nat), (0 : Nat)) by decide +kernel] at this
  exact this

theorem below_drewN {B : Nat} {w w' : World} (h : Below B w w') (n : Nat) : Below B w (w'.drewN n) := ⟨h.os, h.tape, h.output, h.size, h.block⟩

/-- a goal that no tactic looks into -/
structure Box (p : Prop) : Prop where
  out : p

/-- an operation of a region that is not wanted -/
theorem q_no {P : Program} {ops : Array Oper} {C : World → Prop} {Q : Act → Prop} {o : Oper} {rest : List Oper} {a : Act} (hw : Region.wanted o (yielded ops a.tmps) = false) (h : Box (wpQuiet P ops C Q rest (a.put o.dst undef))) : Box (wpQuiet P ops C Q (o :: rest) a) := by
  refine ⟨?_⟩
  show if Region.wanted o (yielded ops a.tmps) then _ else _
  rw [hw]
  exact h.out

/-- .. one that may be; what follows is kept shut -/
theorem q_step {P : Program} {ops : Array Oper} {C : World → Prop} {Q : Act → Prop} {o : Oper} {rest : List Oper} {a : Act}
    (h : ∀ K : Act → Prop, (∀ a, Box (wpQuiet P ops C Q rest a) → K a) → if Region.wanted o (yielded ops a.tmps) then o.quiet P a C K else K (a.put o.dst undef)) : Box (wpQuiet P ops C Q (o :: rest) a) :=
  ⟨wpQuiet_step fun K hK => h K fun a k => hK a k.out⟩

/-- the places of a ring lie in block g -/
def Ringed (W : World) (g m : Nat) : Prop := ∀ j, j < m → W.cell? ⟨g, j, none⟩ = some (.complex .f64 (Pl.wpl (Pl.pt j)).1 (Pl.wpl (Pl.pt j)).2)

open Pl in
theorem ringed_of {W : World} {g m cap : Nat} (h : Spots W (some ⟨g, 0, none⟩) cap ((List.range m).map fun k => wpl (pt k))) : Ringed W g m := by
  intro j hj
  obtain ⟨g', o, e, _, hc⟩ := h.lies j (by simpa using hj)
  simp only [Option.some.injEq, Addr.mk.injEq, and_true] at e
  obtain ⟨rfl, rfl⟩ := e
  rw [Nat.zero_add] at hc
  rw [hc]
  simp


set_option maxRecDepth 100000 in
set_option maxHeartbeats 4000000 in
theorem walk (a0 : Int) (w : World) (w0 : (Lit.int .u8 a0).wf = true) :
    Calls Try.prog 3 #[.int .u8 a0] w fun e w' => e = .returned (.bool true) ∧ Below w.heap.size w w' := by
  have hb0 : 0 ≤ a0 ∧ a0 ≤ 255 := by simpa [Lit.wf, IntKind.min, IntKind.max, IntKind.signed, IntKind.bits] using w0
  obtain ⟨n, rfl⟩ := Int.eq_ofNat_of_zero_le hb0.1
  have hn : n ≤ 255 := by omega
  clear w0 hb0
  obtain ⟨m, hm⟩ : ∃ m, Pl.many (n : Int) = m := ⟨_, rfl⟩
  have hm64 : m ≤ 64 := by rw [← hm]; exact Pl.many_le _
  have hmin : ∀ W, (Builtin.min_ #[3, 3] 3 #[.int .i64 (n : Int), .int .i64 64]).run Try.prog W = .ok (.int .i64 (m : Int)) W := by
    intro W; rw [run_min_int2]; have := Pl.many_eq (n : Int); congr 2; split <;> omega
  have hr := fun w => Pl.ring_any (n : Int) w
  rw [hm, Pl.laid_ring] at hr
  have HR := Lib.hid hr
  clear hr hm
  go_enter Try.func3, Try.ntmps3
  go_wp2_with fail
  refine (Pl.examples_any _).mono ?_
  rintro e w1 ⟨rfl, b1⟩
  go_wp2_with fail
  refine (HR.out _).mono ?_
  rintro e w2 ⟨g, rfl, hown, b2⟩
  have hsp := (Pl.Spots.own hown).1
  have b3 := b1.trans (b2.mono b1.size)
  clear hown b1 b2 HR
  go_wp2_with fail
  have hR := ringed_of hsp
  clear hsp hmin
  go_loopw [5] (fun i W => ∃ j : Nat, j ≤ m ∧ i = .int .i64 (j : Int) ∧ Ringed W g m ∧ Below w.heap.size w W) (fun i _ => m - (intOf i).toNat)
  case atStart => exact ⟨0, Nat.zero_le _, rfl, hR, b3⟩
  case round =>
    clear hR b3
    obtain ⟨i, hi, rfl, hR, hb⟩ := hrel
    by_cases hlt : i < m
    · have c1 := hR i hlt
      have i0 : (0 : Int) ≤ (i : Int) := by omega
      have i1 : (i : Int) < (m : Int) := by omega
      have ri := right_at i (by omega)
      obtain ⟨x, y, hxy⟩ : ∃ x y, Pl.wpl (Pl.pt i) = (x, y) := ⟨_, _, rfl⟩
      rw [hxy] at c1 ri
      have RI := Lib.hid ri
      have HXY := Lib.hid hxy
      clear ri hxy
      go_wp2_with fail
      refine (RI.out _).mono ?_
      rintro e w' ⟨rfl, rfl⟩
      go_wp2_with fail
      clear c1 RI
      go_loopw [6] (fun k' W => ∃ k : Nat, k ≤ i ∧ k' = .int .i64 (k : Int) ∧ Ringed W g m ∧ Below w.heap.size w W) (fun k' _ => i - (intOf k').toNat)
      case atStart => exact ⟨0, Nat.zero_le _, rfl, hR, hb⟩
      case round =>
        clear hR hb
        obtain ⟨k, hk, rfl, hR, hb⟩ := hrel
        have c1 := hR i hlt
        rw [HXY.out] at c1
        by_cases hlk : k < i
        · have c2 := hR k (by omega)
          have k0 : (0 : Int) ≤ (k : Int) := by omega
          have k1 : (k : Int) < (m : Int) := by omega
          have hne := other_walk i k (by omega) hlk
          rw [HXY.out] at hne
          obtain ⟨x', y', hxy'⟩ : ∃ x' y', Pl.wpl (Pl.pt k) = (x', y') := ⟨_, _, rfl⟩
          rw [hxy'] at c2 hne
          have hR' : Ringed wr.drew g m := hR
          have hb' := hb.drew
          clear hR hb hxy'
          simp only at hne
          go_wp2_with fail
          go_region_held3 (fun w' => w'.cell? ⟨g, i, none⟩ = some (.complex .f64 x y) ∧ w'.cell? ⟨g, k, none⟩ = some (.complex .f64 x' y')) (go_keep) (fail)
          go_wp2
          refine ⟨⟨k + 1, by omega, by go_num, hR', hb'⟩, by simp [intOf]; omega⟩
        · obtain rfl : k = i := by omega
          by_cases h4 : 0 < k % 4
          · have h4' : (0 : Int) < (k : Int).tmod 4 := by rw [Int.tmod_eq_emod_of_nonneg (by omega)]; omega
            by_cases h5 : 4 ≤ k
            · have h5' : (4 : Int) ≤ (k : Int) := by omega
              have hR' : Ringed wr.drew g m := hR
              have hb' := hb.drew
              have hse := self_walk k (by omega)
              rw [HXY.out] at hse
              simp only at hse
              obtain ⟨p, hp⟩ : ∃ p, p + 1 = k := ⟨k - 1, by omega⟩
              obtain ⟨r, hr⟩ : ∃ r, r + 4 = k := ⟨k - 4, by omega⟩
              have e1 : IntKind.i64.wrap ((k : Int) - 1) = (p : Int) := by unfold IntKind.wrap; simp [IntKind.bits, IntKind.signed]; omega
              have e4 : IntKind.i64.wrap ((k : Int) - 4) = (r : Int) := by unfold IntKind.wrap; simp [IntKind.bits, IntKind.signed]; omega
              have t1 : 0 < k := by omega
              have t2 : (0 : Int) < (k : Int) := by omega
              have p1 : (p : Int) < (m : Int) := by omega
              have p0 : (0 : Int) ≤ (p : Int) := by omega
              have r1 : (r : Int) < (m : Int) := by omega
              have r0 : (0 : Int) ≤ (r : Int) := by omega
              obtain ⟨x2, y2, hxy2⟩ : ∃ x2 y2, Pl.wpl (Pl.pt p) = (x2, y2) := ⟨_, _, rfl⟩
              have c2 := hR p (by omega)
              rw [hxy2] at c2
              obtain ⟨x3, y3, hxy3⟩ : ∃ x3 y3, Pl.wpl (Pl.pt r) = (x3, y3) := ⟨_, _, rfl⟩
              have c3 := hR r (by omega)
              rw [hxy3] at c3
              have tu := turn_at p (by omega) (by omega)
              rw [hp, HXY.out, hxy2] at tu
              have TU := Lib.hid tu
              clear tu
              have f1 := far_at k (by omega)
              rw [HXY.out] at f1
              have f3 := far_at r (by omega)
              rw [hxy3] at f3
              have fb : ∀ (a b : Nat) (d : Nat), (a = x ∧ b = y ∧ d = (1 + k / 4) * (1 + k / 4)) ∨ (a = x3 ∧ b = y3 ∧ d = (1 + r / 4) * (1 + r / 4)) → ∀ w, Calls Try.prog 9 #[.complex .f64 a b, .complex .f64 0 0] w fun e w' => e = .returned (.int .u64 (d : Int)) ∧ w = w' := by
                rintro a b d (⟨rfl, rfl, rfl⟩ | ⟨rfl, rfl, rfl⟩) w
                · exact f1 w
                · exact f3 w
              have FB := Lib.hid fb
              have hle : decide (((1 + k / 4) * (1 + k / 4) : Nat) ≤ ((1 + r / 4) * (1 + r / 4) : Nat)) = false := by
                have q : k / 4 = r / 4 + 1 := by omega
                apply decide_eq_false
                rw [q]
                generalize r / 4 = z
                have := Nat.mul_lt_mul_of_lt_of_le (show 1 + z < 1 + (z + 1) by omega) (show 1 + z ≤ 1 + (z + 1) by omega) (by omega)
                omega
              clear f1 f3 fb
              generalize (1 + k / 4) * (1 + k / 4) = d1 at *
              generalize (1 + r / 4) * (1 + r / 4) = d3 at *
              have HP := Lib.hid hp
              have HRR := Lib.hid hr
              clear hp hr hxy2 hxy3 hR hb
              go_wp2_with fail
              go_region_held3 (fun w' => w'.cell? ⟨g, k, none⟩ = some (.complex .f64 x y) ∧ w'.cell? ⟨g, p, none⟩ = some (.complex .f64 x2 y2) ∧ w'.cell? ⟨g, r, none⟩ = some (.complex .f64 x3 y3)) (go_keep) (first
                | (go_at_call 8
                   refine (TU.out _).mono ?_
                   rintro e w' ⟨rfl, rfl⟩)
                | (go_at_call 9
                   refine (FB.out _ _ _ (by first | exact .inl ⟨rfl, rfl, rfl⟩ | exact .inr ⟨rfl, rfl, rfl⟩) _).mono ?_
                   rintro e w' ⟨rfl, rfl⟩))
              go_wp2
              refine ⟨⟨k + 1, by omega, by go_num, hR', hb'⟩, by simp [intOf]; omega⟩
            · have h5' : decide ((4 : Int) ≤ (k : Int)) = false := decide_eq_false (by omega)
              have hR' : Ringed wr.drew g m := hR
              have hb' := hb.drew
              have hse := self_walk k (by omega)
              rw [HXY.out] at hse
              simp only at hse
              obtain ⟨p, hp⟩ : ∃ p, p + 1 = k := ⟨k - 1, by omega⟩
              have e1 : IntKind.i64.wrap ((k : Int) - 1) = (p : Int) := by unfold IntKind.wrap; simp [IntKind.bits, IntKind.signed]; omega
              have t1 : 0 < k := by omega
              have t2 : (0 : Int) < (k : Int) := by omega
              have p1 : (p : Int) < (m : Int) := by omega
              have p0 : (0 : Int) ≤ (p : Int) := by omega
              obtain ⟨x2, y2, hxy2⟩ : ∃ x2 y2, Pl.wpl (Pl.pt p) = (x2, y2) := ⟨_, _, rfl⟩
              have c2 := hR p (by omega)
              rw [hxy2] at c2
              have tu := turn_at p (by omega) (by omega)
              rw [hp, HXY.out, hxy2] at tu
              have TU := Lib.hid tu
              clear tu
              have HP := Lib.hid hp
              clear hp hxy2 hR' hb'
              go_wp2_with fail
              refine wp_region_quiet_lit (by kernel_rfl) (by kernel_rfl) (Box.out ?_)
              (refine q_step (fun K hK => ?_)
               go_simp
               first
                 | (refine hK _ ?_; clear hK K)
                 | (apply Exists.intro
                    refine ⟨fun _ => ?_, hK _ ?_⟩
                    fail
                    clear hK K))
              (refine q_step (fun K hK => ?_)
               go_simp
               first
                 | (refine hK _ ?_; clear hK K)
                 | (apply Exists.intro
                    refine ⟨fun _ => ?_, hK _ ?_⟩
                    fail
                    clear hK K))
              (refine q_step (fun K hK => ?_)
               go_simp
               first
                 | (refine hK _ ?_; clear hK K)
                 | (apply Exists.intro
                    refine ⟨fun _ => ?_, hK _ ?_⟩
                    fail
                    clear hK K))
              (refine q_step (fun K hK => ?_)
               go_simp
               first
                 | (refine hK _ ?_; clear hK K)
                 | (apply Exists.intro
                    refine ⟨fun _ => ?_, hK _ ?_⟩
                    fail
                    clear hK K))
              (refine q_step (fun K hK => ?_)
               go_simp
               first
                 | (refine hK _ ?_; clear hK K)
                 | (apply Exists.intro
                    refine ⟨fun _ => ?_, hK _ ?_⟩
                    fail
                    clear hK K))
              (refine q_step (fun K hK => ?_)
               go_simp
               first
                 | (refine hK _ ?_; clear hK K)
                 | (apply Exists.intro
                    refine ⟨fun _ => ?_, hK _ ?_⟩
                    fail
                    clear hK K))
              (refine q_step (fun K hK => ?_)
               go_simp
               first
                 | (refine hK _ ?_; clear hK K)
                 | (apply Exists.intro
                    refine ⟨fun _ => ?_, hK _ ?_⟩
                    fail
                    clear hK K))
              (refine q_step (fun K hK => ?_)
               go_simp
               first
                 | (refine hK _ ?_; clear hK K)
                 | (apply Exists.intro
                    refine ⟨fun _ => ?_, hK _ ?_⟩
                    fail
                    clear hK K))
              (refine q_step (fun K hK => ?_)
               go_simp
               first
                 | (refine hK _ ?_; clear hK K)
                 | (apply Exists.intro
                    refine ⟨fun _ => ?_, hK _ ?_⟩
                    fail
                    clear hK K))
              (refine q_step (fun K hK => ?_)
               go_simp
               first
                 | (refine hK _ ?_; clear hK K)
                 | (apply Exists.intro
                    refine ⟨fun _ => ?_, hK _ ?_⟩
                    fail
                    clear hK K))
              (refine q_step (fun K hK => ?_)
               go_simp
               first
                 | (refine hK _ ?_; clear hK K)
                 | (apply Exists.intro
                    refine ⟨fun _ => ?_, hK _ ?_⟩
                    fail
                    clear hK K))
              (refine q_step (fun K hK => ?_)
               go_simp
               first
                 | (refine hK _ ?_; clear hK K)
                 | (apply Exists.intro
                    refine ⟨fun _ => ?_, hK _ ?_⟩
                    fail
                    clear hK K))
              (refine q_step (fun K hK => ?_)
               go_simp
               first
                 | (refine hK _ ?_; clear hK K)
                 | (apply Exists.intro
                    refine ⟨fun _ => ?_, hK _ ?_⟩
                    fail
                    clear hK K))
              (refine q_step (fun K hK => ?_)
               go_simp
               first
                 | (refine hK _ ?_; clear hK K)
                 | (apply Exists.intro
                    refine ⟨fun _ => ?_, hK _ ?_⟩
                    (first
                     | (go_at_call 8
                        exact Calls.quiet_of_same ((TU.out _).mono fun _ _ ⟨he, hw⟩ => ⟨he, hw.symm⟩)))
                    clear hK K))
              (refine q_step (fun K hK => ?_)
               go_simp
               first
                 | (refine hK _ ?_; clear hK K)
                 | (apply Exists.intro
                    refine ⟨fun _ => ?_, hK _ ?_⟩
                    fail
                    clear hK K))
              (refine q_step (fun K hK => ?_)
               go_simp
               first
                 | (refine hK _ ?_; clear hK K)
                 | (apply Exists.intro
                    refine ⟨fun _ => ?_, hK _ ?_⟩
                    fail
                    clear hK K))
              (refine q_step (fun K hK => ?_)
               go_simp
               first
                 | (refine hK _ ?_; clear hK K)
                 | (apply Exists.intro
                    refine ⟨fun _ => ?_, hK _ ?_⟩
                    fail
                    clear hK K))
              (refine q_step (fun K hK => ?_)
               go_simp
               first
                 | (refine hK _ ?_; clear hK K)
                 | (apply Exists.intro
                    refine ⟨fun _ => ?_, hK _ ?_⟩
                    fail
                    clear hK K))
              (refine q_step (fun K hK => ?_)
               go_simp
               first
                 | (refine hK _ ?_; clear hK K)
                 | (apply Exists.intro
                    refine ⟨fun _ => ?_, hK _ ?_⟩
                    fail
                    clear hK K))
              (refine q_step (fun K hK => ?_)
               go_simp
               first
                 | (refine hK _ ?_; clear hK K)
                 | (apply Exists.intro
                    refine ⟨fun _ => ?_, hK _ ?_⟩
                    fail
                    clear hK K))
              (refine q_step (fun K hK => ?_)
               go_simp
               first
                 | (refine hK _ ?_; clear hK K)
                 | (apply Exists.intro
                    refine ⟨fun _ => ?_, hK _ ?_⟩
                    fail
                    clear hK K))
              (refine q_step (fun K hK => ?_)
               go_simp
               first
                 | (refine hK _ ?_; clear hK K)
                 | (apply Exists.intro
                    refine ⟨fun _ => ?_, hK _ ?_⟩
                    fail
                    clear hK K))
              (refine q_step (fun K hK => ?_)
               go_simp
               first
                 | (refine hK _ ?_; clear hK K)
                 | (apply Exists.intro
                    refine ⟨fun _ => ?_, hK _ ?_⟩
                    fail
                    clear hK K))
              (refine q_step (fun K hK => ?_)
               go_simp
               first
                 | (refine hK _ ?_; clear hK K)
                 | (apply Exists.intro
                    refine ⟨fun _ => ?_, hK _ ?_⟩
                    fail
                    clear hK K))
              refine q_no (by kernel_rfl) ?_
              refine q_no (by kernel_rfl) ?_
              refine q_no (by kernel_rfl) ?_
              refine q_no (by kernel_rfl) ?_
              refine q_no (by kernel_rfl) ?_
              refine q_no (by kernel_rfl) ?_
              refine q_no (by kernel_rfl) ?_
              refine q_no (by kernel_rfl) ?_
              refine q_no (by kernel_rfl) ?_
              refine q_no (by kernel_rfl) ?_
              refine q_no (by kernel_rfl) ?_
              refine q_no (by kernel_rfl) ?_
              (refine q_step (fun K hK => ?_)
               go_simp
               first
                 | (refine hK _ ?_; clear hK K)
                 | (apply Exists.intro
                    refine ⟨fun _ => ?_, hK _ ?_⟩
                    fail
                    clear hK K))
              (refine q_step (fun K hK => ?_)
               go_simp
               first
                 | (refine hK _ ?_; clear hK K)
                 | (apply Exists.intro
                    refine ⟨fun _ => ?_, hK _ ?_⟩
                    fail
                    clear hK K))
              refine ⟨wpQuiet_nil ?_⟩
              intro _ hw'
              obtain ⟨nq, hw''⟩ := hw'
              subst hw''
              go_wp2
              refine ⟨⟨k + 1, by omega, by go_num, (fun j hj => hR j hj), below_drewN hb nq⟩, by simp [intOf]; omega⟩
          · have h4' : decide ((0 : Int) < (k : Int).tmod 4) = false := decide_eq_false (by rw [Int.tmod_eq_emod_of_nonneg (by omega)]; omega)
            by_cases h5 : 4 ≤ k
            · have h5' : (4 : Int) ≤ (k : Int) := by omega
              have hR' : Ringed wr.drew g m := hR
              have hb' := hb.drew
              have hse := self_walk k (by omega)
              rw [HXY.out] at hse
              simp only at hse
              obtain ⟨r, hr⟩ : ∃ r, r + 4 = k := ⟨k - 4, by omega⟩
              have e4 : IntKind.i64.wrap ((k : Int) - 4) = (r : Int) := by unfold IntKind.wrap; simp [IntKind.bits, IntKind.signed]; omega
              have t1 : 0 < k := by omega
              have t2 : (0 : Int) < (k : Int) := by omega
              have r1 : (r : Int) < (m : Int) := by omega
              have r0 : (0 : Int) ≤ (r : Int) := by omega
              obtain ⟨x3, y3, hxy3⟩ : ∃ x3 y3, Pl.wpl (Pl.pt r) = (x3, y3) := ⟨_, _, rfl⟩
              have c3 := hR r (by omega)
              rw [hxy3] at c3
              have f1 := far_at k (by omega)
              rw [HXY.out] at f1
              have f3 := far_at r (by omega)
              rw [hxy3] at f3
              have fb : ∀ (a b : Nat) (d : Nat), (a = x ∧ b = y ∧ d = (1 + k / 4) * (1 + k / 4)) ∨ (a = x3 ∧ b = y3 ∧ d = (1 + r / 4) * (1 + r / 4)) → ∀ w, Calls Try.prog 9 #[.complex .f64 a b, .complex .f64 0 0] w fun e w' => e = .returned (.int .u64 (d : Int)) ∧ w = w' := by
                rintro a b d (⟨rfl, rfl, rfl⟩ | ⟨rfl, rfl, rfl⟩) w
                · exact f1 w
                · exact f3 w
              have q1 : ∀ (w : World) (n : Nat), Calls Try.prog 9 #[.complex .f64 x y, .complex .f64 0 0] (w.drewN n) fun e w'' => e = .returned (.int .u64 (((1 + k / 4) * (1 + k / 4) : Nat) : Int)) ∧ ∃ m, w'' = w.drewN m :=
                fun w n => Calls.quiet_of_same ((f1 _).mono fun _ _ h => ⟨h.1, h.2.symm⟩)
              have q3 : ∀ (w : World) (n : Nat), Calls Try.prog 9 #[.complex .f64 x3 y3, .complex .f64 0 0] (w.drewN n) fun e w'' => e = .returned (.int .u64 (((1 + r / 4) * (1 + r / 4) : Nat) : Int)) ∧ ∃ m, w'' = w.drewN m :=
                fun w n => Calls.quiet_of_same ((f3 _).mono fun _ _ h => ⟨h.1, h.2.symm⟩)
              have Q1 := Lib.hid q1
              have Q3 := Lib.hid q3
              have hle : decide (((1 + k / 4) * (1 + k / 4) : Nat) ≤ ((1 + r / 4) * (1 + r / 4) : Nat)) = false := by
                have q : k / 4 = r / 4 + 1 := by omega
                apply decide_eq_false
                rw [q]
                generalize r / 4 = z
                have := Nat.mul_lt_mul_of_lt_of_le (show 1 + z < 1 + (z + 1) by omega) (show 1 + z ≤ 1 + (z + 1) by omega) (by omega)
                omega
              clear f1 f3 fb q1 q3
              generalize (1 + k / 4) * (1 + k / 4) = d1 at *
              generalize (1 + r / 4) * (1 + r / 4) = d3 at *
              have HRR := Lib.hid hr
              clear hr hxy3 hR' hb'
              go_wp2_with fail
              refine wp_region_quiet_lit (by kernel_rfl) (by kernel_rfl) (Box.out ?_)
              (refine q_step (fun K hK => ?_)
               go_simp
               first
                 | (refine hK _ ?_; clear hK K)
                 | (apply Exists.intro
                    refine ⟨fun _ => ?_, hK _ ?_⟩
                    fail
                    clear hK K))
              (refine q_step (fun K hK => ?_)
               go_simp
               first
                 | (refine hK _ ?_; clear hK K)
                 | (apply Exists.intro
                    refine ⟨fun _ => ?_, hK _ ?_⟩
                    fail
                    clear hK K))
              (refine q_step (fun K hK => ?_)
               go_simp
               first
                 | (refine hK _ ?_; clear hK K)
                 | (apply Exists.intro
                    refine ⟨fun _ => ?_, hK _ ?_⟩
                    fail
                    clear hK K))
              (refine q_step (fun K hK => ?_)
               go_simp
               first
                 | (refine hK _ ?_; clear hK K)
                 | (apply Exists.intro
                    refine ⟨fun _ => ?_, hK _ ?_⟩
                    fail
                    clear hK K))
              (refine q_step (fun K hK => ?_)
               go_simp
               first
                 | (refine hK _ ?_; clear hK K)
                 | (apply Exists.intro
                    refine ⟨fun _ => ?_, hK _ ?_⟩
                    fail
                    clear hK K))
              (refine q_step (fun K hK => ?_)
               go_simp
               first
                 | (refine hK _ ?_; clear hK K)
                 | (apply Exists.intro
                    refine ⟨fun _ => ?_, hK _ ?_⟩
                    fail
                    clear hK K))
              (refine q_step (fun K hK => ?_)
               go_simp
               first
                 | (refine hK _ ?_; clear hK K)
                 | (apply Exists.intro
                    refine ⟨fun _ => ?_, hK _ ?_⟩
                    fail
                    clear hK K))
              (refine q_step (fun K hK => ?_)
               go_simp
               first
                 | (refine hK _ ?_; clear hK K)
                 | (apply Exists.intro
                    refine ⟨fun _ => ?_, hK _ ?_⟩
                    fail
                    clear hK K))
              refine q_no (by kernel_rfl) ?_
              refine q_no (by kernel_rfl) ?_
              refine q_no (by kernel_rfl) ?_
              refine q_no (by kernel_rfl) ?_
              refine q_no (by kernel_rfl) ?_
              refine q_no (by kernel_rfl) ?_
              refine q_no (by kernel_rfl) ?_
              refine q_no (by kernel_rfl) ?_
              refine q_no (by kernel_rfl) ?_
              refine q_no (by kernel_rfl) ?_
              refine q_no (by kernel_rfl) ?_
              (refine q_step (fun K hK => ?_)
               go_simp
               first
                 | (refine hK _ ?_; clear hK K)
                 | (apply Exists.intro
                    refine ⟨fun _ => ?_, hK _ ?_⟩
                    fail
                    clear hK K))
              (refine q_step (fun K hK => ?_)
               go_simp
               first
                 | (refine hK _ ?_; clear hK K)
                 | (apply Exists.intro
                    refine ⟨fun _ => ?_, hK _ ?_⟩
                    fail
                    clear hK K))
              (refine q_step (fun K hK => ?_)
               go_simp
               first
                 | (refine hK _ ?_; clear hK K)
                 | (apply Exists.intro
                    refine ⟨fun _ => ?_, hK _ ?_⟩
                    fail
                    clear hK K))
              (refine q_step (fun K hK => ?_)
               go_simp
               first
                 | (refine hK _ ?_; clear hK K)
                 | (apply Exists.intro
                    refine ⟨fun _ => ?_, hK _ ?_⟩
                    fail
                    clear hK K))
              (refine q_step (fun K hK => ?_)
               go_simp
               first
                 | (refine hK _ ?_; clear hK K)
                 | (apply Exists.intro
                    refine ⟨fun _ => ?_, hK _ ?_⟩
                    fail
                    clear hK K))
              (refine q_step (fun K hK => ?_)
               go_simp
               first
                 | (refine hK _ ?_; clear hK K)
                 | (apply Exists.intro
                    refine ⟨fun _ => ?_, hK _ ?_⟩
                    fail
                    clear hK K))
              (refine q_step (fun K hK => ?_)
               go_simp
               first
                 | (refine hK _ ?_; clear hK K)
                 | (apply Exists.intro
                    refine ⟨fun _ => ?_, hK _ ?_⟩
                    fail
                    clear hK K))
              (refine q_step (fun K hK => ?_)
               go_simp
               first
                 | (refine hK _ ?_; clear hK K)
                 | (apply Exists.intro
                    refine ⟨fun _ => ?_, hK _ ?_⟩
                    fail
                    clear hK K))
              (refine q_step (fun K hK => ?_)
               go_simp
               first
                 | (refine hK _ ?_; clear hK K)
                 | (apply Exists.intro
                    refine ⟨fun _ => ?_, hK _ ?_⟩
                    fail
                    clear hK K))
              (refine q_step (fun K hK => ?_)
               go_simp
               first
                 | (refine hK _ ?_; clear hK K)
                 | (apply Exists.intro
                    refine ⟨fun _ => ?_, hK _ ?_⟩
                    (first
                     | (go_at_call_of 9 (Value.complex .f64 x y)
                        exact Q1.out _ _)
                     | (go_at_call_of 9 (Value.complex .f64 x3 y3)
                        exact Q3.out _ _))
                    clear hK K))
              (refine q_step (fun K hK => ?_)
               go_simp
               first
                 | (refine hK _ ?_; clear hK K)
                 | (apply Exists.intro
                    refine ⟨fun _ => ?_, hK _ ?_⟩
                    fail
                    clear hK K))
              (refine q_step (fun K hK => ?_)
               go_simp
               first
                 | (refine hK _ ?_; clear hK K)
                 | (apply Exists.intro
                    refine ⟨fun _ => ?_, hK _ ?_⟩
                    fail
                    clear hK K))
              (refine q_step (fun K hK => ?_)
               go_simp
               first
                 | (refine hK _ ?_; clear hK K)
                 | (apply Exists.intro
                    refine ⟨fun _ => ?_, hK _ ?_⟩
                    fail
                    clear hK K))
              (refine q_step (fun K hK => ?_)
               go_simp
               first
                 | (refine hK _ ?_; clear hK K)
                 | (apply Exists.intro
                    refine ⟨fun _ => ?_, hK _ ?_⟩
                    fail
                    clear hK K))
              (refine q_step (fun K hK => ?_)
               go_simp
               first
                 | (refine hK _ ?_; clear hK K)
                 | (apply Exists.intro
                    refine ⟨fun _ => ?_, hK _ ?_⟩
                    fail
                    clear hK K))
              (refine q_step (fun K hK => ?_)
               go_simp
               first
                 | (refine hK _ ?_; clear hK K)
                 | (apply Exists.intro
                    refine ⟨fun _ => ?_, hK _ ?_⟩
                    (first
                     | (go_at_call_of 9 (Value.complex .f64 x y)
                        exact Q1.out _ _)
                     | (go_at_call_of 9 (Value.complex .f64 x3 y3)
                        exact Q3.out _ _))
                    clear hK K))
              (refine q_step (fun K hK => ?_)
               go_simp
               first
                 | (refine hK _ ?_; clear hK K)
                 | (apply Exists.intro
                    refine ⟨fun _ => ?_, hK _ ?_⟩
                    fail
                    clear hK K))
              (refine q_step (fun K hK => ?_)
               go_simp
               first
                 | (refine hK _ ?_; clear hK K)
                 | (apply Exists.intro
                    refine ⟨fun _ => ?_, hK _ ?_⟩
                    fail
                    clear hK K))
              (refine q_step (fun K hK => ?_)
               go_simp
               first
                 | (refine hK _ ?_; clear hK K)
                 | (apply Exists.intro
                    refine ⟨fun _ => ?_, hK _ ?_⟩
                    fail
                    clear hK K))
              refine ⟨wpQuiet_nil ?_⟩
              intro _ hw'
              obtain ⟨nq, hw''⟩ := hw'
              subst hw''
              go_wp2
              refine ⟨⟨k + 1, by omega, by go_num, (fun j hj => hR j hj), below_drewN hb nq⟩, by simp [intOf]; omega⟩
            · have h5' : decide ((4 : Int) ≤ (k : Int)) = false := decide_eq_false (by omega)
              have hR' : Ringed wr.drew g m := hR
              have hb' := hb.drew
              have hse := self_walk k (by omega)
              rw [HXY.out] at hse
              simp only at hse
              have t1 : ¬ (0 < k) := by omega
              have t2 : ¬ ((0 : Int) < (k : Int)) := by omega
              clear hR' hb'
              go_wp2_with fail
              refine wp_region_quiet_lit (by kernel_rfl) (by kernel_rfl) (Box.out ?_)
              (refine q_step (fun K hK => ?_)
               go_simp
               first
                 | (refine hK _ ?_; clear hK K)
                 | (apply Exists.intro
                    refine ⟨fun _ => ?_, hK _ ?_⟩
                    fail
                    clear hK K))
              (refine q_step (fun K hK => ?_)
               go_simp
               first
                 | (refine hK _ ?_; clear hK K)
                 | (apply Exists.intro
                    refine ⟨fun _ => ?_, hK _ ?_⟩
                    fail
                    clear hK K))
              (refine q_step (fun K hK => ?_)
               go_simp
               first
                 | (refine hK _ ?_; clear hK K)
                 | (apply Exists.intro
                    refine ⟨fun _ => ?_, hK _ ?_⟩
                    fail
                    clear hK K))
              refine q_no (by kernel_rfl) ?_
              refine q_no (by kernel_rfl) ?_
              refine q_no (by kernel_rfl) ?_
              (refine q_step (fun K hK => ?_)
               go_simp
               first
                 | (refine hK _ ?_; clear hK K)
                 | (apply Exists.intro
                    refine ⟨fun _ => ?_, hK _ ?_⟩
                    fail
                    clear hK K))
              (refine q_step (fun K hK => ?_)
               go_simp
               first
                 | (refine hK _ ?_; clear hK K)
                 | (apply Exists.intro
                    refine ⟨fun _ => ?_, hK _ ?_⟩
                    fail
                    clear hK K))
              refine q_no (by kernel_rfl) ?_
              refine q_no (by kernel_rfl) ?_
              refine q_no (by kernel_rfl) ?_
              refine q_no (by kernel_rfl) ?_
              refine q_no (by kernel_rfl) ?_
              refine q_no (by kernel_rfl) ?_
              refine q_no (by kernel_rfl) ?_
              refine q_no (by kernel_rfl) ?_
              refine q_no (by kernel_rfl) ?_
              refine q_no (by kernel_rfl) ?_
              refine q_no (by kernel_rfl) ?_
              (refine q_step (fun K hK => ?_)
               go_simp
               first
                 | (refine hK _ ?_; clear hK K)
                 | (apply Exists.intro
                    refine ⟨fun _ => ?_, hK _ ?_⟩
                    fail
                    clear hK K))
              (refine q_step (fun K hK => ?_)
               go_simp
               first
                 | (refine hK _ ?_; clear hK K)
                 | (apply Exists.intro
                    refine ⟨fun _ => ?_, hK _ ?_⟩
                    fail
                    clear hK K))
              (refine q_step (fun K hK => ?_)
               go_simp
               first
                 | (refine hK _ ?_; clear hK K)
                 | (apply Exists.intro
                    refine ⟨fun _ => ?_, hK _ ?_⟩
                    fail
                    clear hK K))
              (refine q_step (fun K hK => ?_)
               go_simp
               first
                 | (refine hK _ ?_; clear hK K)
                 | (apply Exists.intro
                    refine ⟨fun _ => ?_, hK _ ?_⟩
                    fail
                    clear hK K))
              (refine q_step (fun K hK => ?_)
               go_simp
               first
                 | (refine hK _ ?_; clear hK K)
                 | (apply Exists.intro
                    refine ⟨fun _ => ?_, hK _ ?_⟩
                    fail
                    clear hK K))
              refine q_no (by kernel_rfl) ?_
              refine q_no (by kernel_rfl) ?_
              refine q_no (by kernel_rfl) ?_
              refine q_no (by kernel_rfl) ?_
              refine q_no (by kernel_rfl) ?_
              refine q_no (by kernel_rfl) ?_
              refine q_no (by kernel_rfl) ?_
              refine q_no (by kernel_rfl) ?_
              refine q_no (by kernel_rfl) ?_
              refine q_no (by kernel_rfl) ?_
              refine q_no (by kernel_rfl) ?_
              refine q_no (by kernel_rfl) ?_
              (refine q_step (fun K hK => ?_)
               go_simp
               first
                 | (refine hK _ ?_; clear hK K)
                 | (apply Exists.intro
                    refine ⟨fun _ => ?_, hK _ ?_⟩
                    fail
                    clear hK K))
              (refine q_step (fun K hK => ?_)
               go_simp
               first
                 | (refine hK _ ?_; clear hK K)
                 | (apply Exists.intro
                    refine ⟨fun _ => ?_, hK _ ?_⟩
                    fail
                    clear hK K))
              refine ⟨wpQuiet_nil ?_⟩
              intro _ hw'
              obtain ⟨nq, hw''⟩ := hw'
              subst hw''
              go_wp2
              refine ⟨⟨k + 1, by omega, by go_num, (fun j hj => hR j hj), below_drewN hb nq⟩, by simp [intOf]; omega⟩
    · obtain rfl : i = m := by omega
      go_wp2
      go_ret
      exact ⟨rfl, hb⟩

set_option maxRecDepth 100000 in
theorem lifted (os : Os) (started : os.Started) (H : Type) (enc : TypeId × Value → H) :
    ReturnsInHanded {} Try.checked os 3 .any (Rows.placeRingSpec.pre6 enc Try.prog Try.f3 Rows.placeRingRow.domain false) (Rows.placeRingSpec.post enc Try.prog Try.f3 false true false false) := by
  refine returnsInHanded_of_change_sized (C := Try.checked) own started (by kernel_rfl) Try.func3
    (ChangeSpec.witness6 (enc := enc) (C := Try.checked) false ⟨#[], #[.int .u8 0], []⟩ 8 (by kernel_rfl) (by kernel_rfl) (by kernel_rfl) (by kernel_rfl)) ?_
  intro W base args ds gs before hval0 hW hcnd hsz0 _
  have hval : ∀ (j : Nat) t v, Try.f3.params[j]? = some t → args[j]? = some v → Value.okWide Try.prog W .any base t v := hval0
  have hsz : (DataW.weightsEach Try.prog (Try.f3.params.toList ++ Rows.placeRingSpec.plain.varTypes Try.prog) (ds ++ gs)).all (· ≤ reachBytes) = true := hsz0
  have hW' := hW
  obtain ⟨p, q, hA0, hV, rfl, hfz, hnd⟩ := hW
  have hA : DataW.TrodAll enc Try.prog W 0 (fun _ => true) true Try.f3.params.toList args.toList ds p := hA0
  rw [Try.params3] at hA hval hsz
  obtain ⟨v0, vs0, d0, ds0, p0, q0, hargs, rfl, rfl, h0, r0⟩ := trodAll_cons hA
  obtain ⟨rfl, rfl, rfl⟩ := trodAll_nil r0
  obtain rfl : args = #[v0] := by cases args; simp_all
  obtain ⟨rfl, rfl⟩ := trodVars_none hV
  obtain ⟨a0, rfl, rfl, rfl, w0⟩ := open_int Try.underlying5 (hval 0 5 v0 rfl rfl) h0
  clear hA0 hval0
  refine (walk a0 W w0).mono fun e W' ⟨he, bel⟩ => ?_
  subst he
  exact ⟨_, rfl, _, _, _, [], _, [], hW', trodAll_mk1 (shut_bool Try.underlying4 _), (trodAll_cons_mk (shut_int Try.underlying5 w0) trodAll_mk0), rfl, bel.frame _, fun h => by cases h⟩

theorem over : Rows.placeRingRow.holds Try.pinned (OpenSpec.ofChange Rows.placeRingSpec) :=
  OpenClaim.holds_of_wide 3 Try.f3 rfl rfl rfl rfl rfl rfl rfl ⟨rfl, rfl, rfl, rfl, rfl⟩ rfl rfl rfl rfl rfl (by kernel_rfl) Try.func3 (by kernel_rfl)
    (of_decide_eq_true (by kernel_rfl)) (by unfold Func.isWrapper; first | (rw [if_pos (by decide +kernel)]; kernel_rfl) | (rw [if_neg (by decide +kernel)]; exact ⟨rfl, rfl⟩))
    (fun os started H enc _ => lifted os started H enc)

theorem proved : Rows.PlaceRingSaid := over
end Go.Proofs.Ytkjedffncphgmaa.placeRing
