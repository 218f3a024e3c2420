/-
  Proved: for every three instances and every bool the law DepsOrder returns true and leaves its inputs as they were; the card ties the three tables of the library that the row lists to the text of the program. No condition beyond the form itself (each text at most 2^47 - 4096 bytes; the listed tables start as that text lays them).
-/
import Derived.Test.YthcdbeggegmlmaaDoorDepsE
import Derived.Test.YthcdbeggegmlmaaDoorDepsK
import Derived.Test.YthcdbeggegmlmaaDoorDepsS
import Derived.Test.YthcdbeggegmlmaaDoorBox
import Derived.Test.YthcdbeggegmlmaaDoorTab
import Derived.Test.YthcdbeggegmlmaaDoorPair
import Derived.Test.YthcdbeggegmlmaaDoorCards
import Derived.Test.YthcdbeggegmlmaaDoorTie
import Derived.Deep.DeepHandedRow
import Derived.LaidMore
import Derived.SevenTiedAt
import Derived.WalkKit
import Derived.ProofKit
import Derived.OpenShut
import Derived.ShutString
import Derived.SizedLaws
import Derived.ChangeOld
import Derived.Below
import Derived.Carry
import Derived.Lib.SmallJoins
import Derived.Deep.SlicePairs
import Derived.SliceStrings
import Derived.ChangeSlices
namespace Go.Proofs.YthcdbeggegmlmaaDoor.depsOrder
open Go.ChangeShapes Go.WideShapes Go.ChangeAt Go.RowKit Go.Joins Go.Deep
open Go.ChangeMaps (open_string shut_string)
set_option linter.unusedVariables false

theorem own : ownKnob Tryd.prog.godebug = none := by kernel_rfl
theorem laidOut : laidOutB Tryd.prog = true := by kernel_rfl

def Tri (w : World) (a b c d e f : Int) (W : World) : Prop :=
  Bl.Pair W w.heap.size (.int .i64 a) (.int .i64 b) ∧ Bl.Pair W (w.heap.size + 1) (.int .i64 c) (.int .i64 d) ∧ Bl.Pair W (w.heap.size + 1 + 1) (.int .i64 e) (.int .i64 f) ∧ Below w.heap.size w W
section
variable {w W W' : World} {a b c d e f : Int}
theorem Tri.over (h : Tri w a b c d e f W) (hb : Below W.heap.size W W') : Tri w a b c d e f W' :=
  ⟨h.1.over hb, h.2.1.over hb, h.2.2.1.over hb, Bl.below_then h.2.2.2 hb (Nat.le_of_lt h.1.1)⟩
theorem Tri.put1 (h : Tri w a b c d e f W) (x y : Int) : Tri w x y c d e f ((W.setCell ⟨w.heap.size, 0, none⟩ (.int .i64 x)).setCell ⟨w.heap.size, 1, none⟩ (.int .i64 y)) :=
  ⟨h.1.put _ _, h.2.1.far2 _ (by omega) _ _, h.2.2.1.far2 _ (by omega) _ _, Bl.below_set2 h.2.2.2 (Nat.le_refl _) _ _⟩
theorem Tri.put2 (h : Tri w a b c d e f W) (x y : Int) : Tri w a b x y e f ((W.setCell ⟨w.heap.size + 1, 0, none⟩ (.int .i64 x)).setCell ⟨w.heap.size + 1, 1, none⟩ (.int .i64 y)) :=
  ⟨h.1.far2 _ (by omega) _ _, h.2.1.put _ _, h.2.2.1.far2 _ (by omega) _ _, Bl.below_set2 h.2.2.2 (by omega) _ _⟩
theorem Tri.put3 (h : Tri w a b c d e f W) (x y : Int) : Tri w a b c d x y ((W.setCell ⟨w.heap.size + 1 + 1, 0, none⟩ (.int .i64 x)).setCell ⟨w.heap.size + 1 + 1, 1, none⟩ (.int .i64 y)) :=
  ⟨h.1.far2 _ (by omega) _ _, h.2.1.far2 _ (by omega) _ _, h.2.2.1.put _ _, Bl.below_set2 h.2.2.2 (by omega) _ _⟩
end
theorem six_new (W : World) (a b c d e f : Int) (t : TypeId) : Dp.Ids (W.alloc (.cells #[.int .i64 a, .int .i64 b, .int .i64 c, .int .i64 d, .int .i64 e, .int .i64 f] t)) (some ⟨W.heap.size, 0, none⟩) 3 [(a, b), (c, d), (e, f)] :=
  ⟨by simp, by unfold maxLen; omega, fun j hj => by
    have hc : ∀ i v, (#[.int .i64 a, .int .i64 b, .int .i64 c, .int .i64 d, .int .i64 e, .int .i64 f] : Array Value)[i]? = some v → (W.alloc (.cells #[.int .i64 a, .int .i64 b, .int .i64 c, .int .i64 d, .int .i64 e, .int .i64 f] t)).cell? ⟨W.heap.size, i, none⟩ = some v := fun i v h => by
      rw [Lib.cell_of_heap (heap_alloc_new _ _)]; exact h
    refine ⟨⟨W.heap.size, 0, none⟩, rfl, by simp, ?_, ?_⟩
    · rw [Addr.add_lit]
      rcases j with _ | _ | _ | j
      · exact hc 0 _ rfl
      · exact hc 2 _ rfl
      · exact hc 4 _ rfl
      · simp at hj; omega
    · rw [Addr.add_lit]
      rcases j with _ | _ | _ | j
      · exact hc 1 _ rfl
      · exact hc 3 _ rfl
      · exact hc 5 _ rfl
      · simp at hj; omega⟩
theorem set_three (p q r : Dp.ID) : Dp.setD [p, q, r] = ((Dp.rightD p && Dp.rightD q && Dp.rightD r) && decide (Dp.orderD p q < 0) && decide (Dp.orderD q r < 0)) := by
  rw [Bool.eq_iff_iff]
  simp only [Dp.setD, Bool.and_eq_true, decide_eq_true_eq, Dp.order_lt]
  exact ⟨fun ⟨a, b, c, d, e⟩ => ⟨⟨⟨⟨a, c⟩, e⟩, b⟩, d⟩, fun ⟨⟨⟨⟨a, c⟩, e⟩, b⟩, d⟩ => ⟨a, b, c, d, e⟩⟩

set_option maxRecDepth 100000 in
set_option maxHeartbeats 4000000 in
theorem walk (a0_0 : Int) (a0_1 : Int) (a1_0 : Int) (a1_1 : Int) (a2_0 : Int) (a2_1 : Int) (a3 : Bool) (w : World) (w0_0 : (Lit.int .i64 a0_0).wf = true) (w0_1 : (Lit.int .i64 a0_1).wf = true) (w1_0 : (Lit.int .i64 a1_0).wf = true) (w1_1 : (Lit.int .i64 a1_1).wf = true) (w2_0 : (Lit.int .i64 a2_0).wf = true) (w2_1 : (Lit.int .i64 a2_1).wf = true) (ht : Bl.Tab w) :
    Calls Tryd.prog 7 #[.agg #[.int .i64 a0_0, .int .i64 a0_1], .agg #[.int .i64 a1_0, .int .i64 a1_1], .agg #[.int .i64 a2_0, .int .i64 a2_1], .bool a3] w fun e w' => e = .returned (.bool true) ∧ Below w.heap.size w w' := by
  obtain ⟨p1, ep1⟩ : ∃ v, (if a3 then a0_0.tmod 4 else a0_0) = v := ⟨_, rfl⟩
  obtain ⟨p2, ep2⟩ : ∃ v, (if a3 then a0_1.tmod 4 else a0_1) = v := ⟨_, rfl⟩
  obtain ⟨q1, eq1⟩ : ∃ v, (if a3 then a1_0.tmod 4 else a1_0) = v := ⟨_, rfl⟩
  obtain ⟨q2, eq2⟩ : ∃ v, (if a3 then a1_1.tmod 4 else a1_1) = v := ⟨_, rfl⟩
  obtain ⟨r1, er1⟩ : ∃ v, (if a3 then a2_0.tmod 4 else a2_0) = v := ⟨_, rfl⟩
  obtain ⟨r2, er2⟩ : ∃ v, (if a3 then a2_1.tmod 4 else a2_1) = v := ⟨_, rfl⟩
  obtain ⟨x, hx⟩ : ∃ x, Hid (Dp.orderD (p1, p2) (q1, q2) = x) := ⟨_, Lib.hid rfl⟩
  obtain ⟨y, hy⟩ : ∃ y, Hid (Dp.orderD (q1, q2) (r1, r2) = y) := ⟨_, Lib.hid rfl⟩
  obtain ⟨ra, hra⟩ : ∃ b, Hid (Dp.rightD (p1, p2) = b) := ⟨_, Lib.hid rfl⟩
  obtain ⟨rb, hrb⟩ : ∃ b, Hid (Dp.rightD (q1, q2) = b) := ⟨_, Lib.hid rfl⟩
  obtain ⟨rc, hrc⟩ : ∃ b, Hid (Dp.rightD (r1, r2) = b) := ⟨_, Lib.hid rfl⟩
  obtain ⟨z, hz⟩ : ∃ z, Hid (Dp.setD [(p1, p2), (q1, q2), (r1, r2)] = z) := ⟨_, Lib.hid rfl⟩
  have HZ : Hid (z = ((ra && rb && rc) && decide (x < 0) && decide (y < 0))) := Lib.hid (by
    rw [← hz.out, ← hx.out, ← hy.out, ← hra.out, ← hrb.out, ← hrc.out]; exact set_three _ _ _)
  obtain ⟨want, hw⟩ : ∃ b, Hid (decide (Dp.Lt (p1, p2) (q1, q2)) = b) := ⟨_, Lib.hid rfl⟩
  have HT := Lib.hid ht
  have E := Lib.hid (show _ ∧ _ ∧ _ ∧ _ ∧ _ ∧ _ from ⟨ep1, ep2, eq1, eq2, er1, er2⟩)
  clear ht ep1 ep2 eq1 eq2 er1 er2
  go_enter Tryd.func7, Tryd.ntmps7
  go_wp2_with fail
  have hT0 : Tri w a0_0 a0_1 a1_0 a1_1 a2_0 a2_1 (((w.alloc (.cells #[.int .i64 a0_0, .int .i64 a0_1] 24)).alloc (.cells #[.int .i64 a1_0, .int .i64 a1_1] 24)).alloc (.cells #[.int .i64 a2_0, .int .i64 a2_1] 24)) := Bl.three (Below.refl _ _)
  generalize (((w.alloc (.cells #[.int .i64 a0_0, .int .i64 a0_1] 24)).alloc (.cells #[.int .i64 a1_0, .int .i64 a1_1] 24)).alloc (.cells #[.int .i64 a2_0, .int .i64 a2_1] 24)) = v0 at *
  refine (Dp.examples_any v0 (HT.out.over hT0.2.2.2)).mono ?_
  rintro e v1 ⟨rfl, hb⟩
  have hT1 := hT0.over hb
  clear hb hT0
  go_upto_if 16 with fail
  go_cut [] (fun wx => Tri w p1 p2 q1 q2 r1 r2 wx)
  case first =>
    cases a3 with
    | false =>
      obtain ⟨rfl, rfl, rfl, rfl, rfl, rfl⟩ : a0_0 = p1 ∧ a0_1 = p2 ∧ a1_0 = q1 ∧ a1_1 = q2 ∧ a2_0 = r1 ∧ a2_1 = r2 := E.out
      go_wp2_with fail
      go_meet
      exact hT1
    | true =>
      obtain ⟨e1, e2, e3, e4, e5, e6⟩ : a0_0.tmod 4 = p1 ∧ a0_1.tmod 4 = p2 ∧ a1_0.tmod 4 = q1 ∧ a1_1.tmod 4 = q2 ∧ a2_0.tmod 4 = r1 ∧ a2_1.tmod 4 = r2 := E.out
      have ⟨A0, A1, A2, A3, A4⟩ := hT1.1
      have ⟨D0, D1, D2, D3, D4⟩ := hT1.2.1
      have ⟨R0, R1, R2, R3, R4⟩ := hT1.2.2.1
      have n1 : w.heap.size ≠ w.heap.size + 1 := by omega
      have n2 : w.heap.size ≠ w.heap.size + 1 + 1 := by omega
      have n3 : w.heap.size + 1 ≠ w.heap.size + 1 + 1 := by omega
      have HT1 := Lib.hid hT1
      clear hT1
      go_wp2_with fail
      go_meet
      exact ((HT1.out.put1 p1 p2).put2 q1 q2).put3 r1 r2
  case rest =>
    clear hT1 E
    have hT1 := hcut
    clear hcut
    have ⟨A0, A1, A2, A3, A4⟩ := hT1.1
    have ⟨D0, D1, D2, D3, D4⟩ := hT1.2.1
    go_wp2_with fail
    refine (Dp.order_any p1 p2 q1 q2 x hx.out _).mono ?_
    rintro e v2 ⟨rfl, hb⟩
    have hT2 := hT1.over hb
    clear hb hT1 A0 A1 A2 A3 A4 D0 D1 D2 D3 D4
    have ⟨A0, A1, A2, A3, A4⟩ := hT2.1
    have ⟨D0, D1, D2, D3, D4⟩ := hT2.2.1
    have ⟨R0, R1, R2, R3, R4⟩ := hT2.2.2.1
    have HT2 := Lib.hid hT2
    clear hT2
    go_upto_region 9 with fail
    go_cut [11] (fun s11 wx => s11 = .bool want ∧ wx = v2)
    case first =>
      have hww := hw.out
      by_cases h1 : p1 < q1
      · obtain rfl : want = true := by rw [← hww, decide_eq_true_eq]; exact .inl h1
        clear hww
        go_wp2_with fail
        go_meet
        exact ⟨rfl, rfl⟩
      · by_cases h2 : p1 = q1
        · by_cases h3 : p2 < q2
          · obtain rfl : want = true := by rw [← hww, decide_eq_true_eq]; exact .inr ⟨h2, h3⟩
            have h4 : (p1 == q1) = true := by simpa using h2
            clear hww h2
            go_wp2_with fail
            go_meet
            exact ⟨rfl, rfl⟩
          · obtain rfl : want = false := by rw [← hww, decide_eq_false_iff_not]; rintro (h | h); exact h1 h; exact h3 h.2
            have h4 : (p1 == q1) = true := by simpa using h2
            clear hww h2
            go_wp2_with fail
            go_meet
            exact ⟨rfl, rfl⟩
        · obtain rfl : want = false := by rw [← hww, decide_eq_false_iff_not]; rintro (h | h); exact h1 h; exact h2 h.1
          have h4 : (p1 == q1) = false := by simpa using h2
          clear hww h2
          go_wp2_with fail
          go_meet
          exact ⟨rfl, rfl⟩
    case rest =>
      obtain ⟨rfl, rfl⟩ := hcut
      go_upto_region 10 with fail
      go_cut [12] (fun s12 wx => s12 = .bool (ra && rb && rc) ∧ Tri w p1 p2 q1 q2 r1 r2 wx)
      case first =>
        go_wp2_with fail
        refine (Dp.right_any p1 p2 ra hra.out _).mono ?_
        rintro e v3 ⟨rfl, hb⟩
        have hT3 := HT2.out.over hb
        clear hb A0 A1 A2 A3 A4 D0 D1 D2 D3 D4 R0 R1 R2 R3 R4
        cases ra with
        | false =>
          go_wp2_with fail
          go_meet
          exact ⟨rfl, hT3⟩
        | true =>
          have ⟨D0, D1, D2, D3, D4⟩ := hT3.2.1
          go_wp2_with fail
          refine (Dp.right_any q1 q2 rb hrb.out _).mono ?_
          rintro e v4 ⟨rfl, hb⟩
          have hT4 := hT3.over hb
          clear hb D0 D1 D2 D3 D4 hT3
          cases rb with
          | false =>
            go_wp2_with fail
            go_meet
            exact ⟨rfl, hT4⟩
          | true =>
            have ⟨R0, R1, R2, R3, R4⟩ := hT4.2.2.1
            go_wp2_with fail
            refine (Dp.right_any r1 r2 rc hrc.out _).mono ?_
            rintro e v5 ⟨rfl, hb⟩
            have hT5 := hT4.over hb
            clear hb R0 R1 R2 R3 R4 hT4
            go_wp2_with fail
            go_meet
            exact ⟨rfl, hT5⟩
      case rest =>
        clear HT2 A0 A1 A2 A3 A4 D0 D1 D2 D3 D4 R0 R1 R2 R3 R4
        obtain ⟨rfl, hT6⟩ := hcut
        obtain ⟨al, hal⟩ : ∃ al, (ra && rb && rc) = al := ⟨_, rfl⟩
        have HZ2 : Hid (z = (al && decide (x < 0) && decide (y < 0))) := Lib.hid (by rw [← hal]; exact HZ.out)
        rw [hal]
        clear HZ hal
        have ⟨A0, A1, A2, A3, A4⟩ := hT6.1
        have ⟨D0, D1, D2, D3, D4⟩ := hT6.2.1
        have ⟨R0, R1, R2, R3, R4⟩ := hT6.2.2.1
        have HT6 := Lib.hid hT6
        clear hT6
        have hk0 : Tri w p1 p2 q1 q2 r1 r2 wc.drew := HT6.out.over (Below.refl _ _).drew
        have HC : Hid (∀ W, Tri w p1 p2 q1 q2 r1 r2 W → W.cell? ⟨w.heap.size, 0, none⟩ = some (.int .i64 p1) ∧ W.cell? ⟨w.heap.size, 1, none⟩ = some (.int .i64 p2) ∧ W.cell? ⟨w.heap.size + 1, 0, none⟩ = some (.int .i64 q1) ∧ W.cell? ⟨w.heap.size + 1, 1, none⟩ = some (.int .i64 q2) ∧ W.cell? ⟨w.heap.size + 1 + 1, 0, none⟩ = some (.int .i64 r1) ∧ W.cell? ⟨w.heap.size + 1 + 1, 1, none⟩ = some (.int .i64 r2)) :=
          Lib.hid fun W h => ⟨h.1.2.1, h.1.2.2.1, h.2.1.2.1, h.2.1.2.2.1, h.2.2.1.2.1, h.2.2.1.2.2.1⟩
        clear A0 A1 A2 A3 A4 D0 D1 D2 D3 D4 R0 R1 R2 R3 R4
        have hneg := Dp.order_neg (q1, q2) (p1, p2)
        rw [hx.out] at hneg
        have HNEG := Lib.hid hneg
        clear hneg
        rcases Dp.Lt.total (p1, p2) (q1, q2) with hlt | hlt | hlt
        · obtain rfl : x = -1 := by rw [← hx.out]; exact Dp.order_m1 hlt
          obtain rfl : want = true := by rw [← hw.out]; exact decide_eq_true hlt
          have qe : (p1 == q1 && p2 == q2) = false := by
            rw [Bool.eq_false_iff]; intro h; simp only [Bool.and_eq_true, beq_iff_eq] at h; rw [h.1, h.2] at hlt; exact Dp.Lt.irrefl _ hlt
          have hq : ∀ W : World, (binOp .eql 24 (.agg #[.int .i64 p1, .int .i64 p2]) (.agg #[.int .i64 q1, .int .i64 q2])).run Tryd.prog W = Result.ok (Value.bool false) W := fun W => by rw [Dp.run_eql 24 (.inl rfl), qe]
          clear hlt qe
          cases al with
          | false =>
            obtain rfl : z = false := by rw [HZ2.out]; rfl
            have ⟨A0, A1, A2, A3, A4⟩ := HT6.out.1
            have ⟨D0, D1, D2, D3, D4⟩ := HT6.out.2.1
            have ⟨R0, R1, R2, R3, R4⟩ := HT6.out.2.2.1
            clear hk0 HC
            go_wp2_with fail
            refine (Dp.order_any _ _ _ _ (1) (by first | exact HNEG.out | simpa using HNEG.out) _).mono ?_
            rintro e v7 ⟨rfl, hb⟩
            have HT7 := Lib.hid (HT6.out.over hb)
            clear A0 A1 A2 A3 A4 D0 D1 D2 D3 D4 R0 R1 R2 R3 R4
            clear hb
            have ⟨A0, A1, A2, A3, A4⟩ := HT7.out.1
            have ⟨D0, D1, D2, D3, D4⟩ := HT7.out.2.1
            have ⟨R0, R1, R2, R3, R4⟩ := HT7.out.2.2.1
            go_wp2_with fail
            have N8 := Lib.hid (six_new v7 p1 p2 q1 q2 r1 r2 24)
            have HT8 := Lib.hid (HT7.out.over (Rw.below_1 v7 (.cells #[.int .i64 p1, .int .i64 p2, .int .i64 q1, .int .i64 q2, .int .i64 r1, .int .i64 r2] 24)))
            generalize v7.alloc (.cells #[.int .i64 p1, .int .i64 p2, .int .i64 q1, .int .i64 q2, .int .i64 r1, .int .i64 r2] 24) = v8 at *
            clear A0 A1 A2 A3 A4 D0 D1 D2 D3 D4 R0 R1 R2 R3 R4
            refine (Dp.set_any _ _ hz.out _ _ _ N8.out).mono ?_
            rintro e v9 ⟨rfl, hb⟩
            have HT9 := Lib.hid (HT8.out.over hb)
            clear hb
            have ⟨D0, D1, D2, D3, D4⟩ := HT9.out.2.1
            have ⟨R0, R1, R2, R3, R4⟩ := HT9.out.2.2.1
            go_wp2_with fail
            refine (Dp.set_any [] true rfl none 0 _ (Dp.Ids.nil _)).mono ?_
            rintro e v11 ⟨rfl, hb⟩
            have HT11 := Lib.hid (HT9.out.over hb)
            clear hb
            go_wp2
            go_ret
            exact ⟨rfl, HT11.out.2.2.2⟩
          | true =>
            by_cases hy0 : y < 0
            · obtain rfl : z = true := by rw [HZ2.out]; simpa using hy0
              have ⟨A0, A1, A2, A3, A4⟩ := HT6.out.1
              have ⟨D0, D1, D2, D3, D4⟩ := HT6.out.2.1
              have ⟨R0, R1, R2, R3, R4⟩ := HT6.out.2.2.1
              clear hk0 HC
              go_wp2_with fail
              refine (Dp.order_any _ _ _ _ (1) (by first | exact HNEG.out | simpa using HNEG.out) _).mono ?_
              rintro e v7 ⟨rfl, hb⟩
              have HT7 := Lib.hid (HT6.out.over hb)
              clear A0 A1 A2 A3 A4 D0 D1 D2 D3 D4 R0 R1 R2 R3 R4
              clear hb
              have ⟨A0, A1, A2, A3, A4⟩ := HT7.out.1
              have ⟨D0, D1, D2, D3, D4⟩ := HT7.out.2.1
              have ⟨R0, R1, R2, R3, R4⟩ := HT7.out.2.2.1
              go_wp2_with fail
              have N8 := Lib.hid (six_new v7 p1 p2 q1 q2 r1 r2 24)
              have HT8 := Lib.hid (HT7.out.over (Rw.below_1 v7 (.cells #[.int .i64 p1, .int .i64 p2, .int .i64 q1, .int .i64 q2, .int .i64 r1, .int .i64 r2] 24)))
              generalize v7.alloc (.cells #[.int .i64 p1, .int .i64 p2, .int .i64 q1, .int .i64 q2, .int .i64 r1, .int .i64 r2] 24) = v8 at *
              clear A0 A1 A2 A3 A4 D0 D1 D2 D3 D4 R0 R1 R2 R3 R4
              refine (Dp.set_any _ _ hz.out _ _ _ N8.out).mono ?_
              rintro e v9 ⟨rfl, hb⟩
              have HT9 := Lib.hid (HT8.out.over hb)
              clear hb
              have ⟨D0, D1, D2, D3, D4⟩ := HT9.out.2.1
              have ⟨R0, R1, R2, R3, R4⟩ := HT9.out.2.2.1
              go_wp2_with fail
              refine (Dp.order_any _ _ _ _ y hy.out _).mono ?_
              rintro e v10 ⟨rfl, hb⟩
              have HT10 := Lib.hid (HT9.out.over hb)
              clear hb
              go_wp2_with fail
              refine (Dp.set_any [] true rfl none 0 _ (Dp.Ids.nil _)).mono ?_
              rintro e v11 ⟨rfl, hb⟩
              have HT11 := Lib.hid (HT10.out.over hb)
              clear hb
              go_wp2
              go_ret
              first | exact ⟨rfl, HT11.out.2.2.2⟩ | exact ⟨by show Ending.returned (Value.bool (!decide (y < 0))) = _; rw [decide_eq_false (by omega)]; rfl, HT11.out.2.2.2⟩
            · obtain rfl : z = false := by rw [HZ2.out]; simpa using hy0
              have ⟨A0, A1, A2, A3, A4⟩ := HT6.out.1
              have ⟨D0, D1, D2, D3, D4⟩ := HT6.out.2.1
              have ⟨R0, R1, R2, R3, R4⟩ := HT6.out.2.2.1
              clear hk0 HC
              go_wp2_with fail
              refine (Dp.order_any _ _ _ _ (1) (by first | exact HNEG.out | simpa using HNEG.out) _).mono ?_
              rintro e v7 ⟨rfl, hb⟩
              have HT7 := Lib.hid (HT6.out.over hb)
              clear A0 A1 A2 A3 A4 D0 D1 D2 D3 D4 R0 R1 R2 R3 R4
              clear hb
              have ⟨A0, A1, A2, A3, A4⟩ := HT7.out.1
              have ⟨D0, D1, D2, D3, D4⟩ := HT7.out.2.1
              have ⟨R0, R1, R2, R3, R4⟩ := HT7.out.2.2.1
              go_wp2_with fail
              have N8 := Lib.hid (six_new v7 p1 p2 q1 q2 r1 r2 24)
              have HT8 := Lib.hid (HT7.out.over (Rw.below_1 v7 (.cells #[.int .i64 p1, .int .i64 p2, .int .i64 q1, .int .i64 q2, .int .i64 r1, .int .i64 r2] 24)))
              generalize v7.alloc (.cells #[.int .i64 p1, .int .i64 p2, .int .i64 q1, .int .i64 q2, .int .i64 r1, .int .i64 r2] 24) = v8 at *
              clear A0 A1 A2 A3 A4 D0 D1 D2 D3 D4 R0 R1 R2 R3 R4
              refine (Dp.set_any _ _ hz.out _ _ _ N8.out).mono ?_
              rintro e v9 ⟨rfl, hb⟩
              have HT9 := Lib.hid (HT8.out.over hb)
              clear hb
              have ⟨D0, D1, D2, D3, D4⟩ := HT9.out.2.1
              have ⟨R0, R1, R2, R3, R4⟩ := HT9.out.2.2.1
              go_wp2_with fail
              refine (Dp.order_any _ _ _ _ y hy.out _).mono ?_
              rintro e v10 ⟨rfl, hb⟩
              have HT10 := Lib.hid (HT9.out.over hb)
              clear hb
              go_wp2_with fail
              refine (Dp.set_any [] true rfl none 0 _ (Dp.Ids.nil _)).mono ?_
              rintro e v11 ⟨rfl, hb⟩
              have HT11 := Lib.hid (HT10.out.over hb)
              clear hb
              go_wp2
              go_ret
              first | exact ⟨rfl, HT11.out.2.2.2⟩ | exact ⟨by show Ending.returned (Value.bool (!decide (y < 0))) = _; rw [decide_eq_false (by omega)]; rfl, HT11.out.2.2.2⟩
        · obtain rfl : x = 0 := by rw [← hx.out]; exact Dp.order_zero.2 hlt
          obtain rfl : want = false := by rw [← hw.out, decide_eq_false_iff_not, hlt]; exact Dp.Lt.irrefl _
          obtain rfl : z = false := by rw [HZ2.out]; simp
          obtain ⟨rfl, rfl⟩ : p1 = q1 ∧ p2 = q2 := by simpa using hlt
          have hq : ∀ W : World, (binOp .eql 24 (.agg #[.int .i64 p1, .int .i64 p2]) (.agg #[.int .i64 p1, .int .i64 p2])).run Tryd.prog W = Result.ok (Value.bool true) W := fun W => by rw [Dp.run_eql 24 (.inl rfl)]; simp
          clear hlt
          cases al with
          | false =>
            have ⟨A0, A1, A2, A3, A4⟩ := HT6.out.1
            have ⟨D0, D1, D2, D3, D4⟩ := HT6.out.2.1
            have ⟨R0, R1, R2, R3, R4⟩ := HT6.out.2.2.1
            clear hk0 HC
            go_wp2_with fail
            refine (Dp.order_any _ _ _ _ (0) (by first | exact HNEG.out | simpa using HNEG.out) _).mono ?_
            rintro e v7 ⟨rfl, hb⟩
            have HT7 := Lib.hid (HT6.out.over hb)
            clear A0 A1 A2 A3 A4 D0 D1 D2 D3 D4 R0 R1 R2 R3 R4
            clear hb
            have ⟨A0, A1, A2, A3, A4⟩ := HT7.out.1
            have ⟨D0, D1, D2, D3, D4⟩ := HT7.out.2.1
            have ⟨R0, R1, R2, R3, R4⟩ := HT7.out.2.2.1
            go_wp2_with fail
            have N8 := Lib.hid (six_new v7 p1 p2 p1 p2 r1 r2 24)
            have HT8 := Lib.hid (HT7.out.over (Rw.below_1 v7 (.cells #[.int .i64 p1, .int .i64 p2, .int .i64 p1, .int .i64 p2, .int .i64 r1, .int .i64 r2] 24)))
            generalize v7.alloc (.cells #[.int .i64 p1, .int .i64 p2, .int .i64 p1, .int .i64 p2, .int .i64 r1, .int .i64 r2] 24) = v8 at *
            clear A0 A1 A2 A3 A4 D0 D1 D2 D3 D4 R0 R1 R2 R3 R4
            refine (Dp.set_any _ _ hz.out _ _ _ N8.out).mono ?_
            rintro e v9 ⟨rfl, hb⟩
            have HT9 := Lib.hid (HT8.out.over hb)
            clear hb
            have ⟨D0, D1, D2, D3, D4⟩ := HT9.out.2.1
            have ⟨R0, R1, R2, R3, R4⟩ := HT9.out.2.2.1
            go_wp2_with fail
            refine (Dp.set_any [] true rfl none 0 _ (Dp.Ids.nil _)).mono ?_
            rintro e v11 ⟨rfl, hb⟩
            have HT11 := Lib.hid (HT9.out.over hb)
            clear hb
            go_wp2
            go_ret
            exact ⟨rfl, HT11.out.2.2.2⟩
          | true =>
            have ⟨A0, A1, A2, A3, A4⟩ := HT6.out.1
            have ⟨D0, D1, D2, D3, D4⟩ := HT6.out.2.1
            have ⟨R0, R1, R2, R3, R4⟩ := HT6.out.2.2.1
            clear hk0 HC
            go_wp2_with fail
            refine (Dp.order_any _ _ _ _ (0) (by first | exact HNEG.out | simpa using HNEG.out) _).mono ?_
            rintro e v7 ⟨rfl, hb⟩
            have HT7 := Lib.hid (HT6.out.over hb)
            clear A0 A1 A2 A3 A4 D0 D1 D2 D3 D4 R0 R1 R2 R3 R4
            clear hb
            have ⟨A0, A1, A2, A3, A4⟩ := HT7.out.1
            have ⟨D0, D1, D2, D3, D4⟩ := HT7.out.2.1
            have ⟨R0, R1, R2, R3, R4⟩ := HT7.out.2.2.1
            go_wp2_with fail
            have N8 := Lib.hid (six_new v7 p1 p2 p1 p2 r1 r2 24)
            have HT8 := Lib.hid (HT7.out.over (Rw.below_1 v7 (.cells #[.int .i64 p1, .int .i64 p2, .int .i64 p1, .int .i64 p2, .int .i64 r1, .int .i64 r2] 24)))
            generalize v7.alloc (.cells #[.int .i64 p1, .int .i64 p2, .int .i64 p1, .int .i64 p2, .int .i64 r1, .int .i64 r2] 24) = v8 at *
            clear A0 A1 A2 A3 A4 D0 D1 D2 D3 D4 R0 R1 R2 R3 R4
            refine (Dp.set_any _ _ hz.out _ _ _ N8.out).mono ?_
            rintro e v9 ⟨rfl, hb⟩
            have HT9 := Lib.hid (HT8.out.over hb)
            clear hb
            have ⟨D0, D1, D2, D3, D4⟩ := HT9.out.2.1
            have ⟨R0, R1, R2, R3, R4⟩ := HT9.out.2.2.1
            go_wp2_with fail
            refine (Dp.set_any [] true rfl none 0 _ (Dp.Ids.nil _)).mono ?_
            rintro e v11 ⟨rfl, hb⟩
            have HT11 := Lib.hid (HT9.out.over hb)
            clear hb
            go_wp2
            go_ret
            exact ⟨rfl, HT11.out.2.2.2⟩
        · obtain rfl : x = 1 := by rw [← hx.out]; exact Dp.order_1 hlt
          obtain rfl : want = false := by rw [← hw.out, decide_eq_false_iff_not]; exact hlt.asymm
          obtain rfl : z = false := by rw [HZ2.out]; simp
          have qe : (p1 == q1 && p2 == q2) = false := by
            rw [Bool.eq_false_iff]; intro h; simp only [Bool.and_eq_true, beq_iff_eq] at h; rw [h.1, h.2] at hlt; exact Dp.Lt.irrefl _ hlt
          have hq : ∀ W : World, (binOp .eql 24 (.agg #[.int .i64 p1, .int .i64 p2]) (.agg #[.int .i64 q1, .int .i64 q2])).run Tryd.prog W = Result.ok (Value.bool false) W := fun W => by rw [Dp.run_eql 24 (.inl rfl), qe]
          clear hlt qe
          cases al with
          | false =>
            have ⟨A0, A1, A2, A3, A4⟩ := HT6.out.1
            have ⟨D0, D1, D2, D3, D4⟩ := HT6.out.2.1
            have ⟨R0, R1, R2, R3, R4⟩ := HT6.out.2.2.1
            clear hk0 HC
            go_wp2_with fail
            refine (Dp.order_any _ _ _ _ (-1) (by first | exact HNEG.out | simpa using HNEG.out) _).mono ?_
            rintro e v7 ⟨rfl, hb⟩
            have HT7 := Lib.hid (HT6.out.over hb)
            clear A0 A1 A2 A3 A4 D0 D1 D2 D3 D4 R0 R1 R2 R3 R4
            clear hb
            have ⟨A0, A1, A2, A3, A4⟩ := HT7.out.1
            have ⟨D0, D1, D2, D3, D4⟩ := HT7.out.2.1
            have ⟨R0, R1, R2, R3, R4⟩ := HT7.out.2.2.1
            go_wp2_with fail
            have N8 := Lib.hid (six_new v7 p1 p2 q1 q2 r1 r2 24)
            have HT8 := Lib.hid (HT7.out.over (Rw.below_1 v7 (.cells #[.int .i64 p1, .int .i64 p2, .int .i64 q1, .int .i64 q2, .int .i64 r1, .int .i64 r2] 24)))
            generalize v7.alloc (.cells #[.int .i64 p1, .int .i64 p2, .int .i64 q1, .int .i64 q2, .int .i64 r1, .int .i64 r2] 24) = v8 at *
            clear A0 A1 A2 A3 A4 D0 D1 D2 D3 D4 R0 R1 R2 R3 R4
            refine (Dp.set_any _ _ hz.out _ _ _ N8.out).mono ?_
            rintro e v9 ⟨rfl, hb⟩
            have HT9 := Lib.hid (HT8.out.over hb)
            clear hb
            have ⟨D0, D1, D2, D3, D4⟩ := HT9.out.2.1
            have ⟨R0, R1, R2, R3, R4⟩ := HT9.out.2.2.1
            go_wp2_with fail
            refine (Dp.set_any [] true rfl none 0 _ (Dp.Ids.nil _)).mono ?_
            rintro e v11 ⟨rfl, hb⟩
            have HT11 := Lib.hid (HT9.out.over hb)
            clear hb
            go_wp2
            go_ret
            exact ⟨rfl, HT11.out.2.2.2⟩
          | true =>
            have ⟨A0, A1, A2, A3, A4⟩ := HT6.out.1
            have ⟨D0, D1, D2, D3, D4⟩ := HT6.out.2.1
            have ⟨R0, R1, R2, R3, R4⟩ := HT6.out.2.2.1
            clear hk0 HC
            go_wp2_with fail
            refine (Dp.order_any _ _ _ _ (-1) (by first | exact HNEG.out | simpa using HNEG.out) _).mono ?_
            rintro e v7 ⟨rfl, hb⟩
            have HT7 := Lib.hid (HT6.out.over hb)
            clear A0 A1 A2 A3 A4 D0 D1 D2 D3 D4 R0 R1 R2 R3 R4
            clear hb
            have ⟨A0, A1, A2, A3, A4⟩ := HT7.out.1
            have ⟨D0, D1, D2, D3, D4⟩ := HT7.out.2.1
            have ⟨R0, R1, R2, R3, R4⟩ := HT7.out.2.2.1
            go_wp2_with fail
            have N8 := Lib.hid (six_new v7 p1 p2 q1 q2 r1 r2 24)
            have HT8 := Lib.hid (HT7.out.over (Rw.below_1 v7 (.cells #[.int .i64 p1, .int .i64 p2, .int .i64 q1, .int .i64 q2, .int .i64 r1, .int .i64 r2] 24)))
            generalize v7.alloc (.cells #[.int .i64 p1, .int .i64 p2, .int .i64 q1, .int .i64 q2, .int .i64 r1, .int .i64 r2] 24) = v8 at *
            clear A0 A1 A2 A3 A4 D0 D1 D2 D3 D4 R0 R1 R2 R3 R4
            refine (Dp.set_any _ _ hz.out _ _ _ N8.out).mono ?_
            rintro e v9 ⟨rfl, hb⟩
            have HT9 := Lib.hid (HT8.out.over hb)
            clear hb
            have ⟨D0, D1, D2, D3, D4⟩ := HT9.out.2.1
            have ⟨R0, R1, R2, R3, R4⟩ := HT9.out.2.2.1
            go_wp2_with fail
            refine (Dp.set_any [] true rfl none 0 _ (Dp.Ids.nil _)).mono ?_
            rintro e v11 ⟨rfl, hb⟩
            have HT11 := Lib.hid (HT9.out.over hb)
            clear hb
            go_wp2
            go_ret
            exact ⟨rfl, HT11.out.2.2.2⟩

theorem laid_met (os : Os) : laidMet Tryd.prog Rows.depsOrderRow.laid ((World.doorLaid Tryd.prog 24 os).forCall (fun _ _ => 0) ⟨#[], #[.agg #[.int .i64 0, .int .i64 0], .agg #[.int .i64 0, .int .i64 0], .agg #[.int .i64 0, .int .i64 0], .bool false], []⟩).memory :=
  laidMet_of_run' 8 (by kernel_rfl) (by kernel_rfl)
theorem reads (os : Os) {H : Type} (enc : TypeId × Value → H) : ∃ places, DataW.whole enc Tryd.prog ((World.doorLaid Tryd.prog 24 os).forCall (fun _ _ => 0) ⟨#[], #[.agg #[.int .i64 0, .int .i64 0], .agg #[.int .i64 0, .int .i64 0], .agg #[.int .i64 0, .int .i64 0], .bool false], []⟩).memory Tryd.f7.params.toList Rows.depsOrderSpec.vars false (#[.agg #[.int .i64 0, .int .i64 0], .agg #[.int .i64 0, .int .i64 0], .agg #[.int .i64 0, .int .i64 0], .bool false] : Array Value).toList 8 = some ([.agg [.lit (.int .i64 0), .lit (.int .i64 0)], .agg [.lit (.int .i64 0), .lit (.int .i64 0)], .agg [.lit (.int .i64 0), .lit (.int .i64 0)], .lit (.bool false)], [], places) :=
  ⟨[], by kernel_rfl⟩

set_option maxRecDepth 100000 in
theorem lifted (os : Os) (started : os.Started) (H : Type) (enc : TypeId × Value → H) (F : Stop.Interp) :
    ReturnsInHanded {} Tryd.checked os 7 .any ((OpenSpec.ofChange Rows.depsOrderSpec).preRow enc Tryd.prog Tryd.f7 Rows.depsOrderRow.domain false Rows.depsOrderRow.laid) (((OpenSpec.ofChange Rows.depsOrderSpec).at F).post enc Tryd.prog Tryd.f7 false true false false) := by
  obtain ⟨places, hx⟩ := reads os enc
  refine returnsInHanded_of_row (C := Tryd.checked) (s := OpenSpec.ofChange Rows.depsOrderSpec) own started (by kernel_rfl) Tryd.func7
    (witness_row_at (enc := enc) (C := Tryd.checked) false (World.doorLaid Tryd.prog 24 os) #[.agg #[.int .i64 0, .int .i64 0], .agg #[.int .i64 0, .int .i64 0], .agg #[.int .i64 0, .int .i64 0], .bool false] rfl (by kernel_rfl) (by kernel_rfl) (by kernel_rfl)
      (OpenSpec.preRow_of_cond 8 hx (by kernel_rfl) (fun k hk => by cases hk) (by kernel_rfl) (laid_met os))) ?_
  intro W base args ds gs before hval0 hW _ _ hsz0 hL _ _
  have hval : ∀ (j : Nat) t v, Tryd.f7.params[j]? = some t → args[j]? = some v → Value.okWide Tryd.prog W .any base t v := hval0
  have hsz : (DataW.weightsEach Tryd.prog (Tryd.f7.params.toList ++ Rows.depsOrderSpec.plain.varTypes Tryd.prog) (ds ++ gs)).all (· ≤ reachBytes) = true := hsz0
  have hW' := hW
  obtain ⟨p, q, hA0, hV, rfl, hfz, hnd⟩ := hW
  have hA : DataW.TrodAll enc Tryd.prog W 0 (fun _ => true) true Tryd.f7.params.toList args.toList ds p := hA0
  rw [Tryd.params7] at hA hval hsz
  obtain ⟨v0, vs0, d0, ds0, p0, q0, hargs, rfl, rfl, h0, r0⟩ := trodAll_cons hA
  obtain ⟨v1, vs1, d1, ds1, p1, q1, rfl, rfl, rfl, h1, r1⟩ := trodAll_cons r0
  obtain ⟨v2, vs2, d2, ds2, p2, q2, rfl, rfl, rfl, h2, r2⟩ := trodAll_cons r1
  obtain ⟨v3, vs3, d3, ds3, p3, q3, rfl, rfl, rfl, h3, r3⟩ := trodAll_cons r2
  obtain ⟨rfl, rfl, rfl⟩ := trodAll_nil r3
  obtain rfl : args = #[v0, v1, v2, v3] := by cases args; simp_all
  obtain ⟨rfl, rfl⟩ := trodVars_none hV
  have k0 := h0
  have lt0 : ∀ x ∈ p0, x.block < W.heap.size := by obtain ⟨m, hm⟩ := k0; exact DataW.trod_lt m _ _ _ hm
  have k1 := h1
  have lt1 : ∀ x ∈ p1, x.block < W.heap.size := by obtain ⟨m, hm⟩ := k1; exact DataW.trod_lt m _ _ _ hm
  have k2 := h2
  have lt2 : ∀ x ∈ p2, x.block < W.heap.size := by obtain ⟨m, hm⟩ := k2; exact DataW.trod_lt m _ _ _ hm
  obtain ⟨c0_0, c0_1, y0_0, y0_1, m0, rfl, rfl, hp0, g0_0, g0_1⟩ := open_agg2 Tryd.underlying24 (by kernel_rfl) (by kernel_rfl) (hval 0 24 v0 rfl rfl) h0
  obtain ⟨a0_0, e0_0, rfl, w0_0⟩ := DataW.trod_int Tryd.underlying3 g0_0
  obtain rfl : c0_0 = .int .i64 a0_0 := by simpa using e0_0
  obtain ⟨a0_1, e0_1, rfl, w0_1⟩ := DataW.trod_int Tryd.underlying3 g0_1
  obtain rfl : c0_1 = .int .i64 a0_1 := by simpa using e0_1
  obtain ⟨c1_0, c1_1, y1_0, y1_1, m1, rfl, rfl, hp1, g1_0, g1_1⟩ := open_agg2 Tryd.underlying24 (by kernel_rfl) (by kernel_rfl) (hval 1 24 v1 rfl rfl) h1
  obtain ⟨a1_0, e1_0, rfl, w1_0⟩ := DataW.trod_int Tryd.underlying3 g1_0
  obtain rfl : c1_0 = .int .i64 a1_0 := by simpa using e1_0
  obtain ⟨a1_1, e1_1, rfl, w1_1⟩ := DataW.trod_int Tryd.underlying3 g1_1
  obtain rfl : c1_1 = .int .i64 a1_1 := by simpa using e1_1
  obtain ⟨c2_0, c2_1, y2_0, y2_1, m2, rfl, rfl, hp2, g2_0, g2_1⟩ := open_agg2 Tryd.underlying24 (by kernel_rfl) (by kernel_rfl) (hval 2 24 v2 rfl rfl) h2
  obtain ⟨a2_0, e2_0, rfl, w2_0⟩ := DataW.trod_int Tryd.underlying3 g2_0
  obtain rfl : c2_0 = .int .i64 a2_0 := by simpa using e2_0
  obtain ⟨a2_1, e2_1, rfl, w2_1⟩ := DataW.trod_int Tryd.underlying3 g2_1
  obtain rfl : c2_1 = .int .i64 a2_1 := by simpa using e2_1
  obtain ⟨a3, rfl, rfl, rfl⟩ := open_bool Tryd.underlying4 (hval 3 4 v3 rfl rfl) h3
  clear hA0 hval0
  refine (walk a0_0 a0_1 a1_0 a1_1 a2_0 a2_1 a3 W w0_0 w0_1 w1_0 w1_1 w2_0 w2_1 (Bl.tab_of hL)).mono fun e W' ⟨he, bel⟩ => ?_
  subst he
  exact ⟨_, rfl, _, _, _, [], _, [], hW', trodAll_mk1 (shut_bool Tryd.underlying4 _), (trodAll_cons_mk (Below.trod laidOut (by kernel_rfl) (of_decide_eq_true (by kernel_rfl)) k0 bel lt0) (trodAll_cons_mk (Below.trod laidOut (by kernel_rfl) (of_decide_eq_true (by kernel_rfl)) k1 bel lt1) (trodAll_cons_mk (Below.trod laidOut (by kernel_rfl) (of_decide_eq_true (by kernel_rfl)) k2 bel lt2) (trodAll_cons_mk (shut_bool Tryd.underlying4 _) trodAll_mk0)))), rfl, bel.frame _, fun h => by cases h⟩

theorem over : Rows.depsOrderRow.holds Tryd.pinned (OpenSpec.ofChange Rows.depsOrderSpec) :=
  OpenClaim.holds_of_cond 7 Tryd.f7 rfl rfl rfl rfl rfl rfl rfl ⟨rfl, rfl, rfl, rfl, rfl⟩ rfl rfl rfl rfl rfl (by kernel_rfl) Tryd.func7 (by kernel_rfl)
    (of_decide_eq_true (by kernel_rfl)) (by unfold Func.isWrapper; first | (rw [if_pos (by decide +kernel)]; kernel_rfl) | (rw [if_neg (by decide +kernel)]; exact ⟨rfl, rfl⟩))
    (fun os started H enc _ F => by rw [OpenClaim.pre_eq_preRow]; exact lifted os started H enc F)

/-- No parameter wants a stand-in. -/
theorem plain (f : FuncId) (fn : Func) (hf : Tryd.pinned.checked.prog.funcNamed "comitia/comitialaw08.DepsOrder" = some f) (hfn : Tryd.pinned.checked.prog.funcs[f]? = some fn) :
    false = Tryd.pinned.checked.prog.looks [] ∧ ∀ (j : Nat) t, fn.params[j]? = some t → Tryd.pinned.checked.prog.wantsStandIn t = false := by
  obtain rfl : f = 7 := Option.some.inj ((show Tryd.prog.funcNamed "comitia/comitialaw08.DepsOrder" = some 7 by kernel_rfl).symm.trans hf) |>.symm
  obtain rfl : fn = Tryd.f7 := (Option.some.inj (Tryd.func7.symm.trans hfn)).symm
  refine ⟨by kernel_rfl, fun j t ht => ?_⟩
  rw [Tryd.params7] at ht
  have hm : t ∈ [24, 24, 24, 4] := by simpa using Array.mem_of_getElem? ht
  have hall : ([24, 24, 24, 4].all fun u => !Tryd.prog.wantsStandIn u) = true := by kernel_rfl
  exact (show Tryd.prog.wantsStandIn t = false by simpa using List.all_eq_true.1 hall t hm)

theorem proved : Rows.DepsOrderCardSaid :=
  Claim7.holds_tied_plain_at .later [] _ _ _ _ over (fun _ h => by cases h) (by kernel_rfl) (fun _ h => by cases h) depsOrder_row_tie rfl ⟨rfl, rfl⟩ (by kernel_rfl) rfl plain (by kernel_rfl)
end Go.Proofs.YthcdbeggegmlmaaDoor.depsOrder
