/-
  Contracts: the law's own comparison of two lists; the chapter's examples, which hold. No condition.
-/
import Derived.Test.YtkjedffncphgmaaPlaceQ
namespace Go.Proofs.Ytkjedffncphgmaa.Pl
open Go.RowKit

/-- a place, as a cell -/
def cv (p : Nat × Nat) : Value := .complex .f64 p.1 p.2

theorem Spots.of_block {w : World} {g : Nat} {ps : List (Nat × Nat)} (h : w.heap[g]? = some (.cells (ps.map cv).toArray 26 (0, 0))) (hl : ps.length ≤ maxLen) : Spots w (some ⟨g, 0, none⟩) ps.length ps := by
  refine ⟨Nat.le_refl _, hl, fun j hj => ⟨g, 0, rfl, (Array.getElem?_eq_some_iff.1 h).1, ?_⟩⟩
  rw [Nat.zero_add, cell_of_row w g j _ _ (0, 0) h]
  simp [hj, cv]

theorem Spots.own {w : World} {B g n : Nat} {ps : List (Nat × Nat)} (h : w.ownsRow B 26 1 (.slice (some ⟨g, 0, none⟩) n n) n (ps.map cv)) : Spots w (some ⟨g, 0, none⟩) n ps ∧ ps.length = n := by
  have hl : ps.length = n := by have := h.1; simpa using this
  have h' := h
  rcases h.2 with ⟨h0, _⟩ | ⟨g', cap, cur, h0, hb, hg, hn, hc, _⟩
  · simp at h0
  · simp only [Value.slice.injEq, Option.some.injEq, Addr.mk.injEq, and_true, true_and] at h0
    obtain ⟨rfl, rfl⟩ := h0
    refine ⟨⟨by omega, hc, fun j hj => ⟨g, 0, rfl, (Array.getElem?_eq_some_iff.1 hg).1, ?_⟩⟩, hl⟩
    rw [Nat.zero_add, h'.cellAt j (by omega)]
    simp [hj, cv]

theorem Reads.of_block {w : World} {g : Nat} {xs : List Nat} (h : w.heap[g]? = some (.cells (nats xs).toArray 3 (0, 0))) (hl : xs.length ≤ maxLen) : Reads w (some ⟨g, 0, none⟩) xs.length xs := by
  refine ⟨Nat.le_refl _, hl, fun e => (by cases e), fun j hj => ⟨g, 0, rfl, (Array.getElem?_eq_some_iff.1 h).1, ?_⟩⟩
  rw [Nat.zero_add, cell_of_row w g j _ _ (0, 0) h]
  simp [hj, nats]

/-- what the walk reads at a place of a list -/
theorem Reads.at {w : World} {ao : Option Addr} {cap : Nat} {xs : List Nat} (h : Reads w ao cap xs) (j : Nat) (hj : j < xs.length) : ∃ g o, ao = some ⟨g, o, none⟩ ∧ w.cell? ⟨g, o + j, none⟩ = some (.int .i64 (xs[j] : Int)) := by
  obtain ⟨g, o, e, _, hc⟩ := h.lies j hj
  exact ⟨g, o, e, hc⟩

theorem same_yes (xs : List Nat) (ao bo : Option Addr) (ca cb : Nat) (hx : xs.length ≤ 1048576) (w : World) (ra : Reads w ao ca xs) (rb : Reads w bo cb xs) :
    Calls Try.prog 11 #[.slice ao xs.length ca, .slice bo xs.length cb] w fun e w' => e = .returned (.bool true) ∧ Below w.heap.size w w' := by
  have RA := Lib.hid ra
  have RB := Lib.hid rb
  clear ra rb
  go_enter Try.func11, Try.ntmps11
  go_wp2_with fail
  go_loopw [5] (fun i W => ∃ k : Nat, k ≤ xs.length ∧ i = .int .i64 (k : Int) ∧ Below w.heap.size w W) (fun i _ => xs.length - (intOf i).toNat)
  case atStart => exact ⟨0, Nat.zero_le _, rfl, Below.refl _ _⟩
  case round =>
    obtain ⟨k, hk, rfl, hb⟩ := hrel
    by_cases hlt : k < xs.length
    · obtain ⟨g, o, rfl, c1⟩ := (RA.out.kept hb).at k hlt
      obtain ⟨g', o', rfl, c2⟩ := (RB.out.kept hb).at k hlt
      generalize xs[k] = x at *
      have hbd := hb.drew
      go_wp2_with fail
      go_region_held3 (fun w' => w'.cell? ⟨g, o + k, none⟩ = some (.int .i64 (x : Int)) ∧ w'.cell? ⟨g', o' + k, none⟩ = some (.int .i64 (x : Int))) (go_keep) (fail)
      go_wp2
      refine ⟨⟨k + 1, by omega, by go_num, hbd⟩, by simp [intOf]; omega⟩
    · obtain rfl : k = xs.length := by omega
      go_wp2
      go_ret
      exact ⟨rfl, hb⟩

/-- a place of whole parts -/
def wpl (z : Int × Int) : Nat × Nat := (fb z.1, fb z.2)
def Small (z : Int × Int) : Prop := -16 ≤ z.1 ∧ z.1 ≤ 16 ∧ -16 ≤ z.2 ∧ z.2 ≤ 16
instance (z : Int × Int) : Decidable (Small z) := by unfold Small; infer_instance
/-- the square of how far two are -/
def dist (a c : Int × Int) : Nat := (a.1 - c.1).natAbs * (a.1 - c.1).natAbs + (a.2 - c.2).natAbs * (a.2 - c.2).natAbs

theorem far_whole (a c : Int × Int) (ha : Small a) (hc : Small c) (w : World) :
    Calls Try.prog 9 #[.complex .f64 (wpl a).1 (wpl a).2, .complex .f64 (wpl c).1 (wpl c).2] w fun e w' => e = .returned (.int .u64 (dist a c : Int)) ∧ w = w' := by
  obtain ⟨a1, a2, a3, a4⟩ := ha
  obtain ⟨c1, c2, c3, c4⟩ := hc
  exact far_any _ _ _ _ _ (good a1 a2) (good a3 a4) (good c1 c2) (good c3 c4) (farBits rfl rfl a1 a2 a3 a4 c1 c2 c3 c4) w

theorem fars_whole (zs : List (Int × Int)) (m : Int × Int) (hz : ∀ z ∈ zs, Small z) (hm : Small m) : Fars (zs.map wpl) (wpl m) (fun i => dist (zs.getD i (0, 0)) m) := by
  intro i hi W
  have hi' : i < zs.length := by simpa using hi
  have e : (zs.map wpl)[i] = wpl (zs.getD i (0, 0)) := by simp [hi']
  rw [e]
  exact far_whole _ _ (by rw [List.getD_eq_getElem?_getD, List.getElem?_eq_getElem hi']; exact hz _ (List.getElem_mem hi')) hm W

theorem laid_ring (m : Nat) : laid m m = ((List.range m).map fun k => wpl (pt k)).map cv := by
  apply List.ext_getElem
  · simp [laid]
  · intro i h1 h2
    have : i < m := by simpa [laid] using h1
    simp [laid, this, ptv, cv, wpl]

theorem ex_places : [((0 : Nat), (0 : Nat)), (4613937818241073152, 0), (0, 4607182418800017408), (0, 13830554455654793216)] = [((0 : Int), (0 : Int)), (3, 0), (0, 1), (0, -1)].map wpl := by decide +kernel

theorem nf_ex (d : Nat → Nat) (h1 : d 1 = 9) (h2 : d 2 = 1) (h3 : d 3 = 1) : nf d 4 (round 4 1) = [2, 3, 1] := by
  rw [show round 4 1 = [1, 2, 3] from rfl]
  simp [nf, mg, h1, h2, h3]

theorem order_ex (w : World) :
    Calls Try.prog 10 #[.slice (some ⟨w.heap.size, 0, none⟩) 4 4, .int .i64 0] (w.alloc (.cells #[.complex .f64 0 0, .complex .f64 4613937818241073152 0, .complex .f64 0 4607182418800017408, .complex .f64 0 13830554455654793216] 26)) fun e w' => ∃ v cv, e = .returned (.slice v 3 cv) ∧ Reads w' v cv [2, 3, 1] ∧ Below w.heap.size w w' := by
  have hf := fars_whole [(0, 0), (3, 0), (0, 1), (0, -1)] (0, 0) (by decide) (by decide)
  rw [← ex_places] at hf
  have h := order_in [((0 : Nat), (0 : Nat)), (4613937818241073152, 0), (0, 4607182418800017408), (0, 13830554455654793216)] 0 (by decide) _ (by decide) (by
    have e : wpl (0, 0) = ((0 : Nat), (0 : Nat)) := by decide +kernel
    rw [e] at hf
    exact hf) (some ⟨w.heap.size, 0, none⟩) 4 (w.alloc (.cells #[.complex .f64 0 0, .complex .f64 4613937818241073152 0, .complex .f64 0 4607182418800017408, .complex .f64 0 13830554455654793216] 26)) (Spots.of_block (ps := [((0 : Nat), (0 : Nat)), (4613937818241073152, 0), (0, 4607182418800017408), (0, 13830554455654793216)]) (heap_alloc_new w _) (by decide))
  refine h.mono ?_
  rintro e w' ⟨v, c, rfl, hr, hb⟩
  refine ⟨v, c, rfl, ?_, ((Below.refl w.heap.size w).alloc (Nat.le_refl _) _).trans (hb.mono (by simp))⟩
  have e := nf_ex (fun i => dist (([((0 : Int), (0 : Int)), (3, 0), (0, 1), (0, -1)]).getD i (0, 0)) (0, 0)) (by decide) (by decide) (by decide)
  rw [← e]
  exact hr

theorem far_ex (w : World) : Calls Try.prog 9 #[.complex .f64 4607182418800017408 4607182418800017408, .complex .f64 4616189618054758400 4617315517961601024] w fun e w' => e = .returned (.int .u64 25) ∧ w = w' := by
  have h := far_whole (1, 1) (4, 5) (by decide) (by decide) w
  rw [show wpl (1, 1) = (4607182418800017408, 4607182418800017408) by decide +kernel, show wpl (4, 5) = (4616189618054758400, 4617315517961601024) by decide +kernel] at h
  exact h

theorem spin_ex (w : World) : Calls Try.prog 8 #[.complex .f64 4607182418800017408 4611686018427387904, .int .i64 1] w fun e w' => e = .returned (.complex .f64 13835058055282163712 4607182418800017408) ∧ w = w' := by
  have h := spin_any 1 2 1 1 (by decide +kernel) (by decide) (by decide) (by decide) (by decide) (by decide) w
  rw [show fb 1 = 4607182418800017408 by decide +kernel, show fb 2 = 4611686018427387904 by decide +kernel, show fb (tx 1 1 2).1 = 13835058055282163712 by decide +kernel, show fb (tx 1 1 2).2 = 4607182418800017408 by decide +kernel] at h
  exact h

theorem right_zero (w : World) : Calls Try.prog 7 #[.complex .f64 0 0] w fun e w' => e = .returned (.bool true) ∧ w = w' := by
  have h := good (z := 0) (by decide) (by decide)
  rw [fb_zero] at h
  exact right_any 0 0 h h w

set_option maxRecDepth 100000 in
theorem examples_any (w : World) : Calls Try.prog 5 #[] w fun e w' => e = .returned (.bool true) ∧ Below w.heap.size w w' := by
  go_enter Try.func5, Try.ntmps5
  go_wp2_with fail
  refine (ring_any 5 w).mono ?_
  rintro e w1 ⟨g, rfl, hown, hb1⟩
  rw [show many 5 = 5 from rfl, laid_ring] at *
  go_wp2_with fail
  refine (order_ex _).mono ?_
  rintro e w2 ⟨v, c, rfl, hr, hb2⟩
  have hb3 := hb1.trans (hb2.mono hb1.size)
  have hown2 := hown.kept (w' := w2) (row := none) ⟨hb2.os, hb2.tape, hb2.output, hb2.size, fun k hk _ => hb2.block k hk⟩ (by simp [Value.ownBlock])
  go_wp2_with fail
  have hb4 : Below w2.heap.size w2 (w2.alloc (.cells #[.int .i64 2, .int .i64 3, .int .i64 1] 3)) := (Below.refl _ _).alloc (Nat.le_refl _) _
  refine (same_yes [2, 3, 1] v (some ⟨w2.heap.size, 0, none⟩) c 3 (by decide) _ (hr.kept hb4) (Reads.of_block (xs := [2, 3, 1]) (heap_alloc_new w2 _) (by decide))).mono ?_
  rintro e w3 ⟨rfl, hb5⟩
  have hb6 := hb4.trans (hb5.mono hb4.size)
  have hb7 := hb3.trans (hb6.mono hb3.size)
  have hown3 := hown2.kept (w' := w3) (row := none) ⟨hb6.os, hb6.tape, hb6.output, hb6.size, fun k hk _ => hb6.block k hk⟩ (by simp [Value.ownBlock])
  clear hown hown2 hb1 hb2 hb3 hb4 hb5 hb6 hr
  have cell : ∀ j x y, j < 5 → wpl (pt j) = (x, y) → w3.cell? ⟨g, j, none⟩ = some (.complex .f64 x y) := by
    intro j x y hj e
    rw [hown3.cellAt j (by omega)]
    simp [hj, e, cv]
  have c1 := cell 1 0 4607182418800017408 (by decide) (by decide +kernel)
  have c2 := cell 2 13830554455654793216 0 (by decide) (by decide +kernel)
  have c4 := cell 4 4611686018427387904 0 (by decide) (by decide +kernel)
  have o1 : FloatKind.f64.format.order 0 0 = some .eq := by decide +kernel
  have o2 : FloatKind.f64.format.order 4607182418800017408 4607182418800017408 = some .eq := by decide +kernel
  have o3 : FloatKind.f64.format.order 13830554455654793216 13830554455654793216 = some .eq := by decide +kernel
  have o4 : FloatKind.f64.format.order 4611686018427387904 4611686018427387904 = some .eq := by decide +kernel
  have o5 : FloatKind.f64.format.order 13835058055282163712 13835058055282163712 = some .eq := by decide +kernel
  clear cell hown3
  go_wp2_with fail
  refine (far_ex _).mono ?_
  rintro e w' ⟨rfl, rfl⟩
  go_wp2_with fail
  refine (spin_ex _).mono ?_
  rintro e w' ⟨rfl, rfl⟩
  go_wp2_with fail
  refine (right_zero _).mono ?_
  rintro e w' ⟨rfl, rfl⟩
  go_wp2_with fail
  refine (right_half 0 _).mono ?_
  rintro e w' ⟨rfl, rfl⟩
  go_wp2_with fail
  refine (far_half 0 0 0 _).mono ?_
  rintro e w' ⟨rfl, rfl⟩
  go_wp2
  go_ret
  exact ⟨rfl, hb7⟩
end Go.Proofs.Ytkjedffncphgmaa.Pl
