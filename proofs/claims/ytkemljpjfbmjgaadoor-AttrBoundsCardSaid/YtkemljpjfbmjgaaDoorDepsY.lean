/-
  Contracts: the document's Add and Join. Conditions: as each theorem says.
-/
import Derived.Test.YtkemljpjfbmjgaaDoorDepsV
import Derived.Laws.AppendOwnNone
namespace Go.Proofs.YtkemljpjfbmjgaaDoor.Dp
open Go.RowKit

/-- l[:k] -/
theorem Idz.front {w : World} {ao : Option Addr} {cap k : Nat} {xs : List ID} (h : Idz w ao cap xs) (hk : k ≤ xs.length) : Idz w ao cap (xs.take k) :=
  ⟨⟨by rw [List.length_take]; have := h.le; omega, h.capl, fun j hj => by
    rw [List.length_take] at hj
    obtain ⟨x, e, hx, h0, h1⟩ := h.lies j (by omega)
    exact ⟨x, e, hx, by simpa using h0, by simpa using h1⟩⟩, h.empty⟩
set_option maxRecDepth 100000 in
/-- l[k:] -/
theorem Idz.back {w : World} {x : Addr} {cap k : Nat} {xs : List ID} (h : Idz w (some x) cap xs) (hk : k ≤ xs.length) :
    ∃ y : Addr, (∀ W : World, (Instr.slice 34 (.slice (some x) xs.length cap) (some (.int .i64 (k : Int))) none none).run Tryd.prog W = .ok (.slice (some y) (xs.length - k) (cap - k)) W) ∧ ∀ W, Below w.heap.size w W → Idz W (some y) (cap - k) (xs.drop k) := by
  have hc : (if cap = k then some x else (some x).map (·.add (k * 2))) = some (if cap = k then x else x.add (k * 2)) := by split <;> rfl
  refine ⟨if cap = k then x else x.add (k * 2), fun W => ?_, fun W hW => ?_⟩
  · rw [run_slice_l W 34 (some x) xs.length cap Tryd.underlying34 .i64 k (by omega) (by have := h.le; omega)]
    obtain ⟨i0, hi, hz0, hz1, hz2⟩ := info_parts (P := Tryd.prog) (e := 72) (z := .agg #[.int .i64 0, .int .i64 0]) (size := 2) (bytes := 16) (by kernel_rfl)
    have he : Tryd.prog.elem 34 = 72 := by kernel_rfl
    rw [he, ← hc]
    simp [sizeOf, typeInfo, hi, hz1, Result.andThen, sliced]
  · have h := h.kept hW
    have hle := h.le
    refine ⟨⟨by rw [List.length_drop]; omega, by have := h.capl; omega, fun j hj => ?_⟩, fun e => by cases e⟩
    rw [List.length_drop] at hj
    rw [if_neg (by omega)]
    obtain ⟨y, e, hy, h0, h1⟩ := h.lies (k + j) (by omega)
    obtain rfl := Option.some.inj e
    refine ⟨x.add (k * 2), rfl, by rw [block_of_add]; exact hy, ?_, ?_⟩
    · rw [add_add, show k * 2 + j * 2 = (k + j) * 2 by omega]; simpa using h0
    · rw [add_add, show k * 2 + (j * 2 + 1) = (k + j) * 2 + 1 by omega]; simpa using h1
/-- how many are below -/
def belowN (xs : List ID) (t : ID) : Nat := (xs.takeWhile fun y => decide (Lt y t)).length
theorem front_is (xs : List ID) (t : ID) : xs.take (belowN xs t) = xs.takeWhile fun y => decide (Lt y t) :=
  (congrArg (List.take (belowN xs t)) (List.takeWhile_append_dropWhile (p := fun y => decide (Lt y t)) (l := xs)).symm).trans (List.take_left' rfl)
theorem back_is (xs : List ID) (t : ID) : xs.drop (belowN xs t) = xs.dropWhile fun y => decide (Lt y t) :=
  (congrArg (List.drop (belowN xs t)) (List.takeWhile_append_dropWhile (p := fun y => decide (Lt y t)) (l := xs)).symm).trans (List.drop_left' rfl)
theorem belowN_le (xs : List ID) (t : ID) : belowN xs t ≤ xs.length := by
  unfold belowN
  have := congrArg List.length (List.takeWhile_append_dropWhile (p := fun y => decide (Lt y t)) (l := xs))
  rw [List.length_append] at this
  omega
/-- what stands ahead of there is below, what stands there is not -/
theorem belowN_lt : ∀ (xs : List ID) (t : ID) (k : Nat), k < belowN xs t → Lt (xs.getD k (0, 0)) t
  | [], _, _, h => by simp [belowN] at h
  | x :: xs, t, k, h => by
    unfold belowN at h
    rw [List.takeWhile_cons] at h
    split at h
    · rename_i hx
      rcases k with _ | k
      · simpa using hx
      · exact belowN_lt xs t k (by simpa [belowN] using h)
    · simp at h
theorem belowN_at : ∀ (xs : List ID) (t : ID), belowN xs t < xs.length → ¬ Lt (xs.getD (belowN xs t) (0, 0)) t
  | [], _, h => by simp at h
  | x :: xs, t, h => by
    have e : belowN (x :: xs) t = if Lt x t then belowN xs t + 1 else 0 := by
      unfold belowN
      rw [List.takeWhile_cons]
      by_cases hx : Lt x t <;> simp [hx]
    by_cases hx : Lt x t
    · rw [e, if_pos hx] at h ⊢
      exact belowN_at xs t (by simpa using h)
    · rw [e, if_neg hx]
      exact hx

/-- append(nil, l...) -/
theorem copy_own {xs : List ID} {x : Addr} {ca : Nat} {w : World} (ra : Idz w (some x) ca xs) : (∀ j u, (cellsD xs)[j]? = some u → w.cell? (x.add j) = some u) := ra.toIds.news x rfl
end Go.Proofs.YtkemljpjfbmjgaaDoor.Dp
