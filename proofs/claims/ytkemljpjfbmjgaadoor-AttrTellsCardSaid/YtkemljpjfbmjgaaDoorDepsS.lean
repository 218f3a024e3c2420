/-
  Contracts: are two lists the same, and is a list the document's. Conditions: as each theorem says.
-/
import Derived.Test.YtkemljpjfbmjgaaDoorDepsW
import Derived.BigQuiet
namespace Go.Proofs.YtkemljpjfbmjgaaDoor.Dp
open Go.RowKit

theorem add_next (x : Addr) (k : Nat) : (⟨(x.add k).block, (x.add k).off + 1, none⟩ : Addr) = x.add (k + 1) := by
  unfold Addr.add
  by_cases h : k = 0
  · subst h; simp
  · simp [h, Nat.add_assoc]
theorem Ids.at {w : World} {ao : Option Addr} {cap : Nat} {xs : List ID} (h : Ids w ao cap xs) {j : Nat} (hj : j < xs.length) :
    ∃ (x : Addr) (p q : Int), xs.getD j (0, 0) = (p, q) ∧ ao = some x ∧ x.block < w.heap.size ∧ w.cell? (x.add (j * 2)) = some (.int .i64 p) ∧ w.cell? ⟨(x.add (j * 2)).block, (x.add (j * 2)).off + 1, none⟩ = some (.int .i64 q) := by
  obtain ⟨x, e, hx, h0, h1⟩ := h.lies j hj
  refine ⟨x, xs[j].1, xs[j].2, ?_, e, hx, h0, by rw [add_next]; exact h1⟩
  rw [List.getD_eq_getElem?_getD, List.getElem?_eq_getElem hj]; rfl
theorem below_drewN {B : Nat} {w W : World} (h : Below B w W) (n : Nat) : Below B w (W.drewN n) := h.trans (by induction n with | zero => exact Below.refl _ _ | succ n ih => exact ih.drew)
theorem same_at {xs ys : List ID} (hl : xs.length = ys.length) : xs = ys ↔ ∀ j, j < xs.length → xs.getD j (0, 0) = ys.getD j (0, 0) := by
  constructor
  · rintro rfl _ _; rfl
  · intro h
    refine List.ext_getElem hl fun j h1 h2 => ?_
    have := h j h1
    rwa [List.getD_eq_getElem?_getD, List.getElem?_eq_getElem h1, List.getD_eq_getElem?_getD, List.getElem?_eq_getElem h2] at this
/-- the first k of two lists are the same -/
def SameTo (xs ys : List ID) (k : Nat) : Prop := ∀ j, j < k → xs.getD j (0, 0) = ys.getD j (0, 0)
theorem SameTo.step {xs ys : List ID} {k : Nat} (h : SameTo xs ys k) (e : xs.getD k (0, 0) = ys.getD k (0, 0)) : SameTo xs ys (k + 1) := fun j hj => by
  rcases Nat.lt_or_ge j k with hk | hk
  · exact h j hk
  · rwa [show j = k by omega]

end Go.Proofs.YtkemljpjfbmjgaaDoor.Dp
