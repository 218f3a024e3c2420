/-
  Values in a block of their own, however many: made, kept, overwritten. Conditions: as each theorem says.
-/
import Derived.WalkKit
import Derived.Below
import Derived.WalkSmall
import Derived.Deep.Draws
namespace Go.Proofs.YtkemljpjfbmjgaaDoor.Rw
open Go.RowKit

/-- block g holds the values of l, none of them frozen -/
def Row (W : World) (g : Nat) (l : List Value) : Prop :=
  g < W.heap.size ∧ ∀ i v, l[i]? = some v → W.cell? ⟨g, i, none⟩ = some v ∧ W.frozen? ⟨g, i, none⟩ = false

section
variable {w w' : World} {g B : Nat} {l : List Value}
theorem Row.newAt (w : World) (l : List Value) (t : TypeId) (g : Nat) (h : g = w.heap.size) : Row (w.alloc (.cells l.toArray t)) g l := by
  subst h
  refine ⟨by simp, fun i v hi => ⟨?_, by simp⟩⟩
  simpa using hi
theorem Row.keep (h : Row w g l) (hb : Below B w w') (hlt : g < B) : Row w' g l :=
  ⟨Nat.lt_of_lt_of_le h.1 hb.size, fun i v hi => ⟨by rw [hb.cell (p := ⟨g, i, none⟩) hlt, (h.2 i v hi).1], by rw [hb.frozen (p := ⟨g, i, none⟩) hlt, (h.2 i v hi).2]⟩⟩
theorem Row.over (h : Row w g l) (hb : Below w.heap.size w w') : Row w' g l := h.keep hb h.1
theorem Row.alloc (h : Row w g l) (o : Obj) : Row (w.alloc o) g l := h.keep ((Below.refl _ _).alloc (Nat.le_refl _) o) h.1
theorem Row.drew (h : Row w g l) : Row w.drew g l := h
theorem Row.far (h : Row w g l) (p : Addr) (hp : p.block ≠ g) (u : Value) : Row (w.setCell p u) g l := by
  have e : ∀ i, p ≠ (⟨g, i, none⟩ : Addr) := fun i e => hp (by rw [e])
  exact ⟨by simpa [World.setCell] using h.1, fun i v hi => ⟨by rw [World.cell?_setCell_other _ _ _ _ (e i), (h.2 i v hi).1], by rw [World.frozen?_setCell, (h.2 i v hi).2]⟩⟩
theorem Row.set (h : Row w g l) (i : Nat) (u v : Value) (hi : l[i]? = some v) (l' : List Value) (hl : l.set i u = l') : Row (w.setCell ⟨g, i, none⟩ u) g l' := by
  subst hl
  refine ⟨by simpa [World.setCell] using h.1, fun j x hj => ⟨?_, by rw [World.frozen?_setCell]; (by_cases e : i = j); (· subst e; exact (h.2 i v hi).2); (· rw [List.getElem?_set_ne e] at hj; exact (h.2 j x hj).2)⟩⟩
  by_cases e : i = j
  · subst e
    have hlt : i < l.length := (List.getElem?_eq_some_iff.1 hi).1
    rw [List.getElem?_set_self hlt] at hj
    obtain rfl : u = x := by simpa using hj
    exact World.cell?_setCell_same _ _ _ (h.2 i v hi).1
  · rw [List.getElem?_set_ne e] at hj
    rw [World.cell?_setCell_other _ _ _ _ (by simp), (h.2 j x hj).1]
end
theorem below_1 (w : World) (o : Obj) : Below w.heap.size w (w.alloc o) := (Below.refl _ _).alloc (Nat.le_refl _) o
theorem below_2 (w : World) (o p : Obj) : Below w.heap.size w ((w.alloc o).alloc p) := (below_1 w o).alloc (by simp) p
theorem below_3 (w : World) (o p q : Obj) : Below w.heap.size w (((w.alloc o).alloc p).alloc q) := (below_2 w o p).alloc (by simp; omega) q
theorem below_4 (w : World) (o p q r : Obj) : Below w.heap.size w ((((w.alloc o).alloc p).alloc q).alloc r) := (below_3 w o p q).alloc (by simp; omega) r
theorem below_then {B : Nat} {w w1 w2 : World} (h : Below B w w1) (k : Below w1.heap.size w1 w2) (hB : B ≤ w1.heap.size) : Below B w w2 := h.trans (k.mono hB)

/-- every block of L holds its values; nothing below B has turned since w0 -/
def Rows (w0 : World) (B : Nat) (L : List (Nat × List Value)) (w : World) : Prop := Below B w0 w ∧ B ≤ w.heap.size ∧ ∀ x ∈ L, Row w x.1 x.2
section
variable {w0 w w' : World} {B : Nat} {L : List (Nat × List Value)}
theorem Rows.keep (hb : Below w.heap.size w w') (h : Rows w0 B L w) : Rows w0 B L w' :=
  ⟨below_then h.1 hb h.2.1, Nat.le_trans h.2.1 hb.size, fun x hx => (h.2.2 x hx).over hb⟩
theorem Rows.drew (h : Rows w0 B L w) : Rows w0 B L w.drew := ⟨h.1.drew, h.2.1, fun x hx => (h.2.2 x hx).drew⟩
end
end Go.Proofs.YtkemljpjfbmjgaaDoor.Rw
