/-
  Two values in a block of their own: made, kept, overwritten. Conditions: as each theorem says.
-/
import Derived.WalkKit
import Derived.Below
import Derived.WalkSmall
import Derived.Deep.Draws
namespace Go.Proofs.YtkemljpjfbmjgaaDoor.Bl
open Go.RowKit

/-- block g holds u and v, none of them frozen -/
def Pair (W : World) (g : Nat) (u v : Value) : Prop :=
  g < W.heap.size ∧ W.cell? ⟨g, 0, none⟩ = some u ∧ W.cell? ⟨g, 1, none⟩ = some v ∧ W.frozen? ⟨g, 0, none⟩ = false ∧ W.frozen? ⟨g, 1, none⟩ = false

section
variable {w w' : World} {g B : Nat} {s b s' b' : Value}
theorem Pair.new (w : World) (s b : Value) (t : TypeId) : Pair (w.alloc (.cells #[s, b] t)) w.heap.size s b := by
  refine ⟨?_, ?_, ?_, ?_, ?_⟩ <;> simp
theorem Pair.newAt (w : World) (s b : Value) (t : TypeId) (g : Nat) (h : g = w.heap.size) : Pair (w.alloc (.cells #[s, b] t)) g s b := by
  subst h; exact Pair.new w s b t
theorem Pair.keep (h : Pair w g s b) (hb : Below B w w') (hlt : g < B) : Pair w' g s b := by
  obtain ⟨h0, h1, h2, h3, h4⟩ := h
  exact ⟨Nat.lt_of_lt_of_le h0 hb.size, by rw [hb.cell (p := ⟨g, 0, none⟩) hlt, h1], by rw [hb.cell (p := ⟨g, 1, none⟩) hlt, h2], by rw [hb.frozen (p := ⟨g, 0, none⟩) hlt, h3], by rw [hb.frozen (p := ⟨g, 1, none⟩) hlt, h4]⟩
theorem Pair.over (h : Pair w g s b) (hb : Below w.heap.size w w') : Pair w' g s b := h.keep hb h.1
theorem Pair.alloc (h : Pair w g s b) (o : Obj) : Pair (w.alloc o) g s b := h.keep ((Below.refl _ _).alloc (Nat.le_refl _) o) h.1
theorem Pair.drew (h : Pair w g s b) : Pair w.drew g s b := h
theorem Pair.drewN (h : Pair w g s b) (n : Nat) : Pair (w.drewN n) g s b := h.keep (below_drewN (Below.refl _ _) n) h.1
theorem Pair.far (h : Pair w g s b) (p : Addr) (hp : p.block ≠ g) (u : Value) : Pair (w.setCell p u) g s b := by
  obtain ⟨h0, h1, h2, h3, h4⟩ := h
  have e : ∀ i, p ≠ (⟨g, i, none⟩ : Addr) := fun i e => hp (by rw [e])
  exact ⟨by simpa [World.setCell] using h0, by rw [World.cell?_setCell_other _ _ _ _ (e 0), h1], by rw [World.cell?_setCell_other _ _ _ _ (e 1), h2], by rw [World.frozen?_setCell, h3], by rw [World.frozen?_setCell, h4]⟩
theorem Pair.put (h : Pair w g s b) (s' b' : Value) : Pair ((w.setCell ⟨g, 0, none⟩ s').setCell ⟨g, 1, none⟩ b') g s' b' := by
  obtain ⟨h0, h1, h2, h3, h4⟩ := h
  refine ⟨by simpa [World.setCell] using h0, ?_, ?_, by rw [World.frozen?_setCell, World.frozen?_setCell, h3], by rw [World.frozen?_setCell, World.frozen?_setCell, h4]⟩
  · rw [World.cell?_setCell_other _ _ _ _ (by simp), World.cell?_setCell_same _ _ _ h1]
  · exact World.cell?_setCell_same _ _ _ (show (w.setCell ⟨g, 0, none⟩ s').cell? ⟨g, 1, none⟩ = some b by rw [World.cell?_setCell_other _ _ _ _ (by simp), h2])
/-- both cells of another block are stored -/
theorem Pair.far2 (h : Pair w g s b) (k : Nat) (hk : k ≠ g) (u v : Value) : Pair ((w.setCell ⟨k, 0, none⟩ u).setCell ⟨k, 1, none⟩ v) g s b :=
  (h.far ⟨k, 0, none⟩ hk u).far ⟨k, 1, none⟩ hk v
end
theorem below_set2 {B k : Nat} {w w' : World} (h : Below B w w') (hk : B ≤ k) (u v : Value) : Below B w ((w'.setCell ⟨k, 0, none⟩ u).setCell ⟨k, 1, none⟩ v) :=
  (h.setCell (p := ⟨k, 0, none⟩) hk u).setCell (p := ⟨k, 1, none⟩) hk v
theorem below_1 (w : World) (o : Obj) : Below w.heap.size w (w.alloc o) := (Below.refl _ _).alloc (Nat.le_refl _) o
theorem below_2 (w : World) (o p : Obj) : Below w.heap.size w ((w.alloc o).alloc p) := (below_1 w o).alloc (by simp) p
theorem below_3 (w : World) (o p q : Obj) : Below w.heap.size w (((w.alloc o).alloc p).alloc q) := (below_2 w o p).alloc (by simp; omega) q
theorem below_then {B : Nat} {w w1 w2 : World} (h : Below B w w1) (k : Below w1.heap.size w1 w2) (hB : B ≤ w1.heap.size) : Below B w w2 := h.trans (k.mono hB)

/-- block g holds u and v; nothing below B has turned since w0 -/
def One (w0 : World) (B g : Nat) (u v : Value) (w : World) : Prop := Pair w g u v ∧ Below B w0 w ∧ B ≤ w.heap.size
section
variable {w0 w w' : World} {B g : Nat} {u v : Value}
theorem One.new (w : World) (u v : Value) (t : TypeId) : One w w.heap.size w.heap.size u v (w.alloc (.cells #[u, v] t)) := ⟨Pair.new _ _ _ _, below_1 _ _, by simp⟩
theorem One.keep (hb : Below w.heap.size w w') (h : One w0 B g u v w) : One w0 B g u v w' := ⟨h.1.over hb, below_then h.2.1 hb h.2.2, Nat.le_trans h.2.2 hb.size⟩
theorem One.drew (h : One w0 B g u v w) : One w0 B g u v w.drew := ⟨h.1.drew, h.2.1.drew, h.2.2⟩
theorem One.cells (h : One w0 B g u v w) : w.cell? ⟨g, 0, none⟩ = some u ∧ w.cell? ⟨g, 1, none⟩ = some v := ⟨h.1.2.1, h.1.2.2.1⟩
end
theorem three {w w1 : World} {u0 v0 u1 v1 u2 v2 : Value} {t0 t1 t2 : TypeId}
    (hb : Below (((w.alloc (.cells #[u0, v0] t0)).alloc (.cells #[u1, v1] t1)).alloc (.cells #[u2, v2] t2)).heap.size (((w.alloc (.cells #[u0, v0] t0)).alloc (.cells #[u1, v1] t1)).alloc (.cells #[u2, v2] t2)) w1) :
    Pair w1 w.heap.size u0 v0 ∧ Pair w1 (w.heap.size + 1) u1 v1 ∧ Pair w1 (w.heap.size + 1 + 1) u2 v2 ∧ Below w.heap.size w w1 :=
  ⟨(((Pair.new w u0 v0 t0).alloc _).alloc _).over hb, ((Pair.newAt _ u1 v1 t1 _ (by simp)).alloc _).over hb, (Pair.newAt _ u2 v2 t2 _ (by simp)).over hb, below_then (below_3 _ _ _ _) hb (by simp; omega)⟩
theorem two {w w1 : World} {u0 v0 u1 v1 : Value} {t0 t1 : TypeId}
    (hb : Below ((w.alloc (.cells #[u0, v0] t0)).alloc (.cells #[u1, v1] t1)).heap.size ((w.alloc (.cells #[u0, v0] t0)).alloc (.cells #[u1, v1] t1)) w1) :
    Pair w1 w.heap.size u0 v0 ∧ Pair w1 (w.heap.size + 1) u1 v1 ∧ Below w.heap.size w w1 :=
  ⟨((Pair.new w u0 v0 t0).alloc _).over hb, (Pair.newAt _ u1 v1 t1 _ (by simp)).over hb, below_then (below_2 _ _ _) hb (by simp; omega)⟩
theorem one {w w1 : World} {u0 v0 : Value} {t0 : TypeId} (hb : Below (w.alloc (.cells #[u0, v0] t0)).heap.size (w.alloc (.cells #[u0, v0] t0)) w1) :
    Pair w1 w.heap.size u0 v0 ∧ Below w.heap.size w w1 :=
  ⟨(Pair.new w u0 v0 t0).over hb, below_then (below_1 _ _) hb (by simp)⟩
end Go.Proofs.YtkemljpjfbmjgaaDoor.Bl
