/-
  A struct of a text and a bool in a block of its own: made, kept, overwritten. Conditions: as each theorem says.
-/
import Derived.WalkKit
import Derived.Below
import Derived.WalkSmall
import Derived.Deep.Draws
namespace Go.Proofs.YtkemljpjfbmjgaaDoor.Pk
open Go.RowKit

/-- block g holds a text and a bool, none of them frozen -/
def Box (W : World) (g : Nat) (s : ByteArray) (b : Bool) : Prop :=
  g < W.heap.size ∧ W.cell? ⟨g, 0, none⟩ = some (.string s) ∧ W.cell? ⟨g, 1, none⟩ = some (.bool b) ∧ W.frozen? ⟨g, 0, none⟩ = false ∧ W.frozen? ⟨g, 1, none⟩ = false

theorem block_add (a : Addr) (i : Nat) : (a.add i).block = a.block := by unfold Addr.add; split <;> rfl

theorem add_one (a : Addr) (i : Nat) : a.add (i + 1) = ⟨(a.add i).block, (a.add i).off + 1, none⟩ := by
  cases i with
  | zero => simp [Addr.add]
  | succ i => simp [Addr.add]; omega

section
variable {w w' : World} {g B : Nat} {s s' : ByteArray} {b b' : Bool}
theorem Box.new (w : World) (s : ByteArray) (b : Bool) (t : TypeId) : Box (w.alloc (.cells #[.string s, .bool b] t)) w.heap.size s b := by
  refine ⟨?_, ?_, ?_, ?_, ?_⟩ <;> simp
theorem Box.keep (h : Box w g s b) (hb : Below B w w') (hlt : g < B) : Box w' g s b := by
  obtain ⟨h0, h1, h2, h3, h4⟩ := h
  exact ⟨Nat.lt_of_lt_of_le h0 hb.size, by rw [hb.cell (p := ⟨g, 0, none⟩) hlt, h1], by rw [hb.cell (p := ⟨g, 1, none⟩) hlt, h2], by rw [hb.frozen (p := ⟨g, 0, none⟩) hlt, h3], by rw [hb.frozen (p := ⟨g, 1, none⟩) hlt, h4]⟩
theorem Box.alloc (h : Box w g s b) (o : Obj) : Box (w.alloc o) g s b := h.keep ((Below.refl _ _).alloc (Nat.le_refl _) o) h.1
theorem Box.drew (h : Box w g s b) : Box w.drew g s b := h
theorem Box.drewN (h : Box w g s b) (n : Nat) : Box (w.drewN n) g s b := h.keep (below_drewN (Below.refl _ _) n) h.1
theorem Box.far (h : Box w g s b) (p : Addr) (hp : p.block ≠ g) (u : Value) : Box (w.setCell p u) g s b := by
  obtain ⟨h0, h1, h2, h3, h4⟩ := h
  have e : ∀ i, p ≠ (⟨g, i, none⟩ : Addr) := fun i e => hp (by rw [e])
  exact ⟨by simpa [World.setCell] using h0, by rw [World.cell?_setCell_other _ _ _ _ (e 0), h1], by rw [World.cell?_setCell_other _ _ _ _ (e 1), h2], by rw [World.frozen?_setCell, h3], by rw [World.frozen?_setCell, h4]⟩
theorem Box.put (h : Box w g s b) (s' : ByteArray) (b' : Bool) : Box ((w.setCell ⟨g, 0, none⟩ (.string s')).setCell ⟨g, 1, none⟩ (.bool b')) g s' b' := by
  obtain ⟨h0, h1, h2, h3, h4⟩ := h
  refine ⟨by simpa [World.setCell] using h0, ?_, ?_, by rw [World.frozen?_setCell, World.frozen?_setCell, h3], by rw [World.frozen?_setCell, World.frozen?_setCell, h4]⟩
  · rw [World.cell?_setCell_other _ _ _ _ (by simp), World.cell?_setCell_same _ _ _ h1]
  · exact World.cell?_setCell_same _ _ _ (show (w.setCell ⟨g, 0, none⟩ (.string s')).cell? ⟨g, 1, none⟩ = some (.bool b) by rw [World.cell?_setCell_other _ _ _ _ (by simp), h2])
/-- two boxes, then a call that makes memory alone -/
theorem boxes {w w1 : World} {s0 : ByteArray} {b0 : Bool} {t t0 : TypeId} (hb : Below ((w.alloc (.cells #[.string s, .bool b] t)).alloc (.cells #[.string s0, .bool b0] t0)).heap.size ((w.alloc (.cells #[.string s, .bool b] t)).alloc (.cells #[.string s0, .bool b0] t0)) w1) :
    Box w1 w.heap.size s b ∧ Box w1 (w.heap.size + 1) s0 b0 ∧ Below w.heap.size w w1 := by
  refine ⟨((Box.new w s b t).alloc _).keep hb (by simp; omega), ?_, ((((Below.refl _ _).alloc (Nat.le_refl _) _).alloc (by simp) _).trans (hb.mono (by simp; omega)))⟩
  have h := Box.new (w.alloc (.cells #[.string s, .bool b] t)) s0 b0 t0
  rw [show (w.alloc (.cells #[.string s, .bool b] t)).heap.size = w.heap.size + 1 by simp] at h
  exact h.keep hb (by simp)
/-- .. one box -/
theorem box1 {w w1 : World} {t : TypeId} (hb : Below (w.alloc (.cells #[.string s, .bool b] t)).heap.size (w.alloc (.cells #[.string s, .bool b] t)) w1) :
    Box w1 w.heap.size s b ∧ Below w.heap.size w w1 :=
  ⟨(Box.new w s b t).keep hb (by simp), ((Below.refl _ _).alloc (Nat.le_refl _) _).trans (hb.mono (by simp))⟩
end

/-- two blocks hold the same text and bool; nothing below B has turned since w0 -/
def Twin (w0 : World) (B g g' : Nat) (s : ByteArray) (b : Bool) (w : World) : Prop := Box w g s b ∧ Box w g' s b ∧ Below B w0 w ∧ g ≠ g' ∧ B ≤ g ∧ B ≤ g'
section
variable {w0 w w' : World} {B g g' : Nat} {s : ByteArray} {b : Bool}
theorem Twin.keep (hb : Below w.heap.size w w') (h : Twin w0 B g g' s b w) : Twin w0 B g g' s b w' := by
  obtain ⟨h1, h2, h3, h4, h5, h6⟩ := h
  exact ⟨h1.keep hb h1.1, h2.keep hb h2.1, h3.trans (hb.mono (by have := h1.1; omega)), h4, h5, h6⟩
theorem Twin.drew (h : Twin w0 B g g' s b w) : Twin w0 B g g' s b w.drew := ⟨h.1, h.2.1, h.2.2.1.drew, h.2.2.2⟩
theorem Twin.alloc (h : Twin w0 B g g' s b w) (o : Obj) : Twin w0 B g g' s b (w.alloc o) := h.keep ((Below.refl _ _).alloc (Nat.le_refl _) o)
theorem Twin.cells (h : Twin w0 B g g' s b w) : w.cell? ⟨g, 0, none⟩ = some (.string s) ∧ w.cell? ⟨g, 1, none⟩ = some (.bool b) ∧ w.cell? ⟨g', 0, none⟩ = some (.string s) ∧ w.cell? ⟨g', 1, none⟩ = some (.bool b) :=
  ⟨h.1.2.1, h.1.2.2.1, h.2.1.2.1, h.2.1.2.2.1⟩
/-- both are overwritten, the first first -/
theorem Twin.put (h : Twin w0 B g g' s b w) (s' : ByteArray) (b' : Bool) :
    Twin w0 B g g' s' b' ((((w.setCell ⟨g, 0, none⟩ (.string s')).setCell ⟨g, 1, none⟩ (.bool b')).setCell ⟨g', 0, none⟩ (.string s')).setCell ⟨g', 1, none⟩ (.bool b')) := by
  obtain ⟨h1, h2, h3, h4, h5, h6⟩ := h
  refine ⟨((h1.put s' b').far ⟨g', 0, none⟩ (Ne.symm h4) _).far ⟨g', 1, none⟩ (Ne.symm h4) _, Box.put ((h2.far ⟨g, 0, none⟩ h4 _).far ⟨g, 1, none⟩ h4 _) s' b', ?_, h4, h5, h6⟩
  exact (((h3.setCell (p := ⟨g, 0, none⟩) h5 _).setCell (p := ⟨g, 1, none⟩) h5 _).setCell (p := ⟨g', 0, none⟩) h6 _).setCell (p := ⟨g', 1, none⟩) h6 _
end
end Go.Proofs.YtkemljpjfbmjgaaDoor.Pk
