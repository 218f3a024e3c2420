/-
  Two blocks of a call's own, and the library's table, kept over calls that make memory alone.
-/
import Derived.Test.YthmadcmoendndaaDoorBalL
import Derived.Deep.RegionHeld3
namespace Go.Proofs.YthmadcmoendndaaDoor.Bl
open Go.RowKit

/-- blocks g and k hold two values each; nothing below B has turned since w0; the table lies -/
def Duo (w0 : World) (B g : Nat) (u v : Value) (k : Nat) (x y : Value) (w : World) : Prop := Pair w g u v ∧ Pair w k x y ∧ Below B w0 w ∧ B ≤ w.heap.size ∧ Tab w
section
variable {w0 w w' : World} {B g k : Nat} {u v x y : Value}
theorem Duo.keep (hb : Below w.heap.size w w') (h : Duo w0 B g u v k x y w) : Duo w0 B g u v k x y w' :=
  ⟨h.1.over hb, h.2.1.over hb, below_then h.2.2.1 hb h.2.2.2.1, Nat.le_trans h.2.2.2.1 hb.size, h.2.2.2.2.over hb⟩
theorem Duo.cells (h : Duo w0 B g u v k x y w) : w.cell? ⟨g, 0, none⟩ = some u ∧ w.cell? ⟨g, 1, none⟩ = some v ∧ w.cell? ⟨k, 0, none⟩ = some x ∧ w.cell? ⟨k, 1, none⟩ = some y :=
  ⟨h.1.2.1, h.1.2.2.1, h.2.1.2.1, h.2.1.2.2.1⟩
theorem Duo.tab (h : Duo w0 B g u v k x y w) : Tab w := h.2.2.2.2
theorem Duo.drew (h : Duo w0 B g u v k x y w) : Duo w0 B g u v k x y w.drew := ⟨h.1.drew, h.2.1.drew, h.2.2.1.drew, h.2.2.2.1, h.2.2.2.2⟩
end

/-- blocks hold two values each, as the list says; nothing below B has turned since w0 -/
def Rows4 (w0 : World) (B : Nat) (l : List (Nat × Value × Value)) (w : World) : Prop := Below B w0 w ∧ B ≤ w.heap.size ∧ ∀ x ∈ l, Pair w x.1 x.2.1 x.2.2
section
variable {w0 w w' : World} {B : Nat} {l : List (Nat × Value × Value)}
theorem Rows4.keep (hb : Below w.heap.size w w') (h : Rows4 w0 B l w) : Rows4 w0 B l w' :=
  ⟨below_then h.1 hb h.2.1, Nat.le_trans h.2.1 hb.size, fun x hx => (h.2.2 x hx).over hb⟩
theorem Rows4.cells {g1 g2 g3 g4 : Nat} {u1 v1 u2 v2 u3 v3 u4 v4 : Value} (h : Rows4 w0 B [(g1, u1, v1), (g2, u2, v2), (g3, u3, v3), (g4, u4, v4)] w) :
    w.cell? ⟨g1, 0, none⟩ = some u1 ∧ w.cell? ⟨g1, 1, none⟩ = some v1 ∧ w.cell? ⟨g2, 0, none⟩ = some u2 ∧ w.cell? ⟨g2, 1, none⟩ = some v2 ∧ w.cell? ⟨g3, 0, none⟩ = some u3 ∧ w.cell? ⟨g3, 1, none⟩ = some v3 ∧ w.cell? ⟨g4, 0, none⟩ = some u4 ∧ w.cell? ⟨g4, 1, none⟩ = some v4 := by
  have h1 := h.2.2 (g1, u1, v1) (by simp)
  have h2 := h.2.2 (g2, u2, v2) (by simp)
  have h3 := h.2.2 (g3, u3, v3) (by simp)
  have h4 := h.2.2 (g4, u4, v4) (by simp)
  exact ⟨h1.2.1, h1.2.2.1, h2.2.1, h2.2.2.1, h3.2.1, h3.2.2.1, h4.2.1, h4.2.2.1⟩
theorem Rows4.cells8 {g0 g1 g2 g3 g4 g5 g6 g7 : Nat} {u0 v0 u1 v1 u2 v2 u3 v3 u4 v4 u5 v5 u6 v6 u7 v7 : Value} (h : Rows4 w0 B [(g0, u0, v0), (g1, u1, v1), (g2, u2, v2), (g3, u3, v3), (g4, u4, v4), (g5, u5, v5), (g6, u6, v6), (g7, u7, v7)] w) : w.cell? ⟨g0, 0, none⟩ = some u0 ∧ w.cell? ⟨g0, 1, none⟩ = some v0 ∧ w.cell? ⟨g1, 0, none⟩ = some u1 ∧ w.cell? ⟨g1, 1, none⟩ = some v1 ∧ w.cell? ⟨g2, 0, none⟩ = some u2 ∧ w.cell? ⟨g2, 1, none⟩ = some v2 ∧ w.cell? ⟨g3, 0, none⟩ = some u3 ∧ w.cell? ⟨g3, 1, none⟩ = some v3 ∧ w.cell? ⟨g4, 0, none⟩ = some u4 ∧ w.cell? ⟨g4, 1, none⟩ = some v4 ∧ w.cell? ⟨g5, 0, none⟩ = some u5 ∧ w.cell? ⟨g5, 1, none⟩ = some v5 ∧ w.cell? ⟨g6, 0, none⟩ = some u6 ∧ w.cell? ⟨g6, 1, none⟩ = some v6 ∧ w.cell? ⟨g7, 0, none⟩ = some u7 ∧ w.cell? ⟨g7, 1, none⟩ = some v7 := by
  have h0 := h.2.2 (g0, u0, v0) (by simp)
  have h1 := h.2.2 (g1, u1, v1) (by simp)
  have h2 := h.2.2 (g2, u2, v2) (by simp)
  have h3 := h.2.2 (g3, u3, v3) (by simp)
  have h4 := h.2.2 (g4, u4, v4) (by simp)
  have h5 := h.2.2 (g5, u5, v5) (by simp)
  have h6 := h.2.2 (g6, u6, v6) (by simp)
  have h7 := h.2.2 (g7, u7, v7) (by simp)
  exact ⟨h0.2.1, h0.2.2.1, h1.2.1, h1.2.2.1, h2.2.1, h2.2.2.1, h3.2.1, h3.2.2.1, h4.2.1, h4.2.2.1, h5.2.1, h5.2.2.1, h6.2.1, h6.2.2.1, h7.2.1, h7.2.2.1⟩
end

section
variable {P : Program} {ops : Array Oper} {Q : Exit → Act → World → Prop} {md : Region.Mode} {S : World → Prop}
/-- in a drawn region: an operation that is wanted is taken first -/
theorem take_yes {i : Nat} {oi : Oper} {v : Value} {fuel : Nat} {listed : Array Bool} {a : Act} {w : World} (hi : ops[i]? = some oi)
    (hs : Region.noSelect ops = true) (hf : Region.free md ops listed i = true) (hr : (Region.ready md ops listed).contains i = true)
    (hQ : ∀ c a w, Q (.panic c) (a.put oi.dst v) w → Q (.panic c) a w) (hw : Region.wanted oi (yielded ops a.tmps) = true) (hy : ∀ w, S w → (execOp a.eval oi).run P w = .ok (.value v) w) (hS : S w)
    (h : wpAnyH P md ops Q S fuel (listed.setIfInBounds i true) (a.put oi.dst v) w) : wpAnyH P md ops Q S (fuel + 1) listed a w :=
  wpAnyH_take hi hs hf hr hQ (Or.inl ⟨hw, hy⟩) hS h
/-- .. one that is not wanted is passed by -/
theorem take_no {i : Nat} {oi : Oper} {fuel : Nat} {listed : Array Bool} {a : Act} {w : World} (hi : ops[i]? = some oi)
    (hs : Region.noSelect ops = true) (hf : Region.free md ops listed i = true) (hr : (Region.ready md ops listed).contains i = true)
    (hQ : ∀ c a w, Q (.panic c) (a.put oi.dst undef) w → Q (.panic c) a w) (hw : Region.wanted oi (yielded ops a.tmps) = false) (hS : S w)
    (h : wpAnyH P md ops Q S fuel (listed.setIfInBounds i true) (a.put oi.dst undef) w) : wpAnyH P md ops Q S (fuel + 1) listed a w :=
  wpAnyH_take hi hs hf hr hQ (Or.inr ⟨hw, rfl⟩) hS h
end
theorem near_bd (b : Bool) (a : Int) (h0 : -9223372036854775808 ≤ a) (h1 : a ≤ 9223372036854775807) :
    -9223372036854775808 ≤ (if b then a.tmod 9 else a) ∧ (if b then a.tmod 9 else a) ≤ 9223372036854775807 := by
  cases b
  · exact ⟨h0, h1⟩
  · exact ⟨Int.le_of_lt (Int.lt_trans (by decide) (Int.lt_tmod_of_pos a (by decide))), Int.le_of_lt (Int.lt_trans (Int.tmod_lt_of_pos a (by decide)) (by decide))⟩
end Go.Proofs.YthmadcmoendndaaDoor.Bl
