/-
  A value that is a struct of a struct of five cells and one cell more, opened to its cells. Conditions: as the theorem says.
-/
import Derived.Lib.SmallJoins
import Derived.Deep.Fields
namespace Go.Proofs.YtolgboedinbpeaaDoor.Rw
open Go.Joins Go.ChangeShapes Go.WideShapes Go.RowKit Go.Deep
section
variable {H : Type} {enc : TypeId × Value → H} {P : Program} {w : World} {base : Nat} {spare : Nat → Bool} {held : Bool}
theorem open_nest5 {r : Reach} {b0 : Nat} {t : TypeId} {F0 F1 f0 f1 f2 f3 f4 : Field} {v : Value} {d : DataW H} {p : List MemPlace} (hs : P.underlying t = some (.struct #[F0, F1])) (hs0 : P.underlying F0.type = some (.struct #[f0, f1, f2, f3, f4]))
    (ho0 : F0.offset = 0) (ho1 : F1.offset = 5) (hc0 : P.cellsOf F0.type = 5) (hc1 : P.cellsOf F1.type = 1) (hone : oneCellFields P #[f0, f1, f2, f3, f4] = true) (hC : P.cellsOf t = 6)
    (hv : Value.okWide P w r b0 t v) (h : DataW.Trod enc P w base spare held t v d p) :
    ∃ (v0 v1 v2 v3 v4 v5 : Value) (y0 y1 y2 y3 y4 y5 : DataW H × List MemPlace) (n m : Nat), v = .agg #[v0, v1, v2, v3, v4, v5] ∧ d = .agg [.agg [y0.1, y1.1, y2.1, y3.1, y4.1], y5.1] ∧
      DataW.trod enc P w base spare held n f0.type [v0] = some y0 ∧ DataW.trod enc P w base spare held n f1.type [v1] = some y1 ∧ DataW.trod enc P w base spare held n f2.type [v2] = some y2 ∧ DataW.trod enc P w base spare held n f3.type [v3] = some y3 ∧ DataW.trod enc P w base spare held n f4.type [v4] = some y4 ∧
      DataW.trod enc P w base spare held m F1.type [v5] = some y5 := by
  obtain ⟨cs, rfl, hsz⟩ := okWide_struct hs hv
  obtain ⟨l⟩ := cs
  match l, hsz.trans hC with
  | [c0, c1, c2, c3, c4, c5], _ =>
    obtain ⟨fuel, hf⟩ := h
    obtain ⟨xs, n, _, hx, _, hlen, hg⟩ := DataW.trod_struct hs hf
    have g0 := hg 0 F0 rfl
    have g1 := hg 1 F1 rfl
    rw [ho0, hc0] at g0
    rw [ho1, hc1] at g1
    match xs, hlen with
    | [z0, z1], _ =>
      obtain ⟨ys, m, _, hy, _, hylen, hf0⟩ := DataW.trod_struct hs0 (show DataW.trod enc P w base spare held n F0.type [c0, c1, c2, c3, c4] = some z0 by simpa [Value.cells] using g0)
      obtain ⟨o0, k0⟩ := hone_of hone 0 f0 rfl
      obtain ⟨o1, k1⟩ := hone_of hone 1 f1 rfl
      obtain ⟨o2, k2⟩ := hone_of hone 2 f2 rfl
      obtain ⟨o3, k3⟩ := hone_of hone 3 f3 rfl
      obtain ⟨o4, k4⟩ := hone_of hone 4 f4 rfl
      match ys, hylen with
      | [y0, y1, y2, y3, y4], _ =>
        simp only [Prod.mk.injEq] at hx
        refine ⟨c0, c1, c2, c3, c4, c5, y0, y1, y2, y3, y4, z1, m, n, rfl, ?_, by simpa [o0, k0] using hf0 0 f0 rfl, by simpa [o1, k1] using hf0 1 f1 rfl, by simpa [o2, k2] using hf0 2 f2 rfl, by simpa [o3, k3] using hf0 3 f3 rfl, by simpa [o4, k4] using hf0 4 f4 rfl, by simpa [Value.cells] using g1⟩
        rw [hx.1, hy]
        simp
end
end Go.Proofs.YtolgboedinbpeaaDoor.Rw
