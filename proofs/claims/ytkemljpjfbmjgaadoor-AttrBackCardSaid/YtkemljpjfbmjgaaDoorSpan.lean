/-
  A value that is a struct of (a struct of two cells) and two cells more, opened to its cells; what is told of a slice's cell where its cells are whole numbers, or pairs of whole numbers. Conditions: as each theorem says.
-/
import Derived.Test.YtkemljpjfbmjgaaDoorBox
import Derived.Lib.SmallJoins
import Derived.Deep.Fields
import Derived.Deep.SlicePairs
import Derived.ChangeSlices
namespace Go.Proofs.YtkemljpjfbmjgaaDoor.Rw
open Go.Joins Go.ChangeShapes Go.WideShapes Go.RowKit Go.Deep
section
variable {H : Type} {enc : TypeId × Value → H} {P : Program} {w : World} {base : Nat} {spare : Nat → Bool} {held : Bool}
theorem open_nest2 {r : Reach} {b0 : Nat} {t : TypeId} {F0 F1 F2 f0 f1 : Field} {v : Value} {d : DataW H} {p : List MemPlace} (hs : P.underlying t = some (.struct #[F0, F1, F2])) (hs0 : P.underlying F0.type = some (.struct #[f0, f1]))
    (ho0 : F0.offset = 0) (ho1 : F1.offset = 2) (ho2 : F2.offset = 3) (hc0 : P.cellsOf F0.type = 2) (hc1 : P.cellsOf F1.type = 1) (hc2 : P.cellsOf F2.type = 1) (hone : oneCellFields P #[f0, f1] = true) (hC : P.cellsOf t = 4)
    (hv : Value.okWide P w r b0 t v) (h : DataW.Trod enc P w base spare held t v d p) :
    ∃ (v0 v1 v2 v3 : Value) (y0 y1 y2 y3 : DataW H × List MemPlace) (n m : Nat), v = .agg #[v0, v1, v2, v3] ∧ d = .agg [.agg [y0.1, y1.1], y2.1, y3.1] ∧
      DataW.trod enc P w base spare held n f0.type [v0] = some y0 ∧ DataW.trod enc P w base spare held n f1.type [v1] = some y1 ∧
      DataW.trod enc P w base spare held m F1.type [v2] = some y2 ∧ DataW.trod enc P w base spare held m F2.type [v3] = some y3 := by
  obtain ⟨cs, rfl, hsz⟩ := okWide_struct hs hv
  obtain ⟨l⟩ := cs
  match l, hsz.trans hC with
  | [c0, c1, c2, c3], _ =>
    obtain ⟨fuel, hf⟩ := h
    obtain ⟨xs, n, _, hx, _, hlen, hg⟩ := DataW.trod_struct hs hf
    have g0 := hg 0 F0 rfl
    have g1 := hg 1 F1 rfl
    have g2 := hg 2 F2 rfl
    rw [ho0, hc0] at g0
    rw [ho1, hc1] at g1
    rw [ho2, hc2] at g2
    match xs, hlen with
    | [z0, z1, z2], _ =>
      obtain ⟨ys, m, _, hy, _, hylen, hf0⟩ := DataW.trod_struct hs0 (show DataW.trod enc P w base spare held n F0.type [c0, c1] = some z0 by simpa [Value.cells] using g0)
      obtain ⟨o0, k0⟩ := hone_of hone 0 f0 rfl
      obtain ⟨o1, k1⟩ := hone_of hone 1 f1 rfl
      match ys, hylen with
      | [y0, y1], _ =>
        simp only [Prod.mk.injEq] at hx
        refine ⟨c0, c1, c2, c3, y0, y1, z1, z2, m, n, rfl, ?_, by simpa [o0, k0] using hf0 0 f0 rfl, by simpa [o1, k1] using hf0 1 f1 rfl, by simpa [Value.cells] using g1, by simpa [Value.cells] using g2⟩
        rw [hx.1, hy]
        simp

theorem ints_of {t e : TypeId} {k : IntKind} {n : Nat} {v : Value} {y : DataW H × List MemPlace} (ht : P.underlying t = some (.slice e)) (he : P.underlying e = some (.int k)) (hc : P.cellsOf e = 1)
    (h : DataW.trod enc P w base spare held n t [v] = some y) :
    ∃ (a : Option Addr) (len cap : Nat), v = .slice a len cap ∧
      (∀ i, i < len → ∃ (x : Addr) (e0 : Int), a = some x ∧ x.block < w.heap.size ∧ w.cell? (x.add i) = some (.int k e0) ∧ (Lit.int k e0).wf = true) ∧ len ≤ cap ∧ cap ≤ maxLen := by
  rcases open_ints ht he hc h with ⟨hcs, _⟩ | ⟨x, l, c, zs, hcs, _, hl, hm, hsl, _, hel, hwf⟩
  · refine ⟨none, 0, 0, (List.cons.inj hcs).1, fun i hi => absurd hi (by omega), Nat.le_refl _, Nat.zero_le _⟩
  · refine ⟨some x, l, c, (List.cons.inj hcs).1, fun i hi => ?_, hl, hm⟩
    have hi' : i < zs.length := by rw [hsl]; split <;> omega
    have c0 := hel i hi'
    have hb := World.block_lt_of_cell? _ _ c0
    rw [Pk.block_add] at hb
    exact ⟨x, _, rfl, hb, c0, hwf _ (by rw [List.getD_eq_getElem?_getD, List.getElem?_eq_getElem hi']; exact List.getElem_mem hi')⟩

theorem pairs_of {t e : TypeId} {f0 f1 : Field} {k0 k1 : IntKind} {n : Nat} {v : Value} {y : DataW H × List MemPlace} (ht : P.underlying t = some (.slice e)) (he : P.underlying e = some (.struct #[f0, f1]))
    (ce : P.cellsOf e = 2) (o0 : f0.offset = 0) (o1 : f1.offset = 1) (c0 : P.cellsOf f0.type = 1) (c1 : P.cellsOf f1.type = 1) (u0 : P.underlying f0.type = some (.int k0)) (u1 : P.underlying f1.type = some (.int k1))
    (h : DataW.trod enc P w base spare held n t [v] = some y) :
    ∃ (a : Option Addr) (len cap : Nat), v = .slice a len cap ∧
      (∀ i, i < len → ∃ (x : Addr) (e0 e1 : Int), a = some x ∧ x.block < w.heap.size ∧ w.cell? (x.add (i * 2)) = some (.int k0 e0) ∧ w.cell? (x.add (i * 2 + 1)) = some (.int k1 e1) ∧ (Lit.int k0 e0).wf = true ∧ (Lit.int k1 e1).wf = true) ∧
      len ≤ cap ∧ cap ≤ maxLen ∧ (a = none → cap = 0) := by
  rcases open_slice_pairs ht he ce o0 o1 c0 c1 h with ⟨hcs, _⟩ | ⟨x, l, c, m, k, V0, V1, D0, D1, P0, P1, hcs, _, hl, hm, hmm, hx, hel⟩
  · refine ⟨none, 0, 0, (List.cons.inj hcs).1, fun i hi => absurd hi (by omega), Nat.le_refl _, Nat.zero_le _, fun _ => rfl⟩
  · refine ⟨some x, l, c, (List.cons.inj hcs).1, fun i hi => ?_, hl, hm, fun e => by cases e⟩
    obtain ⟨d0, d1, t0, t1⟩ := hel i (by rw [hmm]; split <;> omega)
    obtain ⟨e0, q0, _, s0⟩ := DataW.trod_int u0 t0
    obtain ⟨e1, q1, _, s1⟩ := DataW.trod_int u1 t1
    rw [(List.cons.inj q0).1] at d0
    rw [(List.cons.inj q1).1] at d1
    have hb := World.block_lt_of_cell? _ _ d0
    rw [Pk.block_add] at hb
    exact ⟨x, e0, e1, rfl, hb, d0, d1, s0, s1⟩
end
end Go.Proofs.YtkemljpjfbmjgaaDoor.Rw
