/-
  What a slice of structs of three one-cell fields, read as data, says of memory; of a slice of texts. Conditions: as each theorem says.
-/
import Derived.Test.YtgdaphckgckaaaaDiskX
import Derived.Deep.Slices
import Derived.ChangeSame
import Derived.SliceStrings
import Derived.SizedLaws
namespace Go.Proofs.Ytgdaphckgckaaaa.Dk
open Go.ChangeShapes Go.WideShapes Go.Deep Go.RowKit

theorem block_add (a : Addr) (i : Nat) : (a.add i).block = a.block := by unfold Addr.add; split <;> rfl
theorem add_at (a : Addr) (i j : Nat) (hj : 0 < j) : a.add (i + j) = ⟨(a.add i).block, (a.add i).off + j, none⟩ := by
  unfold Addr.add
  rw [if_neg (by omega)]
  split
  · subst_vars; simp
  · simp; omega

section
variable {H : Type} {enc : TypeId × Value → H} {P : Program} {w : World} {base : Nat} {spare : Nat → Bool} {held : Bool}

theorem weightsAll_mem {e : TypeId} : ∀ {l : List (DataW H)} {i : Nat} {d : DataW H}, l[i]? = some d → ∀ n ∈ d.weights P e, n ∈ DataW.weightsAll P e l
  | [], _, _, h, _, _ => by simp at h
  | d0 :: r, 0, d, h, n, hn => by
    simp only [List.getElem?_cons_zero, Option.some.injEq] at h
    subst h
    simp only [DataW.weightsAll, List.mem_append]
    exact .inl hn
  | d0 :: r, i + 1, d, h, n, hn => by
    simp only [List.getElem?_cons_succ] at h
    simp only [DataW.weightsAll, List.mem_append]
    exact .inr (weightsAll_mem h n hn)

/-- the reach of a text in a field of an element of a slice that came in -/
theorem sized_nested {ts : List TypeId} {ds elems rest parts : List (DataW H)} {j i m : Nat} {t e tm : TypeId} {fs : Array Field} {bytes : List UInt8} (h : (DataW.weightsEach P ts ds).all (· ≤ reachBytes) = true)
    (ht : ts[j]? = some t) (hd : ds[j]? = some (.slice elems rest)) (hu : P.underlying t = some (.slice e)) (hi : elems[i]? = some (.agg parts)) (he : P.underlying e = some (.struct fs))
    (hm : (fs.toList.map (·.type))[m]? = some tm) (hp : parts[m]? = some (.lit (.string bytes))) : bytes.length ≤ reachBytes := by
  have h1 : bytes.length ∈ (DataW.lit (H := H) (.string bytes)).weights P tm := by simp [DataW.weights]
  have h2 := DataW.weights_mem_each hm hp _ h1
  have h3 : bytes.length ∈ (DataW.agg parts).weights P e := by simp only [DataW.weights, he]; exact h2
  have h4 := weightsAll_mem hi _ h3
  have h5 : bytes.length ∈ (DataW.slice elems rest).weights P t := by simp only [DataW.weights, hu, List.mem_cons, List.mem_append]; exact .inr (.inl h4)
  have := List.all_eq_true.1 h _ (DataW.weights_mem_each ht hd _ h5)
  simpa using this

/-- what a place of the slice is: its three cells, each read by its field's type -/
theorem open_triples {t e : TypeId} {f0 f1 f2 : Field} {fuel : Nat} {ao : Option Addr} {len cap : Nat} {x : DataW H × List MemPlace} (ht : P.underlying t = some (.slice e)) (he : P.underlying e = some (.struct #[f0, f1, f2]))
    (ce : P.cellsOf e = 3) (o0 : f0.offset = 0) (o1 : f1.offset = 1) (o2 : f2.offset = 2) (c0 : P.cellsOf f0.type = 1) (c1 : P.cellsOf f1.type = 1) (c2 : P.cellsOf f2.type = 1)
    (h : DataW.trod enc P w base spare held fuel t [.slice ao len cap] = some x) : len ≤ cap ∧ cap ≤ maxLen ∧
    ∀ i, i < len → ∃ (a : Addr) (v0 v1 v2 : Value) (n : Nat) (y0 y1 y2 : DataW H × List MemPlace) (elems rest : List (DataW H)), ao = some a ∧ w.cell? (a.add (i * 3)) = some v0 ∧ w.cell? (a.add (i * 3 + 1)) = some v1 ∧ w.cell? (a.add (i * 3 + 2)) = some v2 ∧
      DataW.trod enc P w base spare held n f0.type [v0] = some y0 ∧ DataW.trod enc P w base spare held n f1.type [v1] = some y1 ∧ DataW.trod enc P w base spare held n f2.type [v2] = some y2 ∧
      x.1 = .slice elems rest ∧ elems[i]? = some (.agg [y0.1, y1.1, y2.1]) := by
  rcases open_slice ht h with ⟨h0, _⟩ | ⟨a, l, c, m, n, D, Pl, hcs, hb, hl, hm, hmm, hxe, hx⟩
  · simp at h0
    obtain ⟨rfl, rfl, rfl⟩ := h0
    exact ⟨Nat.le_refl _, Nat.zero_le _, fun i hi => absurd hi (Nat.not_lt_zero i)⟩
  · simp at hcs
    obtain ⟨rfl, rfl, rfl⟩ := hcs
    refine ⟨hl, hm, fun i hi => ?_⟩
    have him : i < m := by rw [hmm]; split <;> omega
    obtain ⟨cs', h1, h2⟩ := hx i him
    rw [ce] at h1
    obtain ⟨_, hlen, hcell⟩ := World.cells?_some h1
    obtain ⟨xs, k, hk, hxy, _, hxl, hf⟩ := DataW.trod_struct he h2
    match xs, hxl, cs', hlen with
    | [y0, y1, y2], _, [v0, v1, v2], _ =>
      have g0 := hf 0 f0 rfl
      have g1 := hf 1 f1 rfl
      have g2 := hf 2 f2 rfl
      simp [o0, o1, o2, c0, c1, c2] at g0 g1 g2
      have e0 := hcell 0 (by omega)
      have e1 := hcell 1 (by omega)
      have e2 := hcell 2 (by omega)
      rw [add_add] at e0 e1 e2
      simp only [Prod.mk.injEq] at hxy
      refine ⟨a, v0, v1, v2, k, y0, y1, y2, (List.range len).map D, _, rfl, by simpa using e0, by simpa using e1, by simpa using e2, g0, g1, g2, by rw [hxe], ?_⟩
      rw [List.getElem?_map, List.getElem?_range hi]
      simpa using hxy.1
end
end Go.Proofs.Ytgdaphckgckaaaa.Dk
