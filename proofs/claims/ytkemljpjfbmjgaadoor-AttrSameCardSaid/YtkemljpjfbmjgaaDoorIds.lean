/-
  Lists of pairs of whole numbers in memory. Conditions: as each theorem says.
-/
import Derived.Test.YtkemljpjfbmjgaaDoorDepsM
import Derived.WalkKit
import Derived.Below
import Derived.WalkSmall
import Derived.Laws.AppendOwn
namespace Go.Proofs.YtkemljpjfbmjgaaDoor.Dp
open Go.RowKit

/-- the cells of a list of pairs -/
def cellsD : List ID → List Value
  | [] => []
  | x :: l => .int .i64 x.1 :: .int .i64 x.2 :: cellsD l
theorem cellsD_length : ∀ l : List ID, (cellsD l).length = l.length * 2
  | [] => rfl
  | x :: l => by rw [cellsD, List.length_cons, List.length_cons, cellsD_length l, List.length_cons]; omega
theorem cellsD_append : ∀ a b : List ID, cellsD (a ++ b) = cellsD a ++ cellsD b
  | [], _ => rfl
  | x :: a, b => by rw [List.cons_append, cellsD, cellsD_append a b, cellsD]; rfl
theorem cellsD_0 : ∀ (l : List ID) (j : Nat) (h : j < l.length), (cellsD l)[j * 2]? = some (.int .i64 l[j].1)
  | x :: l, 0, _ => rfl
  | x :: l, j + 1, h => by
    have := cellsD_0 l j (by simpa using h)
    rw [show (j + 1) * 2 = j * 2 + 2 by omega]
    exact this
theorem cellsD_1 : ∀ (l : List ID) (j : Nat) (h : j < l.length), (cellsD l)[j * 2 + 1]? = some (.int .i64 l[j].2)
  | x :: l, 0, _ => rfl
  | x :: l, j + 1, h => by
    have := cellsD_1 l j (by simpa using h)
    rw [show (j + 1) * 2 + 1 = j * 2 + 1 + 2 by omega]
    exact this

theorem block_of_add (x : Addr) (k : Nat) : (x.add k).block = x.block := by unfold Addr.add; split <;> rfl
/-- a slice of pairs lies in memory -/
structure Ids (w : World) (ao : Option Addr) (cap : Nat) (xs : List ID) : Prop where
  le : xs.length ≤ cap
  capl : cap ≤ maxLen
  lies : ∀ j (h : j < xs.length), ∃ x : Addr, ao = some x ∧ x.block < w.heap.size ∧ w.cell? (x.add (j * 2)) = some (.int .i64 xs[j].1) ∧ w.cell? (x.add (j * 2 + 1)) = some (.int .i64 xs[j].2)

section
variable {w w' : World} {ao : Option Addr} {cap : Nat} {xs : List ID}
theorem Ids.kept (h : Ids w ao cap xs) (hb : Below w.heap.size w w') : Ids w' ao cap xs :=
  ⟨h.le, h.capl, fun j hj => by
    obtain ⟨x, e, hx, hc, hd⟩ := h.lies j hj
    exact ⟨x, e, Nat.lt_of_lt_of_le hx hb.size, by rw [hb.cell (by rw [block_of_add]; exact hx), hc], by rw [hb.cell (by rw [block_of_add]; exact hx), hd]⟩⟩
theorem Ids.nil (w : World) : Ids w none 0 [] := ⟨Nat.le_refl _, Nat.zero_le _, fun j hj => absurd hj (by simp)⟩
/-- what a call owns is such a one -/
theorem Ids.own {B : Nat} {t : TypeId} {v : Value} (h : w.ownsRow B t 2 v xs.length (cellsD xs)) : ∃ ao cap, v = .slice ao xs.length cap ∧ Ids w ao cap xs := by
  have h' := h
  rcases h.2 with ⟨rfl, h0⟩ | ⟨g, cap, cur, rfl, hb, hg, hn, hc, _⟩
  · exact ⟨none, 0, by rw [h0], ⟨by omega, Nat.zero_le _, fun j hj => absurd hj (by omega)⟩⟩
  · refine ⟨_, _, rfl, ⟨hn, hc, fun j hj => ⟨⟨g, 0, none⟩, rfl, (Array.getElem?_eq_some_iff.1 hg).1, ?_, ?_⟩⟩⟩
    · rw [Addr.add_lit, Nat.zero_add, h'.cellAt (j * 2) (by omega)]
      exact cellsD_0 xs j hj
    · rw [Addr.add_lit, Nat.zero_add, h'.cellAt (j * 2 + 1) (by omega)]
      exact cellsD_1 xs j hj
end

/-- a slice of bytes that came in -/
structure Bts (w : World) (ao : Option Addr) (bs : List Nat) : Prop where
  lies : ∀ j (h : j < bs.length), ∃ x : Addr, ao = some x ∧ x.block < w.heap.size ∧ w.cell? (x.add j) = some (.int .u8 (bs[j] : Int)) ∧ bs[j] < 256
theorem Bts.kept {w w' : World} {ao : Option Addr} {bs : List Nat} (h : Bts w ao bs) (hb : Below w.heap.size w w') : Bts w' ao bs :=
  ⟨fun j hj => by
    obtain ⟨x, e, hx, hc, hl⟩ := h.lies j hj
    have hx' : (x.add j).block < w.heap.size := by
      have : (x.add j).block = x.block := by unfold Addr.add; split <;> rfl
      omega
    exact ⟨x, e, Nat.lt_of_lt_of_le hx hb.size, by rw [hb.cell hx', hc], hl⟩⟩
theorem Bts.of {w : World} {ao : Option Addr} : ∀ {len : Nat}, (∀ i, i < len → ∃ (x : Addr) (e0 : Int), ao = some x ∧ x.block < w.heap.size ∧ w.cell? (x.add i) = some (.int .u8 e0) ∧ (Lit.int .u8 e0).wf = true) → ∃ bs : List Nat, bs.length = len ∧ Bts w ao bs := by
  intro len
  induction len with
  | zero => intro _; exact ⟨[], rfl, ⟨fun j hj => absurd hj (by simp)⟩⟩
  | succ n ih =>
    intro h
    obtain ⟨bs, hl, hb⟩ := ih (fun i hi => h i (by omega))
    obtain ⟨x, e0, e, hx, hc, hw⟩ := h n (by omega)
    have hw' : 0 ≤ e0 ∧ e0 ≤ 255 := by simpa [Lit.wf, IntKind.min, IntKind.max, IntKind.signed, IntKind.bits] using hw
    refine ⟨bs ++ [e0.toNat], by simp [hl], ⟨fun j hj => ?_⟩⟩
    by_cases hjn : j < bs.length
    · rw [List.getElem_append_left hjn]
      exact hb.lies j hjn
    · obtain rfl : j = n := by rw [List.length_append, List.length_singleton] at hj; omega
      rw [List.getElem_append_right (by omega)]
      refine ⟨x, e, hx, ?_, ?_⟩
      · rw [hc]; simp; omega
      · simp; omega
/-- a list of pairs that came in -/
theorem Ids.of {w : World} {ao : Option Addr} {cap : Nat} {len : Nat} (l : len ≤ cap) (m : cap ≤ maxLen)
    (h : ∀ i, i < len → ∃ (x : Addr) (e0 e1 : Int), ao = some x ∧ x.block < w.heap.size ∧ w.cell? (x.add (i * 2)) = some (.int .i64 e0) ∧ w.cell? (x.add (i * 2 + 1)) = some (.int .i64 e1) ∧ (Lit.int .i64 e0).wf = true ∧ (Lit.int .i64 e1).wf = true) :
    ∃ xs : List ID, xs.length = len ∧ Ids w ao cap xs ∧ ∀ x ∈ xs, (-9223372036854775808 ≤ x.1 ∧ x.1 ≤ 9223372036854775807) ∧ -9223372036854775808 ≤ x.2 ∧ x.2 ≤ 9223372036854775807 := by
  have key : ∀ n, n ≤ len → ∃ xs : List ID, xs.length = n ∧ (∀ j (h : j < xs.length), ∃ x : Addr, ao = some x ∧ x.block < w.heap.size ∧ w.cell? (x.add (j * 2)) = some (.int .i64 xs[j].1) ∧ w.cell? (x.add (j * 2 + 1)) = some (.int .i64 xs[j].2)) ∧
      ∀ x ∈ xs, (-9223372036854775808 ≤ x.1 ∧ x.1 ≤ 9223372036854775807) ∧ -9223372036854775808 ≤ x.2 ∧ x.2 ≤ 9223372036854775807 := by
    intro n
    induction n with
    | zero => intro _; exact ⟨[], rfl, fun j hj => absurd hj (by simp), fun x hx => by cases hx⟩
    | succ n ih =>
      intro hn
      obtain ⟨xs, hl, hb, hw⟩ := ih (by omega)
      obtain ⟨x, e0, e1, e, hx, hc, hd, w0, w1⟩ := h n (by omega)
      have v0 : -9223372036854775808 ≤ e0 ∧ e0 ≤ 9223372036854775807 := by simpa [Lit.wf, IntKind.min, IntKind.max, IntKind.signed, IntKind.bits] using w0
      have v1 : -9223372036854775808 ≤ e1 ∧ e1 ≤ 9223372036854775807 := by simpa [Lit.wf, IntKind.min, IntKind.max, IntKind.signed, IntKind.bits] using w1
      refine ⟨xs ++ [(e0, e1)], by simp [hl], fun j hj => ?_, fun y hy => ?_⟩
      · by_cases hjn : j < xs.length
        · rw [List.getElem_append_left hjn]
          exact hb j hjn
        · obtain rfl : j = n := by rw [List.length_append, List.length_singleton] at hj; omega
          rw [List.getElem_append_right (by omega)]
          exact ⟨x, e, hx, by rw [hc]; simp, by rw [hd]; simp⟩
      · rcases List.mem_append.1 hy with hy | hy
        · exact hw y hy
        · obtain rfl : y = (e0, e1) := by simpa using hy
          exact ⟨v0, v1⟩
  obtain ⟨xs, hl, hb, hw⟩ := key len (Nat.le_refl _)
  exact ⟨xs, hl, ⟨by omega, m, hb⟩, hw⟩
end Go.Proofs.YtkemljpjfbmjgaaDoor.Dp
