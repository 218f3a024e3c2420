/-
  A disk in memory: its struct, its list of pieces, its pieces; that it is kept while other blocks turn. Conditions: as each theorem says.
-/
import Derived.Test.YtgdaphckgckaaaaRows
import Derived.Test.YtgdaphckgckaaaaDiskM
import Derived.WalkKit
import Derived.ProofKit
import Derived.Below
import Derived.WalkSmall
import Derived.WalkMore
import Derived.ScopeJumps
import Derived.Lib.Hide
import Derived.Lib.UnsafeStr
import Derived.Lib.Builder
import Derived.Lib.BufferMore
import Derived.Lib.BufferWrite
import Derived.Deep.AppendLies
import Derived.Deep.Draws
namespace Go.Proofs.Ytgdaphckgckaaaa.Dk
open Go.RowKit

/-- the struct of a disk, in block a -/
def Head (w : World) (a : Nat) (v : Value) (n sy ro : Nat) (h : Bool) : Prop :=
  w.heap[a]? = some (.cells #[v, .int .i64 n, .int .i64 sy, .int .i64 ro, .bool h] 75 (0, 0))

/-- the first m pieces of a text lie in rows of their own -/
structure Pieces (B m : Nat) (l : List UInt8) (vs : List Value) (w : World) : Prop where
  each : ∀ i, i < m → ∃ u, vs[i]? = some u ∧ w.ownsRow B 5 1 u (chunk l i).length (Lib.byteCells (chunk l i))
  apart : ∀ i j u u', i < m → j < m → i ≠ j → vs[i]? = some u → vs[j]? = some u' → u.ownBlock = none ∨ u.ownBlock ≠ u'.ownBlock

/-- .. the whole disk, of m pieces -/
structure Disk (B a m : Nat) (l : List UInt8) (sy ro : Nat) (h : Bool) (v : Value) (vs : List Value) (w : World) : Prop where
  base : B ≤ a
  heap : B ≤ w.heap.size
  head : Head w a v l.length sy ro h
  row : w.ownsRow B 59 1 v m vs
  pieces : Pieces B m l vs w
  sy_le : sy ≤ l.length
  len_le : l.length ≤ ro
  ro_le : ro ≤ 16777216
  ro_pos : 1 ≤ ro

/-- a disk that holds l, of which sy bytes are synced -/
def DiskAt (B a : Nat) (l : List UInt8) (sy ro : Nat) (h : Bool) (w : World) : Prop := ∃ v vs, Disk B a (pcs l.length) l sy ro h v vs w

/-- blocks below B are as they were; so are all that are no part of a disk -/
structure Far (B : Nat) (w w' : World) : Prop where
  below : Below B w w'
  kept : ∀ (k : Nat) (cs : Array Value) (t : TypeId) (fz : Nat × Nat), w.heap[k]? = some (.cells cs t fz) → t ≠ 5 → t ≠ 59 → t ≠ 75 → w'.heap[k]? = some (.cells cs t fz)

theorem Far.refl (B : Nat) (w : World) : Far B w w := ⟨Below.refl B w, fun _ _ _ _ h _ _ _ => h⟩
theorem Far.trans {B : Nat} {w1 w2 w3 : World} (h : Far B w1 w2) (k : Far B w2 w3) : Far B w1 w3 :=
  ⟨h.below.trans k.below, fun i cs t fz h1 a b c => k.kept i cs t fz (h.kept i cs t fz h1 a b c) a b c⟩

theorem heap_lt {w : World} {k : Nat} {o : Obj} (h : w.heap[k]? = some o) : k < w.heap.size := (Array.getElem?_eq_some_iff.1 h).1

theorem Far.of_grown {B : Nat} {w w' : World} {row : Option Nat} (hg : w.grownBy w' row) (hB : B ≤ w.heap.size)
    (hr : ∀ k, row = some k → B ≤ k ∧ ∃ cs t fz, w.heap[k]? = some (.cells cs t fz) ∧ (t = 5 ∨ t = 59 ∨ t = 75)) : Far B w w' := by
  refine ⟨(Below.refl B w).grown hg hB fun k hk => (hr k hk).1, fun k cs t fz h1 a b c => ?_⟩
  rw [hg.block k (heap_lt h1) ?_]
  · exact h1
  · intro e
    obtain ⟨_, cs', t', fz', h2, h3⟩ := hr k e.symm
    rw [h1] at h2
    simp only [Option.some.injEq, Obj.cells.injEq] at h2
    obtain ⟨_, rfl, _⟩ := h2
    rcases h3 with h3 | h3 | h3
    · exact a h3
    · exact b h3
    · exact c h3

theorem grown_of_below {w w' : World} (h : Below w.heap.size w w') : w.grownBy w' none := ⟨h.os, h.tape, h.output, h.size, fun k hk _ => h.block k hk⟩

theorem Far.of_below {B : Nat} {w w' : World} (h : Below w.heap.size w w') (hB : B ≤ w.heap.size) : Far B w w' := .of_grown (grown_of_below h) hB (fun _ e => by cases e)

theorem grown_trans {w w1 w2 : World} {row : Option Nat} (h : w.grownBy w1 row) (k : w1.grownBy w2 row) : w.grownBy w2 row :=
  ⟨k.os.trans h.os, k.tape.trans h.tape, k.output.trans h.output, Nat.le_trans h.size k.size, fun i hi hne => (k.block i (Nat.lt_of_lt_of_le hi h.size) hne).trans (h.block i hi hne)⟩
theorem grown_drew {w : World} {row : Option Nat} : w.grownBy w.drew row := ⟨rfl, rfl, rfl, Nat.le_refl _, fun _ _ _ => rfl⟩

theorem own_ne {w : World} {B : Nat} {e T : TypeId} {v : Value} {n : Nat} {xs : List Value} {b : Nat} {cs : Array Value} {fr : Nat × Nat} (hown : w.ownsRow B e 1 v n xs) (hb : w.heap[b]? = some (.cells cs T fr)) (hTe : T ≠ e) : v.ownBlock ≠ some b :=
  Lib.ownBlock_ne hown hb hTe

/-- the row that a value owns, as a block -/
theorem own_block {w : World} {B : Nat} {e : TypeId} {v : Value} {n : Nat} {xs : List Value} {k : Nat} (hown : w.ownsRow B e 1 v n xs) (hk : v.ownBlock = some k) : B ≤ k ∧ ∃ cs, w.heap[k]? = some (.cells cs e (0, 0)) := by
  rcases hown.2 with ⟨rfl, _⟩ | ⟨g, cap, cur, rfl, hb, hg, _⟩
  · simp [Value.ownBlock] at hk
  · simp [Value.ownBlock] at hk
    subst hk
    exact ⟨hb, cur, hg⟩

theorem Head.lt {w : World} {a n sy ro : Nat} {v : Value} {h : Bool} (k : Head w a v n sy ro h) : a < w.heap.size := heap_lt k

theorem Head.cells {w : World} {a n sy ro : Nat} {v : Value} {h : Bool} (k : Head w a v n sy ro h) :
    w.cell? ⟨a, 0, none⟩ = some v ∧ w.cell? ⟨a, 1, none⟩ = some (.int .i64 n) ∧ w.cell? ⟨a, 2, none⟩ = some (.int .i64 sy) ∧ w.cell? ⟨a, 3, none⟩ = some (.int .i64 ro) ∧ w.cell? ⟨a, 4, none⟩ = some (.bool h) := by
  refine ⟨?_, ?_, ?_, ?_, ?_⟩ <;> (rw [Lib.cell_of_heap k]; rfl)
theorem Head.free {w : World} {a n sy ro : Nat} {v : Value} {h : Bool} (k : Head w a v n sy ro h) (i : Nat) : w.frozen? ⟨a, i, none⟩ = false := Lib.frozen_of_heap k i

theorem Head.kept {w w' : World} {a n sy ro : Nat} {v : Value} {h : Bool} {row : Option Nat} (k : Head w a v n sy ro h) (hg : w.grownBy w' row) (hne : some a ≠ row) : Head w' a v n sy ro h :=
  (hg.block a k.lt hne).trans k
theorem Head.set0 {w : World} {a n sy ro : Nat} {v : Value} {h : Bool} (k : Head w a v n sy ro h) (u : Value) : Head (w.setCell ⟨a, 0, none⟩ u) a u n sy ro h := Lib.heap_setCell_same (i := 0) k u
theorem Head.set1 {w : World} {a n sy ro : Nat} {v : Value} {h : Bool} (k : Head w a v n sy ro h) (u : Nat) : Head (w.setCell ⟨a, 1, none⟩ (.int .i64 u)) a v u sy ro h := Lib.heap_setCell_same (i := 1) k _
theorem Head.set2 {w : World} {a n sy ro : Nat} {v : Value} {h : Bool} (k : Head w a v n sy ro h) (u : Nat) : Head (w.setCell ⟨a, 2, none⟩ (.int .i64 u)) a v n u ro h := Lib.heap_setCell_same (i := 2) k _
theorem Head.set3 {w : World} {a n sy ro : Nat} {v : Value} {h : Bool} (k : Head w a v n sy ro h) (u : Nat) : Head (w.setCell ⟨a, 3, none⟩ (.int .i64 u)) a v n sy u h := Lib.heap_setCell_same (i := 3) k _
theorem Head.set4 {w : World} {a n sy ro : Nat} {v : Value} {h : Bool} (k : Head w a v n sy ro h) (u : Bool) : Head (w.setCell ⟨a, 4, none⟩ (.bool u)) a v n sy ro u := Lib.heap_setCell_same (i := 4) k _

theorem Pieces.kept {B m : Nat} {l : List UInt8} {vs : List Value} {w w' : World} {row : Option Nat} (h : Pieces B m l vs w) (hg : w.grownBy w' row)
    (hne : ∀ i u, i < m → vs[i]? = some u → u.ownBlock = none ∨ u.ownBlock ≠ row) : Pieces B m l vs w' :=
  ⟨fun i hi => by
    obtain ⟨u, h1, h2⟩ := h.each i hi
    exact ⟨u, h1, h2.kept hg (hne i u hi h1)⟩, h.apart⟩

/-- .. where the row that turns is none of bytes -/
theorem Pieces.kept_other {B m : Nat} {l : List UInt8} {vs : List Value} {w w' : World} {row : Option Nat} (h : Pieces B m l vs w) (hg : w.grownBy w' row)
    (hr : ∀ k, row = some k → ∃ cs t fz, w.heap[k]? = some (.cells cs t fz) ∧ t ≠ 5) : Pieces B m l vs w' := by
  refine h.kept hg fun i u hi hu => ?_
  obtain ⟨u', h1, h2⟩ := h.each i hi
  rw [hu] at h1
  obtain rfl := Option.some.inj h1
  rcases ho : u.ownBlock with _ | g
  · exact .inl rfl
  · right
    intro e
    obtain ⟨cs, t, fz, h3, h4⟩ := hr g e.symm
    exact own_ne h2 h3 h4 ho

theorem own_form {w : World} {B : Nat} {e : TypeId} {v : Value} {n : Nat} {xs : List Value} (h : w.ownsRow B e 1 v n xs) : ∃ ao cap, v = .slice ao n cap := by
  rcases h.2 with ⟨hv, h0⟩ | ⟨g, cap, cur, hv, _⟩
  · exact ⟨none, 0, by rw [hv, h0]⟩
  · exact ⟨_, _, hv⟩

/-- what lies at a place of the list of pieces -/
theorem Disk.piece {B a m : Nat} {l : List UInt8} {sy ro : Nat} {h : Bool} {ao : Option Addr} {cap : Nat} {vs : List Value} {w : World} (D : Disk B a m l sy ro h (.slice ao m cap) vs w) (k : Nat) (hk : k < m) (hne : chunk l k ≠ []) :
    ∃ p g c, ao = some ⟨p, 0, none⟩ ∧ p < w.heap.size ∧ g < w.heap.size ∧ m ≤ cap ∧ cap ≤ maxLen ∧ w.cell? ⟨p, k, none⟩ = some (.slice (some ⟨g, 0, none⟩) (chunk l k).length c) ∧
      ∀ j u, (Lib.byteCells (chunk l k))[j]? = some u → w.cell? ((⟨g, 0, none⟩ : Addr).add j) = some u := by
  obtain ⟨u, hu, hown⟩ := D.pieces.each k hk
  have hrow := D.row
  rcases hown.2 with ⟨_, h0⟩ | ⟨g, c, cur, rfl, hbg, hg, _⟩
  · exact absurd (List.eq_nil_of_length_eq_zero h0) hne
  · rcases D.row.2 with ⟨_, h0⟩ | ⟨p, cap', cur', hv, hbp, hp, hmc, hcm, _⟩
    · omega
    · simp only [Value.slice.injEq] at hv
      obtain ⟨rfl, _, rfl⟩ := hv
      refine ⟨p, g, c, rfl, heap_lt hp, heap_lt hg, hmc, hcm, ?_, hown.cells (g := g) rfl⟩
      rw [hrow.cellAt k (by omega)]
      exact hu

end Go.Proofs.Ytgdaphckgckaaaa.Dk
