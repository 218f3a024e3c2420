/-
  Contract: Less: two sets side by side. Conditions: as the theorem says.
-/
import Derived.Test.YtkemljpjfbmjgaaDoorDepsJ
namespace Go.Proofs.YtkemljpjfbmjgaaDoor.Dp
open Go.RowKit

/-- in the midst of it -/
structure MidL (w : World) (xs ys : List ID) (cap : Nat) (ao bo : Option Addr) (ca cb : Nat) (xs1 ys1 done : List ID) (W : World) : Prop where
  ra : Idz w ao ca xs1
  rb : Idz w bo cb ys1
  own : W.ownsRow w.heap.size 58 2 (.slice (some ⟨w.heap.size, 0, none⟩) done.length cap) done.length (cellsD done)
  bel : Below w.heap.size w W
  all : done ++ minusD xs1 ys1 = minusD xs ys
  len : done.length + xs1.length ≤ cap
end Go.Proofs.YtkemljpjfbmjgaaDoor.Dp
