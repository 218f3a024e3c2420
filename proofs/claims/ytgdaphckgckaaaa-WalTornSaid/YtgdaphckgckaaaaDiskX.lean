/-
  Contract of the statements' own examples: they are so, and memory that was there is as it was.
-/
import Derived.Test.YtgdaphckgckaaaaDiskC
import Derived.Laws.Small
import Derived.Lib.Strings
namespace Go.Proofs.Ytgdaphckgckaaaa.Dk
open Go.RowKit

/-- Bytes, said of a text -/
theorem bytes_str {B a : Nat} {l : List UInt8} {sy ro : Nat} {h : Bool} {w : World} (D : DiskAt B a l sy ro h w) (y : ByteArray) (hy : y.data.toList = l) :
    Calls Try.prog 30 #[.pointer (some ⟨a, 0, none⟩)] w fun e w' => e = .returned (.string y) ∧ DiskAt B a l sy ro h w' ∧ Below w.heap.size w w' := by
  refine (bytes_any D).mono ?_
  rintro e w' ⟨rfl, hb⟩
  have e1 : (⟨l.toArray⟩ : ByteArray) = y := by subst hy; rfl
  exact ⟨by rw [e1], D.below hb, hb⟩

theorem DiskAt.said {B a : Nat} {l l' : List UInt8} {sy sy' ro : Nat} {h : Bool} {w : World} (D : DiskAt B a l sy ro h w) (hl : l = l') (hs : sy = sy') : DiskAt B a l' sy' ro h w := by
  subst hl hs; exact D

theorem data_append (x y : ByteArray) : (x ++ y).data.toList = x.data.toList ++ y.data.toList := by simp
theorem data_length (x : ByteArray) : x.data.toList.length = x.size := (Lib.size_eq x).symm

/-- the first n bytes of a text, as the laws cut it -/
theorem cut_min (s : ByteArray) (k : Nat) (K : Int) (hK : K = (k : Int)) : ∃ m : Nat, (∀ W, (Builtin.min_ #[3, 3] 3 #[.int .i64 (s.size : Int), .int .i64 K]).run Try.prog W = .ok (.int .i64 (m : Int)) W) ∧ (0 : Int) ≤ (m : Int) ∧ (m : Int) ≤ (s.size : Int) ∧ m ≤ k ∧ (s.extract 0 m).size = m := by
  refine ⟨min s.size k, fun W => ?_, by omega, by omega, by omega, by rw [ByteArray.size_extract]; omega⟩
  rw [run_min_int2]
  have : (if K < (s.size : Int) then K else (s.size : Int)) = ((min s.size k : Nat) : Int) := by split <;> omega
  rw [this]

theorem behind {w w1 w2 : World} (h : Below w.heap.size w w1) (k : Below w1.heap.size w1 w2) : Below w.heap.size w w2 := h.trans (k.mono h.size)
end Go.Proofs.Ytgdaphckgckaaaa.Dk
