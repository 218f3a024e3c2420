/-
  A text of zeros, made as a row of bytes and turned into a text. Conditions: as each theorem says.
-/
import Derived.Test.YtgdaphckgckaaaaDiskX
import Derived.Laws.MakeOwn
import Derived.Laws.IdiomStrings
namespace Go.Proofs.Ytgdaphckgckaaaa.Dk
open Go.RowKit

/-- the row that is made -/
def zeros (n : Nat) : Array Value := Array.replicate n (.int .u8 0)

theorem make_zeros (n : Nat) (hn : n ≤ 281474976710656) (W : World) :
    (Instr.makeSlice 59 (.int .i64 (n : Int)) (.int .i64 (n : Int))).run Try.prog W = .ok (.slice (some ⟨W.heap.size, 0, none⟩) n n) (W.alloc (.cells (zeros n) 5)) := by
  obtain ⟨i, hi, hz, h1, h2⟩ := info_parts (P := Try.prog) (e := 5) (z := .int .u8 0) (size := 1) (bytes := 1) (by kernel_rfl)
  have h := run_make (P := Try.prog) W 59 5 i (.int .u8 0) Try.underlying59 hi hz .i64 .i64 (n : Int) (n : Int) (by omega) (by omega) (by rw [h2]; omega) (by omega)
  rw [h, h1]
  have e : madeCells (Value.int .u8 0).cells (((n : Int).toNat) * 1) = zeros n := by
    unfold zeros madeCells
    apply Array.ext
    · simp
    · intro j h1 h2
      simp [Value.cells, Nat.mod_one]
  rw [e]
  rfl

/-- the text of n zeros -/
def zeroText (n : Nat) : ByteArray := ⟨(List.replicate n (0 : UInt8)).toArray⟩
theorem zeroText_size (n : Nat) : (zeroText n).size = n := by rw [Lib.size_eq]; simp [zeroText]

theorem conv_zeros (n : Nat) (W : World) : (convert 59 9 (.slice (some ⟨W.heap.size, 0, none⟩) n n)).run Try.prog (W.alloc (.cells (zeros n) 5)) = .ok (.string (zeroText n)) (W.alloc (.cells (zeros n) 5)) := by
  have h := run_convert_bytes_back (P := Try.prog) (W.alloc (.cells (zeros n) 5)) 59 9 5 ⟨W.heap.size, 0, none⟩ n (List.replicate n (0 : UInt8)) Try.underlying59 Try.underlying5 Try.underlying9 ?_
  · rw [List.length_replicate] at h
    exact h
  · intro j hj
    have hj' : j < n := by simpa using hj
    have hadd : (⟨W.heap.size, 0, none⟩ : Addr).add j = ⟨W.heap.size, j, none⟩ := by unfold Addr.add; split <;> simp_all
    rw [hadd, cell_of_row _ W.heap.size j (zeros n) 5 (0, 0) (heap_alloc_new W _)]
    simp [zeros, hj']

end Go.Proofs.Ytgdaphckgckaaaa.Dk
