/-
  Plain mathematics of a text kept in pieces of 4096 bytes: how many pieces, which bytes each has, what an addition behind and a cut do to them. Conditions: as each theorem says.
-/
namespace Go.Proofs.Ytgdaphckgckaaaa.Dk

/-- piece i of a text -/
def chunk (l : List UInt8) (i : Nat) : List UInt8 := (l.drop (4096 * i)).take 4096
/-- how many pieces a text of n bytes has -/
def pcs (n : Nat) : Nat := (n + 4095) / 4096

theorem chunk_length (l : List UInt8) (i : Nat) : (chunk l i).length = min 4096 (l.length - 4096 * i) := by
  simp [chunk, List.length_take, List.length_drop]

theorem take_chunk (l : List UInt8) (i : Nat) : l.take (4096 * i) ++ chunk l i = l.take (4096 * (i + 1)) := by
  rw [chunk, Nat.mul_add, Nat.mul_one, List.take_add]

theorem take_all (l : List UInt8) : l.take (4096 * pcs l.length) = l :=
  List.take_of_length_le (by unfold pcs; omega)

theorem chunk_ne (l : List UInt8) (i : Nat) (h : i < pcs l.length) : chunk l i ≠ [] := by
  intro e
  have := chunk_length l i
  rw [e] at this
  unfold pcs at h
  simp at this
  omega

theorem chunk_out (l : List UInt8) (i : Nat) (h : l.length ≤ 4096 * i) : chunk l i = [] := by
  rw [chunk, List.drop_of_length_le h]; simp

theorem chunk_append_lt (l s : List UInt8) (i : Nat) (h : 4096 * (i + 1) ≤ l.length) : chunk (l ++ s) i = chunk l i := by
  unfold chunk
  rw [List.drop_append_of_le_length (by omega), List.take_append_of_le_length (by rw [List.length_drop]; omega)]

theorem chunk_append_last (l s : List UInt8) (k : Nat) (h : 4096 * k ≤ l.length) (h2 : l.length + s.length ≤ 4096 * (k + 1)) : chunk (l ++ s) k = chunk l k ++ s := by
  unfold chunk
  rw [List.drop_append_of_le_length h, List.take_of_length_le (by rw [List.length_append, List.length_drop]; omega), List.take_of_length_le (by rw [List.length_drop]; omega)]

theorem chunk_take (l : List UInt8) (n i : Nat) : chunk (l.take n) i = (chunk l i).take (n - 4096 * i) := by
  unfold chunk
  rw [List.drop_take, List.take_take, List.take_take, Nat.min_comm]

theorem chunk_take_lt (l : List UInt8) (n i : Nat) (h : 4096 * (i + 1) ≤ n) : chunk (l.take n) i = chunk l i := by
  rw [chunk_take, List.take_of_length_le (by rw [chunk_length]; omega)]

theorem pcs_zero : pcs 0 = 0 := rfl
theorem pcs_full (n : Nat) (h : n % 4096 = 0) : pcs n = n / 4096 := by unfold pcs; omega
theorem pcs_part (n : Nat) (h : n % 4096 ≠ 0) : pcs n = n / 4096 + 1 := by unfold pcs; omega
theorem pcs_add (n m : Nat) (h : 0 < m) (h2 : m ≤ 4096 - n % 4096) : pcs (n + m) = n / 4096 + 1 := by unfold pcs; omega

end Go.Proofs.Ytgdaphckgckaaaa.Dk
