/-
  Plain mathematics: a set of few pairs, by bytes. Nothing of the program.
-/
import Derived.Test.YtkemljpjfbmjgaaDoorDepsM
namespace Go.Proofs.YtkemljpjfbmjgaaDoor.Dp

/-- which of three times twelve a byte names -/
def slotF (b : Nat) : Nat := b % 3 * 12 + b / 3 % 12
theorem slotF_lt (b : Nat) : slotF b < 36 := by unfold slotF; omega
def pairF (i : Nat) : ID := ((i / 12 + 1 : Nat), (i % 12 + 1 : Nat))
/-- the set of those that one of the bytes names -/
def fewD (bs : List Nat) : List ID := ((List.range 36).filter fun i => bs.any fun b => slotF b == i).map pairF

theorem mem_few {bs : List Nat} {x : ID} : x ∈ fewD bs ↔ ∃ b ∈ bs, pairF (slotF b) = x := by
  unfold fewD
  simp only [List.mem_map, List.mem_filter, List.mem_range, List.any_eq_true, beq_iff_eq]
  constructor
  · rintro ⟨i, ⟨_, b, hb, rfl⟩, e⟩
    exact ⟨b, hb, e⟩
  · rintro ⟨b, hb, e⟩
    exact ⟨_, ⟨slotF_lt b, b, hb, rfl⟩, e⟩
theorem few_bd {bs : List Nat} {x : ID} (h : x ∈ fewD bs) : 1 ≤ x.1 ∧ x.1 ≤ 3 ∧ 1 ≤ x.2 ∧ x.2 ≤ 12 := by
  obtain ⟨b, _, rfl⟩ := mem_few.1 h
  have := slotF_lt b
  unfold pairF
  simp only
  omega
theorem few_length (bs : List Nat) : (fewD bs).length ≤ 36 := by
  unfold fewD
  rw [List.length_map]
  exact Nat.le_trans (List.length_filter_le _ _) (by simp)
theorem pair_lt {i j : Nat} (h : i < j) : Lt (pairF i) (pairF j) := by
  unfold Lt pairF
  simp only
  omega
theorem few_set (bs : List Nat) : IsSet (fewD bs) := by
  refine ⟨fun x hx => (rightD_iff x).2 ?_, ?_⟩
  · have := few_bd hx; omega
  · unfold fewD
    rw [List.pairwise_map]
    exact (List.pairwise_lt_range.filter _).imp fun h => pair_lt h
/-- the set so far, and the next one of those that may be in it -/
def partF (bs : List Nat) (i : Nat) : List ID := ((List.range i).filter fun i => bs.any fun b => slotF b == i).map pairF
theorem part_all (bs : List Nat) : partF bs 36 = fewD bs := rfl
theorem part_next (bs : List Nat) (i : Nat) : partF bs (i + 1) = if (bs.any fun b => slotF b == i) = true then partF bs i ++ [pairF i] else partF bs i := by
  unfold partF
  rw [List.range_succ, List.filter_append, List.map_append]
  split
  · rename_i h
    rw [show (List.filter (fun i => bs.any fun b => slotF b == i) [i]) = [i] by rw [List.filter_cons, if_pos h, List.filter_nil]]
    rfl
  · rename_i h
    rw [show (List.filter (fun i => bs.any fun b => slotF b == i) [i]) = [] by rw [List.filter_cons, if_neg h, List.filter_nil]]
    exact List.append_nil _
end Go.Proofs.YtkemljpjfbmjgaaDoor.Dp
