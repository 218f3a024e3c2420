/-
  Contracts: Flag as it is read and as it is put; Text as it is put; the chapter's examples.
-/
import Derived.Test.YtolgboedinbpeaaDoorPackT
namespace Go.Proofs.YtolgboedinbpeaaDoor.Pk
open Go.RowKit

/-- a number that is read of a bad reader, or that makes it bad, is 0 -/
theorem number_bad' (s : ByteArray) (b : Bool) (k : Int) (n : Nat) (y : ByteArray) (h : number s b k = (n, y, true)) : n = 0 ∧ y = ⟨#[]⟩ := by
  unfold number at h
  split at h
  · rcases next_ways s b k with ⟨m, rfl, rfl, hm⟩ | hm
    · rw [next_yes s m hm] at h; simp at h
    · rw [next_no s b k hm] at h
      obtain ⟨h1, h2⟩ : 0 = n ∧ (⟨#[]⟩ : ByteArray) = y := by simpa [val] using h
      exact ⟨h1.symm, h2.symm⟩
  · obtain ⟨h1, h2⟩ : 0 = n ∧ (⟨#[]⟩ : ByteArray) = y := by simpa using h
    exact ⟨h1.symm, h2.symm⟩

/-- of a flag three ways -/
theorem flag_ways (s : ByteArray) (b : Bool) (f : Bool) (y : ByteArray) (z : Bool) (h : flag s b = (f, y, z)) :
    (∃ n y' z', number s b 1 = (n, y', z') ∧ 1 < n ∧ n < 256 ∧ f = false ∧ y = ⟨#[]⟩ ∧ z = true) ∨ (number s b 1 = (1, y, z) ∧ z = false ∧ f = true) ∨ (number s b 1 = (0, y, z) ∧ f = false) := by
  obtain ⟨n, y', z', h1⟩ : ∃ n y' z', number s b 1 = (n, y', z') := ⟨_, _, _, rfl⟩
  have hn : n < 256 := by have := number_lt s b 1; rw [show ((1 : Nat) : Int) = 1 from rfl, h1] at this; simpa using this
  unfold flag at h
  rw [h1] at h
  by_cases h2 : 1 < n
  · rw [if_pos (.inr h2)] at h
    obtain ⟨rfl, rfl, rfl⟩ : false = f ∧ (⟨#[]⟩ : ByteArray) = y ∧ true = z := by simpa using h
    exact .inl ⟨n, y', z', h1, h2, hn, rfl, rfl, rfl⟩
  · cases z'
    · rw [if_neg (by simp; omega)] at h
      obtain ⟨rfl, rfl, rfl⟩ : (n == 1) = f ∧ y' = y ∧ false = z := by simpa using h
      rcases (show n = 0 ∨ n = 1 by omega) with rfl | rfl
      · exact .inr (.inr ⟨h1, rfl⟩)
      · exact .inr (.inl ⟨h1, rfl, rfl⟩)
    · rw [if_pos (.inl rfl)] at h
      obtain ⟨rfl, rfl, rfl⟩ : false = f ∧ (⟨#[]⟩ : ByteArray) = y ∧ true = z := by simpa using h
      obtain ⟨rfl, rfl⟩ := number_bad' s b 1 n y' h1
      exact .inr (.inr ⟨h1, rfl⟩)
end Go.Proofs.YtolgboedinbpeaaDoor.Pk
