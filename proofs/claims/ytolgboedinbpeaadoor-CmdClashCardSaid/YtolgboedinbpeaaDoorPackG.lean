/-
  Contracts: the document's Flag; Text and Flag as they are put; the chapter's examples.
-/
import Derived.Test.YtolgboedinbpeaaDoorPackF
namespace Go.Proofs.YtolgboedinbpeaaDoor.Pk
open Go.RowKit
set_option maxRecDepth 100000

/-- a text as it is put -/
theorem puttext_any (s x : ByteArray) (ok : Bool) (h : textB s = (x, ok)) (hs : s.size ≤ 281474976702464) (w : World) :
    Calls Tryd.prog 23 #[.string s] w fun e w' => e = .returned (.tuple #[.string x, .bool ok]) ∧ Below w.heap.size w w' := by
  unfold textB at h
  by_cases hl : s.size ≤ 65535
  · rw [if_pos hl] at h
    obtain ⟨h1, rfl⟩ : numB s.size 2 ++ s = x ∧ true = ok := by simpa using h
    have h2 : (numB s.size 2).size + s.size ≤ 65543 := by have := numB_size s.size 2; omega
    have H1 := Lib.hid h1
    clear h h1
    go_enter Tryd.func23, Tryd.ntmps23
    go_wp2_with fail
    refine (put_any s.size 2 (by omega) _).mono ?_
    rintro e w1 ⟨rfl, hb⟩
    go_wp2
    rw [H1.out]
    go_ret2
    exact ⟨rfl, hb⟩
  · rw [if_neg hl] at h
    obtain ⟨rfl, rfl⟩ : (⟨#[]⟩ : ByteArray) = x ∧ false = ok := by simpa using h
    clear h
    go_enter Tryd.func23, Tryd.ntmps23
    go_wp2
    go_ret2
    exact ⟨rfl, Below.refl _ _⟩

theorem refputtext_any (s x : ByteArray) (ok : Bool) (h : textB s = (x, ok)) (hs : s.size ≤ 281474976702464) (w : World) :
    Calls Tryd.prog 25 #[.string s] w fun e w' => e = .returned (.tuple #[.string x, .bool ok]) ∧ Below w.heap.size w w' := by
  unfold textB at h
  by_cases hl : s.size ≤ 65535
  · rw [if_pos hl] at h
    obtain ⟨h1, rfl⟩ : numB s.size 2 ++ s = x ∧ true = ok := by simpa using h
    have h2 : (numB s.size 2).size + s.size ≤ 65543 := by have := numB_size s.size 2; omega
    have H1 := Lib.hid h1
    clear h h1
    go_enter Tryd.func25, Tryd.ntmps25
    go_wp2_with fail
    refine (ref_put_any s.size 2 (by omega) _).mono ?_
    rintro e w1 ⟨rfl, hb⟩
    go_wp2
    rw [H1.out]
    go_ret2
    exact ⟨rfl, hb⟩
  · rw [if_neg hl] at h
    obtain ⟨rfl, rfl⟩ : (⟨#[]⟩ : ByteArray) = x ∧ false = ok := by simpa using h
    clear h
    go_enter Tryd.func25, Tryd.ntmps25
    go_wp2
    go_ret2
    exact ⟨rfl, Below.refl _ _⟩
end Go.Proofs.YtolgboedinbpeaaDoor.Pk
