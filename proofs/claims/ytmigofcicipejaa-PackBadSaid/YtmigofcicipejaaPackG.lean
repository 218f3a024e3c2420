/-
  Contracts: the document's Flag; Text and Flag as they are put; the chapter's examples.
-/
import Derived.Test.YtmigofcicipejaaPackF
namespace Go.Proofs.Ytmigofcicipejaa.Pk
open Go.RowKit

theorem refflag_any (s : ByteArray) (b : Bool) (f : Bool) (y : ByteArray) (z : Bool) (h : flag s b = (f, y, z)) (hs : s.size ≤ maxLen) (w : World) :
    Calls Try.prog 13 #[.agg #[.string s, .bool b]] w fun e w' => e = .returned (.tuple #[.bool f, .agg #[.string y, .bool z]]) ∧ Below w.heap.size w w' := by
  obtain ⟨n, y', z', h1⟩ : ∃ n y' z', number s b 1 = (n, y', z') := ⟨_, _, _, rfl⟩
  have hw : (z' = true ∧ (f, y, z) = (false, ⟨#[]⟩, true)) ∨ (z' = false ∧ 1 < n ∧ n < 256 ∧ (f, y, z) = (false, ⟨#[]⟩, true)) ∨ (z' = false ∧ n = 1 ∧ (f, y, z) = (true, y', false)) ∨ (z' = false ∧ n = 0 ∧ (f, y, z) = (false, y', false)) := by
    have hn : n < 256 := by have := number_lt s b 1; rw [show ((1 : Nat) : Int) = 1 from rfl, h1] at this; simpa using this
    rw [← h]
    unfold flag
    rw [h1]
    cases z'
    · by_cases h2 : 1 < n
      · exact .inr (.inl ⟨rfl, h2, hn, by rw [if_pos (.inr h2)]⟩)
      · rcases (show n = 0 ∨ n = 1 by omega) with rfl | rfl
        · exact .inr (.inr (.inr ⟨rfl, rfl, rfl⟩))
        · exact .inr (.inr (.inl ⟨rfl, rfl, rfl⟩))
    · exact .inl ⟨rfl, rfl⟩
  have H1 := Lib.hid h1
  clear h h1
  rcases hw with ⟨rfl, hv⟩ | ⟨rfl, h2, h3, hv⟩ | ⟨rfl, rfl, hv⟩ | ⟨rfl, rfl, hv⟩
  all_goals
    simp only [Prod.mk.injEq] at hv
    obtain ⟨rfl, rfl, rfl⟩ := hv
    go_enter Try.func13, Try.ntmps13
    go_wp2_with fail
    refine (refnumber_any s b 1 _ _ _ H1.out hs _).mono ?_
    rintro e w1 ⟨rfl, hb⟩
    obtain ⟨ha, hd, hbW⟩ := boxes hb
    clear hb
    have ⟨A0, A1, A2, A3, A4⟩ := ha
    have ⟨D0, D1, D2, D3, D4⟩ := hd
    go_wp2
  · exact bodyPost_ret (v := .tuple #[.bool false, .agg #[.string ⟨#[]⟩, .bool true]]) (by simp [results, Try.results13, go_sem, D0, D1, D2]) rfl ⟨rfl, ((hbW.setCell (by simp) _).setCell (by simp) _).alloc (by simp; omega) _⟩
  · exact bodyPost_ret (v := .tuple #[.bool false, .agg #[.string ⟨#[]⟩, .bool true]]) (by simp [results, Try.results13, go_sem, D0, D1, D2]) rfl ⟨rfl, ((hbW.setCell (by simp) _).setCell (by simp) _).alloc (by simp; omega) _⟩
  · go_region
    go_wp2
    exact bodyPost_ret (v := .tuple #[.bool true, .agg #[.string y, .bool false]]) (by simp [results, Try.results13, go_sem, D0, D1, D2]) rfl ⟨rfl, (((hbW.setCell (by simp) _).setCell (by simp) _).alloc (by simp; omega) _).drew⟩
  · go_region
    go_wp2
    exact bodyPost_ret (v := .tuple #[.bool false, .agg #[.string y, .bool false]]) (by simp [results, Try.results13, go_sem, D0, D1, D2]) rfl ⟨rfl, (((hbW.setCell (by simp) _).setCell (by simp) _).alloc (by simp; omega) _).drew⟩

/-- a text as it is put -/
theorem puttext_any (s x : ByteArray) (ok : Bool) (h : textB s = (x, ok)) (hs : s.size ≤ 281474976702464) (w : World) :
    Calls Try.prog 18 #[.string s] w fun e w' => e = .returned (.tuple #[.string x, .bool ok]) ∧ Below w.heap.size w w' := by
  unfold textB at h
  by_cases hl : s.size ≤ 65535
  · rw [if_pos hl] at h
    obtain ⟨h1, rfl⟩ : numB s.size 2 ++ s = x ∧ true = ok := by simpa using h
    have h2 : (numB s.size 2).size + s.size ≤ 65543 := by have := numB_size s.size 2; omega
    have H1 := Lib.hid h1
    clear h h1
    go_enter Try.func18, Try.ntmps18
    go_wp2_with fail
    refine (put_any s.size 2 (by omega) _).mono ?_
    rintro e w1 ⟨rfl, hb⟩
    go_wp2
    rw [H1.out]
    go_ret2
    exact ⟨rfl, hb⟩
  · rw [if_neg hl] at h
    obtain ⟨rfl, rfl⟩ : (⟨#[]⟩ : ByteArray) = x ∧ false = ok := by simpa using h
    clear h
    go_enter Try.func18, Try.ntmps18
    go_wp2
    go_ret2
    exact ⟨rfl, Below.refl _ _⟩

theorem refputtext_any (s x : ByteArray) (ok : Bool) (h : textB s = (x, ok)) (hs : s.size ≤ 281474976702464) (w : World) :
    Calls Try.prog 19 #[.string s] w fun e w' => e = .returned (.tuple #[.string x, .bool ok]) ∧ Below w.heap.size w w' := by
  unfold textB at h
  by_cases hl : s.size ≤ 65535
  · rw [if_pos hl] at h
    obtain ⟨h1, rfl⟩ : numB s.size 2 ++ s = x ∧ true = ok := by simpa using h
    have h2 : (numB s.size 2).size + s.size ≤ 65543 := by have := numB_size s.size 2; omega
    have H1 := Lib.hid h1
    clear h h1
    go_enter Try.func19, Try.ntmps19
    go_wp2_with fail
    refine (ref_put_any s.size 2 (by omega) _).mono ?_
    rintro e w1 ⟨rfl, hb⟩
    go_wp2
    rw [H1.out]
    go_ret2
    exact ⟨rfl, hb⟩
  · rw [if_neg hl] at h
    obtain ⟨rfl, rfl⟩ : (⟨#[]⟩ : ByteArray) = x ∧ false = ok := by simpa using h
    clear h
    go_enter Try.func19, Try.ntmps19
    go_wp2
    go_ret2
    exact ⟨rfl, Below.refl _ _⟩

theorem putflag_any (b : Bool) (w : World) : Calls Try.prog 22 #[.bool b] w fun e w' => e = .returned (.string (flagB b)) ∧ Below w.heap.size w w' := by
  cases b
  · go_enter Try.func22, Try.ntmps22
    go_wp2_with fail
    refine (put_any 0 1 (by omega) _).mono ?_
    rintro e w1 ⟨rfl, hb⟩
    go_wp2
    go_ret
    exact ⟨rfl, hb⟩
  · go_enter Try.func22, Try.ntmps22
    go_wp2_with fail
    refine (put_any 1 1 (by omega) _).mono ?_
    rintro e w1 ⟨rfl, hb⟩
    go_wp2
    go_ret
    exact ⟨rfl, hb⟩

theorem refputflag_any (b : Bool) (w : World) : Calls Try.prog 23 #[.bool b] w fun e w' => e = .returned (.string (flagB b)) ∧ w = w' := by
  cases b
  all_goals
    go_enter Try.func23, Try.ntmps23
    go_wp2
    go_ret
    exact ⟨rfl, rfl⟩
end Go.Proofs.Ytmigofcicipejaa.Pk
