/-
  Contracts: Flag as it is read and as it is put; Text as it is put; the chapter's examples.
-/
import Derived.Test.YtmigofcicipejaaPackT
namespace Go.Proofs.Ytmigofcicipejaa.Pk
open Go.RowKit

/-- a number that is read of a bad reader, or that makes it bad, is 0 -/
theorem number_bad' (s : ByteArray) (b : Bool) (k : Int) (n : Nat) (y : ByteArray) (h : number s b k = (n, y, true)) : n = 0 ∧ y = ⟨#[]⟩ := by
  unfold number at h
  split at h
  · rcases next_ways s b k with ⟨m, rfl, rfl, hm⟩ | hm
    · rw [next_yes s m hm] at h; simp at h
    · rw [next_no s b k hm] at h
      obtain ⟨h1, h2⟩ : 0 = n ∧ (⟨#[]⟩ : ByteArray) = y := by simpa [val] using h
      exact ⟨h1.symm, h2.symm⟩
  · obtain ⟨h1, h2⟩ : 0 = n ∧ (⟨#[]⟩ : ByteArray) = y := by simpa using h
    exact ⟨h1.symm, h2.symm⟩

/-- of a flag three ways -/
theorem flag_ways (s : ByteArray) (b : Bool) (f : Bool) (y : ByteArray) (z : Bool) (h : flag s b = (f, y, z)) :
    (∃ n y' z', number s b 1 = (n, y', z') ∧ 1 < n ∧ n < 256 ∧ f = false ∧ y = ⟨#[]⟩ ∧ z = true) ∨ (number s b 1 = (1, y, z) ∧ z = false ∧ f = true) ∨ (number s b 1 = (0, y, z) ∧ f = false) := by
  obtain ⟨n, y', z', h1⟩ : ∃ n y' z', number s b 1 = (n, y', z') := ⟨_, _, _, rfl⟩
  have hn : n < 256 := by have := number_lt s b 1; rw [show ((1 : Nat) : Int) = 1 from rfl, h1] at this; simpa using this
  unfold flag at h
  rw [h1] at h
  by_cases h2 : 1 < n
  · rw [if_pos (.inr h2)] at h
    obtain ⟨rfl, rfl, rfl⟩ : false = f ∧ (⟨#[]⟩ : ByteArray) = y ∧ true = z := by simpa using h
    exact .inl ⟨n, y', z', h1, h2, hn, rfl, rfl, rfl⟩
  · cases z'
    · rw [if_neg (by simp; omega)] at h
      obtain ⟨rfl, rfl, rfl⟩ : (n == 1) = f ∧ y' = y ∧ false = z := by simpa using h
      rcases (show n = 0 ∨ n = 1 by omega) with rfl | rfl
      · exact .inr (.inr ⟨h1, rfl⟩)
      · exact .inr (.inl ⟨h1, rfl, rfl⟩)
    · rw [if_pos (.inl rfl)] at h
      obtain ⟨rfl, rfl, rfl⟩ : false = f ∧ (⟨#[]⟩ : ByteArray) = y ∧ true = z := by simpa using h
      obtain ⟨rfl, rfl⟩ := number_bad' s b 1 n y' h1
      exact .inr (.inr ⟨h1, rfl⟩)

theorem flag_any (s : ByteArray) (b : Bool) (f : Bool) (y : ByteArray) (z : Bool) (h : flag s b = (f, y, z)) (hs : s.size ≤ maxLen) (w : World) :
    Calls Try.prog 12 #[.agg #[.string s, .bool b]] w fun e w' => e = .returned (.tuple #[.bool f, .agg #[.string y, .bool z]]) ∧ Below w.heap.size w w' := by
  rcases flag_ways s b f y z h with ⟨n, y', z', h1, h2, h3, rfl, rfl, rfl⟩ | ⟨h1, rfl, rfl⟩ | ⟨h1, rfl⟩
  · have H1 := Lib.hid h1
    clear h h1
    go_enter Try.func12, Try.ntmps12
    go_wp2
    refine scope_ahead 0 rfl ?_
    go_wp2_with fail
    refine (number_any s b 1 n y' z' H1.out hs _).mono ?_
    rintro e w1 ⟨rfl, hb⟩
    obtain ⟨ha, hd, hbW⟩ := boxes hb
    clear hb
    have ⟨A0, A1, A2, A3, A4⟩ := ha
    go_wp2_with fail
    go_step3
    refine ⟨rfl, ?_⟩
    have hd' := (hd.far ⟨w.heap.size, 0, none⟩ (by simp) (.string y')).far ⟨w.heap.size, 1, none⟩ (by simp) (.bool z')
    have hbW' := (hbW.setCell (p := ⟨w.heap.size, 0, none⟩) (Nat.le_refl _) (.string y')).setCell (p := ⟨w.heap.size, 1, none⟩) (Nat.le_refl _) (.bool z')
    clear A0 A1 A2 A3 A4 ha hd hbW
    generalize (w1.setCell ⟨w.heap.size, 0, none⟩ (.string y')).setCell ⟨w.heap.size, 1, none⟩ (.bool z') = W at *
    go_wp2_with fail
    refine (spoilt_any _).mono ?_
    rintro e w2 ⟨rfl, hb2⟩
    obtain ⟨E0, E1, E2, E3, E4⟩ := hd'.keep hb2 hd'.1
    have hbE := (((hbW'.trans (hb2.mono (by have := hd'.1; omega))).setCell (p := ⟨w.heap.size + 1, 0, none⟩) (by simp) (.string ⟨#[]⟩)).setCell (p := ⟨w.heap.size + 1, 1, none⟩) (by simp) (.bool true))
    clear hb2
    go_wp2
    rw [Exit.noGoto_ret]
    exact bodyPost_ret (v := .tuple #[.bool false, .agg #[.string ⟨#[]⟩, .bool true]]) (by simp [results, Try.results12, go_sem, E1, E2]) rfl ⟨rfl, hbE⟩
  · have H1 := Lib.hid h1
    clear h h1
    go_enter Try.func12, Try.ntmps12
    go_wp2
    go_step3
    go_wp2_with fail
    refine (number_any s b 1 1 y false H1.out hs _).mono ?_
    rintro e w1 ⟨rfl, hb⟩
    obtain ⟨ha, hd, hbW⟩ := boxes hb
    clear hb
    have ⟨A0, A1, A2, A3, A4⟩ := ha
    go_wp2_with fail
    have ha' := ha.put y false
    have hd' := (hd.far ⟨w.heap.size, 0, none⟩ (by simp) (.string y)).far ⟨w.heap.size, 1, none⟩ (by simp) (.bool false)
    have hbW' := (hbW.setCell (p := ⟨w.heap.size, 0, none⟩) (Nat.le_refl _) (.string y)).setCell (p := ⟨w.heap.size, 1, none⟩) (Nat.le_refl _) (.bool false)
    clear A0 A1 A2 A3 A4 ha hd hbW
    generalize (w1.setCell ⟨w.heap.size, 0, none⟩ (.string y)).setCell ⟨w.heap.size, 1, none⟩ (.bool false) = W at *
    have ⟨A0, A1, A2, A3, A4⟩ := ha'
    have ⟨D0, D1, D2, D3, D4⟩ := hd'
    go_region
    have hbE := (((hbW'.drew).setCell (p := ⟨w.heap.size + 1, 0, none⟩) (by simp) (.string y)).setCell (p := ⟨w.heap.size + 1, 1, none⟩) (by simp) (.bool false))
    go_wp2
    rw [Exit.noGoto_ret]
    exact bodyPost_ret (v := .tuple #[.bool true, .agg #[.string y, .bool false]]) (by simp [results, Try.results12, go_sem, D1, D2]) rfl ⟨rfl, hbE⟩
  · have H1 := Lib.hid h1
    clear h h1
    go_enter Try.func12, Try.ntmps12
    go_wp2
    go_step3
    go_wp2_with fail
    refine (number_any s b 1 0 y z H1.out hs _).mono ?_
    rintro e w1 ⟨rfl, hb⟩
    obtain ⟨ha, hd, hbW⟩ := boxes hb
    clear hb
    have ⟨A0, A1, A2, A3, A4⟩ := ha
    go_wp2_with fail
    have ha' := ha.put y z
    have hd' := (hd.far ⟨w.heap.size, 0, none⟩ (by simp) (.string y)).far ⟨w.heap.size, 1, none⟩ (by simp) (.bool z)
    have hbW' := (hbW.setCell (p := ⟨w.heap.size, 0, none⟩) (Nat.le_refl _) (.string y)).setCell (p := ⟨w.heap.size, 1, none⟩) (Nat.le_refl _) (.bool z)
    clear A0 A1 A2 A3 A4 ha hd hbW
    generalize (w1.setCell ⟨w.heap.size, 0, none⟩ (.string y)).setCell ⟨w.heap.size, 1, none⟩ (.bool z) = W at *
    have ⟨A0, A1, A2, A3, A4⟩ := ha'
    have ⟨D0, D1, D2, D3, D4⟩ := hd'
    go_region
    have hbE := (((hbW'.drew).setCell (p := ⟨w.heap.size + 1, 0, none⟩) (by simp) (.string y)).setCell (p := ⟨w.heap.size + 1, 1, none⟩) (by simp) (.bool z))
    go_wp2
    rw [Exit.noGoto_ret]
    exact bodyPost_ret (v := .tuple #[.bool false, .agg #[.string y, .bool z]]) (by simp [results, Try.results12, go_sem, D1, D2]) rfl ⟨rfl, hbE⟩
end Go.Proofs.Ytmigofcicipejaa.Pk
