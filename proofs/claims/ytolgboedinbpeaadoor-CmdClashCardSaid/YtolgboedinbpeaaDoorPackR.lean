/-
  Contracts of the readers.
-/
import Derived.Test.YtolgboedinbpeaaDoorPackV
import Derived.Deep.QuietTactic
import Derived.BigQuiet
import Derived.StillTailTactics
import Derived.Deep.RegionWith
namespace Go.Proofs.YtolgboedinbpeaaDoor.Pk
open Go.RowKit
set_option maxRecDepth 100000

theorem refbytes_yes (s : ByteArray) (n : Nat) (hn : n ≤ s.size) (_hs : s.size ≤ maxLen) (w : World) :
    Calls Tryd.prog 44 #[.agg #[.string s, .bool false], .int .i64 (n : Int)] w fun e w' => e = .returned (.tuple #[.string (s.extract 0 n), .agg #[.string (s.extract n s.size), .bool false]]) ∧ Below w.heap.size w w' := by
  unfold maxLen at _hs
  go_enter Tryd.func44, Tryd.ntmps44
  go_wp2
  go_region
  go_wp2
  exact bodyPost_ret (v := .tuple #[.string (s.extract 0 n), .agg #[.string (s.extract n s.size), .bool false]]) (by simp [results, Tryd.results44, go_sem]) rfl ⟨rfl, (((Below.refl _ _).alloc (Nat.le_refl _) _).alloc (by simp) _).drew⟩

theorem refbytes_no (s : ByteArray) (b : Bool) (m : Int) (h : b = true ∨ m < 0 ∨ (s.size : Int) < m) (hs : s.size ≤ maxLen) (w : World) :
    Calls Tryd.prog 44 #[.agg #[.string s, .bool b], .int .i64 m] w fun e w' => e = .returned (.tuple #[.string ⟨#[]⟩, .agg #[.string ⟨#[]⟩, .bool true]]) ∧ Below w.heap.size w w' := by
  unfold maxLen at hs
  obtain ⟨h1, h2⟩ : (b = true ∨ b = false) ∧ (b = true ∨ m < 0 ∨ (0 ≤ m ∧ (s.size : Int) < m)) := by
    refine ⟨by cases b <;> simp, ?_⟩
    rcases h with h | h | h
    · exact .inl h
    · exact .inr (.inl h)
    · exact .inr (.inr ⟨by omega, h⟩)
  clear h
  rcases h2 with rfl | h | ⟨h, h3⟩
  case' inr.inl => cases b
  case' inr.inr => cases b
  all_goals
    clear h1
    go_enter Tryd.func44, Tryd.ntmps44
    go_wp2
    exact bodyPost_ret (v := .tuple #[.string ⟨#[]⟩, .agg #[.string ⟨#[]⟩, .bool true]]) (by simp [results, Tryd.results44, go_sem]) rfl ⟨rfl, ((Below.refl _ _).alloc (Nat.le_refl _) _).alloc (by simp) _⟩

theorem refbytes_any (s : ByteArray) (b : Bool) (m : Int) (x y : ByteArray) (z : Bool) (h : next s b m = (x, y, z)) (hs : s.size ≤ maxLen) (w : World) :
    Calls Tryd.prog 44 #[.agg #[.string s, .bool b], .int .i64 m] w fun e w' => e = .returned (.tuple #[.string x, .agg #[.string y, .bool z]]) ∧ Below w.heap.size w w' := by
  rcases next_ways s b m with ⟨n, rfl, rfl, hn⟩ | hn
  · rw [next_yes s n hn] at h
    obtain ⟨rfl, rfl, rfl⟩ : s.extract 0 n = x ∧ s.extract n s.size = y ∧ false = z := by simpa using h
    exact refbytes_yes s n hn hs w
  · rw [next_no s b m hn] at h
    obtain ⟨rfl, rfl, rfl⟩ : (⟨#[]⟩ : ByteArray) = x ∧ (⟨#[]⟩ : ByteArray) = y ∧ true = z := by simpa using h
    exact refbytes_no s b m hn hs w

theorem ret_bool {a b : Bool} (h : a = b) : Ending.returned (.bool a) = .returned (.bool b) := by rw [h]

theorem bytes_any (s : ByteArray) (b : Bool) (m : Int) (x y : ByteArray) (z : Bool) (h : next s b m = (x, y, z)) (hs : s.size ≤ 281474976710656) (w : World) :
    Calls Tryd.prog 43 #[.agg #[.string s, .bool b], .int .i64 m] w fun e w' => e = .returned (.tuple #[.string x, .agg #[.string y, .bool z]]) ∧ Below w.heap.size w w' := by
  have hm : s.size ≤ maxLen := by unfold maxLen; omega
  have hx : x.size ≤ 281474976710656 := by have := (next_size s b m).1; rw [h] at this; simp at this; omega
  have H := Lib.hid h
  clear h
  go_enter Tryd.func43, Tryd.ntmps43
  go_wp2_with fail
  refine (next_any s b m x y z H.out hm _).mono ?_
  rintro e w1 ⟨rfl, hb⟩
  obtain ⟨ha, hd, hbW⟩ := boxes hb
  clear hb
  have ⟨A0, A1, A2, A3, A4⟩ := ha
  go_wp2_with fail
  have ha' := ha.put y z
  have hd' := (hd.far ⟨w.heap.size, 0, none⟩ (by simp) (.string y)).far ⟨w.heap.size, 1, none⟩ (by simp) (.bool z)
  have hbW' := (hbW.setCell (p := ⟨w.heap.size, 0, none⟩) (Nat.le_refl _) (.string y)).setCell (p := ⟨w.heap.size, 1, none⟩) (Nat.le_refl _) (.bool z)
  clear A0 A1 A2 A3 A4 ha hd hbW
  generalize (w1.setCell ⟨w.heap.size, 0, none⟩ (.string y)).setCell ⟨w.heap.size, 1, none⟩ (.bool z) = W at *
  have ⟨A0, A1, A2, A3, A4⟩ := ha'
  have ⟨D0, D1, D2, D3, D4⟩ := hd'
  go_region_with (go_at_call 50; refine (clone_any x hx _).mono ?_; rintro e w2 ⟨rfl, hb2⟩; obtain ⟨B0, B1, B2, B3, B4⟩ := ha'.drew.keep hb2 A0; obtain ⟨E0, E1, E2, E3, E4⟩ := hd'.drew.keep hb2 D0)
  all_goals
    have hbE := ((((hbW'.drew).trans (hb2.mono (Nat.le_of_lt A0))).setCell (p := ⟨w.heap.size + 1, 0, none⟩) (by simp) (.string y)).setCell (p := ⟨w.heap.size + 1, 1, none⟩) (by simp) (.bool z))
    go_wp2
    exact bodyPost_ret (v := .tuple #[.string x, .agg #[.string y, .bool z]]) (by simp [results, Tryd.results43, go_sem, E1, E2]) rfl ⟨rfl, hbE⟩
end Go.Proofs.YtolgboedinbpeaaDoor.Pk
