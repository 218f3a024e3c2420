/-
  Contracts of the readers.
-/
import Derived.Test.YtkemljpjfbmjgaaDoorPackV
import Derived.Deep.QuietTactic
import Derived.BigQuiet
import Derived.StillTailTactics
import Derived.Deep.RegionWith
namespace Go.Proofs.YtkemljpjfbmjgaaDoor.Pk
open Go.RowKit
set_option maxRecDepth 100000

theorem refbytes_yes (s : ByteArray) (n : Nat) (hn : n ≤ s.size) (_hs : s.size ≤ maxLen) (w : World) :
    Calls Tryd.prog 59 #[.agg #[.string s, .bool false], .int .i64 (n : Int)] w fun e w' => e = .returned (.tuple #[.string (s.extract 0 n), .agg #[.string (s.extract n s.size), .bool false]]) ∧ Below w.heap.size w w' := by
  unfold maxLen at _hs
  go_enter Tryd.func59, Tryd.ntmps59
  go_wp2
  go_region
  go_wp2
  exact bodyPost_ret (v := .tuple #[.string (s.extract 0 n), .agg #[.string (s.extract n s.size), .bool false]]) (by simp [results, Tryd.results59, go_sem]) rfl ⟨rfl, (((Below.refl _ _).alloc (Nat.le_refl _) _).alloc (by simp) _).drew⟩

theorem refbytes_no (s : ByteArray) (b : Bool) (m : Int) (h : b = true ∨ m < 0 ∨ (s.size : Int) < m) (hs : s.size ≤ maxLen) (w : World) :
    Calls Tryd.prog 59 #[.agg #[.string s, .bool b], .int .i64 m] w fun e w' => e = .returned (.tuple #[.string ⟨#[]⟩, .agg #[.string ⟨#[]⟩, .bool true]]) ∧ Below w.heap.size w w' := by
  unfold maxLen at hs
  obtain ⟨h1, h2⟩ : (b = true ∨ b = false) ∧ (b = true ∨ m < 0 ∨ (0 ≤ m ∧ (s.size : Int) < m)) := by
    refine ⟨by cases b <;> simp, ?_⟩
    rcases h with h | h | h
    · exact .inl h
    · exact .inr (.inl h)
    · exact .inr (.inr ⟨by omega, h⟩)
  clear h
  rcases h2 with rfl | h | ⟨h, h3⟩
  case' inr.inl => cases b
  case' inr.inr => cases b
  all_goals
    clear h1
    go_enter Tryd.func59, Tryd.ntmps59
    go_wp2
    exact bodyPost_ret (v := .tuple #[.string ⟨#[]⟩, .agg #[.string ⟨#[]⟩, .bool true]]) (by simp [results, Tryd.results59, go_sem]) rfl ⟨rfl, ((Below.refl _ _).alloc (Nat.le_refl _) _).alloc (by simp) _⟩

theorem refbytes_any (s : ByteArray) (b : Bool) (m : Int) (x y : ByteArray) (z : Bool) (h : next s b m = (x, y, z)) (hs : s.size ≤ maxLen) (w : World) :
    Calls Tryd.prog 59 #[.agg #[.string s, .bool b], .int .i64 m] w fun e w' => e = .returned (.tuple #[.string x, .agg #[.string y, .bool z]]) ∧ Below w.heap.size w w' := by
  rcases next_ways s b m with ⟨n, rfl, rfl, hn⟩ | hn
  · rw [next_yes s n hn] at h
    obtain ⟨rfl, rfl, rfl⟩ : s.extract 0 n = x ∧ s.extract n s.size = y ∧ false = z := by simpa using h
    exact refbytes_yes s n hn hs w
  · rw [next_no s b m hn] at h
    obtain ⟨rfl, rfl, rfl⟩ : (⟨#[]⟩ : ByteArray) = x ∧ (⟨#[]⟩ : ByteArray) = y ∧ true = z := by simpa using h
    exact refbytes_no s b m hn hs w

theorem ret_bool {a b : Bool} (h : a = b) : Ending.returned (.bool a) = .returned (.bool b) := by rw [h]
end Go.Proofs.YtkemljpjfbmjgaaDoor.Pk
