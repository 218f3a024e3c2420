/-
  Contracts of package disk: New, Sync, Hold, Grow, Synced, Room. Conditions: a disk as DiskAt says.
-/
import Derived.Test.YtgdaphckgckaaaaDiskI
namespace Go.Proofs.Ytgdaphckgckaaaa.Dk
open Go.RowKit

theorem new_yes (ro : Nat) (h1 : 1 ≤ ro) (h2 : ro ≤ 16777216) (w : World) :
    Calls Try.prog 16 #[.int .i64 (ro : Int)] w fun e w' => e = .returned (.tuple #[.pointer (some ⟨w.heap.size, 0, none⟩), .int .i64 0]) ∧ DiskAt w.heap.size w.heap.size [] 0 ro false w' ∧ Below w.heap.size w w' := by
  go_enter Try.func16, Try.ntmps16
  go_wp2
  go_ret2
  have hb : Below w.heap.size w (w.alloc (.cells #[.slice none 0 0, .int .i64 0, .int .i64 0, .int .i64 ro, .bool false] 75)) := (Below.refl _ _).alloc (Nat.le_refl _) _
  refine ⟨rfl, ⟨.slice none 0 0, [], Nat.le_refl _, hb.size, heap_alloc_new w _, World.ownsRow_nil _ _ _ _, ⟨fun i hi => by simp [pcs] at hi, fun i j u u' hi => by simp [pcs] at hi⟩, Nat.le_refl _, Nat.zero_le _, h2, h1⟩, hb⟩

theorem new_no (ro : Int) (h : ¬ (1 ≤ ro ∧ ro ≤ 16777216)) (w : World) :
    Calls Try.prog 16 #[.int .i64 ro] w fun e w' => e = .returned (.tuple #[.pointer none, .int .i64 1]) ∧ w = w' := by
  by_cases h1 : 1 ≤ ro
  · have h2 : 16777216 < ro := by omega
    clear h
    go_enter Try.func16, Try.ntmps16
    go_wp2
    go_ret2
    exact ⟨rfl, rfl⟩
  · have h2 : ro < 1 := by omega
    clear h
    go_enter Try.func16, Try.ntmps16
    go_wp2
    go_ret2
    exact ⟨rfl, rfl⟩

theorem sync_free (a n sy ro : Nat) (v : Value) (w : World) (k : Head w a v n sy ro false) :
    Calls Try.prog 42 #[.pointer (some ⟨a, 0, none⟩)] w fun e w' => e = .returned (.int .i64 0) ∧ w' = w.setCell ⟨a, 2, none⟩ (.int .i64 n) := by
  obtain ⟨c0, c1, c2, c3, c4⟩ := k.cells
  have f2 := k.free 2
  go_enter Try.func42, Try.ntmps42
  go_wp2
  go_ret
  exact ⟨rfl, rfl⟩

theorem sync_held (a n sy ro : Nat) (v : Value) (w : World) (k : Head w a v n sy ro true) :
    Calls Try.prog 42 #[.pointer (some ⟨a, 0, none⟩)] w fun e w' => e = .returned (.int .i64 0) ∧ w = w' := by
  obtain ⟨c0, c1, c2, c3, c4⟩ := k.cells
  go_enter Try.func42, Try.ntmps42
  go_wp2
  go_ret
  exact ⟨rfl, rfl⟩
end Go.Proofs.Ytgdaphckgckaaaa.Dk
