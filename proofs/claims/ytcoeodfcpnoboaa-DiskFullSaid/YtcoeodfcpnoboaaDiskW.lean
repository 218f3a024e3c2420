/-
  Contracts of package disk: New, Sync, Hold, Grow, Synced, Room. Conditions: a disk as DiskAt says.
-/
import Derived.Test.YtcoeodfcpnoboaaDiskI
namespace Go.Proofs.Ytcoeodfcpnoboaa.Dk
open Go.RowKit

theorem new_yes (ro : Nat) (h1 : 1 ≤ ro) (h2 : ro ≤ 16777216) (w : World) :
    Calls Try.prog 10 #[.int .i64 (ro : Int)] w fun e w' => e = .returned (.tuple #[.pointer (some ⟨w.heap.size, 0, none⟩), .int .i64 0]) ∧ DiskAt w.heap.size w.heap.size [] 0 ro false w' ∧ Below w.heap.size w w' := by
  go_enter Try.func10, Try.ntmps10
  go_wp2
  go_ret2
  have hb : Below w.heap.size w (w.alloc (.cells #[.slice none 0 0, .int .i64 0, .int .i64 0, .int .i64 ro, .bool false] 54)) := (Below.refl _ _).alloc (Nat.le_refl _) _
  refine ⟨rfl, ⟨.slice none 0 0, [], Nat.le_refl _, hb.size, heap_alloc_new w _, World.ownsRow_nil _ _ _ _, ⟨fun i hi => by simp [pcs] at hi, fun i j u u' hi => by simp [pcs] at hi⟩, Nat.le_refl _, Nat.zero_le _, h2, h1⟩, hb⟩

theorem new_no (ro : Int) (h : ¬ (1 ≤ ro ∧ ro ≤ 16777216)) (w : World) :
    Calls Try.prog 10 #[.int .i64 ro] w fun e w' => e = .returned (.tuple #[.pointer none, .int .i64 1]) ∧ w = w' := by
  by_cases h1 : 1 ≤ ro
  · have h2 : 16777216 < ro := by omega
    clear h
    go_enter Try.func10, Try.ntmps10
    go_wp2
    go_ret2
    exact ⟨rfl, rfl⟩
  · have h2 : ro < 1 := by omega
    clear h
    go_enter Try.func10, Try.ntmps10
    go_wp2
    go_ret2
    exact ⟨rfl, rfl⟩

theorem sync_free (a n sy ro : Nat) (v : Value) (w : World) (k : Head w a v n sy ro false) :
    Calls Try.prog 12 #[.pointer (some ⟨a, 0, none⟩)] w fun e w' => e = .returned (.int .i64 0) ∧ w' = w.setCell ⟨a, 2, none⟩ (.int .i64 n) := by
  obtain ⟨c0, c1, c2, c3, c4⟩ := k.cells
  have f2 := k.free 2
  go_enter Try.func12, Try.ntmps12
  go_wp2
  go_ret
  exact ⟨rfl, rfl⟩

theorem sync_held (a n sy ro : Nat) (v : Value) (w : World) (k : Head w a v n sy ro true) :
    Calls Try.prog 12 #[.pointer (some ⟨a, 0, none⟩)] w fun e w' => e = .returned (.int .i64 0) ∧ w = w' := by
  obtain ⟨c0, c1, c2, c3, c4⟩ := k.cells
  go_enter Try.func12, Try.ntmps12
  go_wp2
  go_ret
  exact ⟨rfl, rfl⟩

theorem hold_in (a n sy ro : Nat) (v : Value) (h : Bool) (w : World) (k : Head w a v n sy ro h) :
    Calls Try.prog 20 #[.pointer (some ⟨a, 0, none⟩)] w fun e w' => e = .returned (.tuple #[]) ∧ w' = w.setCell ⟨a, 4, none⟩ (.bool true) := by
  obtain ⟨c0, c1, c2, c3, c4⟩ := k.cells
  have f4 := k.free 4
  go_enter Try.func20, Try.ntmps20
  go_wp2
  go_end0
  exact ⟨rfl, rfl⟩

theorem synced_in (a n sy ro : Nat) (v : Value) (h : Bool) (w : World) (k : Head w a v n sy ro h) :
    Calls Try.prog 24 #[.pointer (some ⟨a, 0, none⟩)] w fun e w' => e = .returned (.int .i64 sy) ∧ w = w' := by
  obtain ⟨c0, c1, c2, c3, c4⟩ := k.cells
  go_enter Try.func24, Try.ntmps24
  go_wp2
  go_ret
  exact ⟨rfl, rfl⟩

theorem room_in (a n sy ro : Nat) (v : Value) (h : Bool) (w : World) (k : Head w a v n sy ro h) :
    Calls Try.prog 25 #[.pointer (some ⟨a, 0, none⟩)] w fun e w' => e = .returned (.int .i64 ro) ∧ w = w' := by
  obtain ⟨c0, c1, c2, c3, c4⟩ := k.cells
  go_enter Try.func25, Try.ntmps25
  go_wp2
  go_ret
  exact ⟨rfl, rfl⟩

theorem grow_yes (a n sy ro more : Nat) (v : Value) (h : Bool) (w : World) (k : Head w a v n sy ro h) (hr : ro ≤ 16777216) (hm : more ≤ 16777216 - ro) :
    Calls Try.prog 18 #[.pointer (some ⟨a, 0, none⟩), .int .i64 (more : Int)] w fun e w' => e = .returned (.int .i64 0) ∧ w' = w.setCell ⟨a, 3, none⟩ (.int .i64 ((ro + more : Nat) : Int)) := by
  obtain ⟨c0, c1, c2, c3, c4⟩ := k.cells
  have f3 := k.free 3
  go_enter Try.func18, Try.ntmps18
  go_wp2
  go_ret
  refine ⟨rfl, ?_⟩
  rw [Int.natCast_add]

theorem grow_no (a n sy ro : Nat) (more : Int) (v : Value) (h : Bool) (w : World) (k : Head w a v n sy ro h) (hr : ro ≤ 16777216) (hm : more < 0 ∨ (16777216 : Int) - ro < more) :
    Calls Try.prog 18 #[.pointer (some ⟨a, 0, none⟩), .int .i64 more] w fun e w' => e = .returned (.int .i64 1) ∧ w = w' := by
  obtain ⟨c0, c1, c2, c3, c4⟩ := k.cells
  by_cases h0 : more < 0
  · clear hm
    go_enter Try.func18, Try.ntmps18
    go_wp2
    go_ret
    exact ⟨rfl, rfl⟩
  · have h1 : (16777216 : Int) - ro < more := by omega
    clear hm
    go_enter Try.func18, Try.ntmps18
    go_wp2
    go_ret
    exact ⟨rfl, rfl⟩
end Go.Proofs.Ytcoeodfcpnoboaa.Dk
