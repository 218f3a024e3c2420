/-
  Contracts: round (who stands behind one, going round). Conditions: as each theorem says.
-/
import Derived.Test.YtkjedffncphgmaaPlaceR
import Derived.Lib.BufferWrite
import Derived.Deep.AppendLies
namespace Go.Proofs.Ytkjedffncphgmaa.Pl
open Go.RowKit

/-- k whole numbers from a on -/
def seg (a k : Nat) : List Nat := (List.range k).map (a + ·)
theorem seg_length (a k : Nat) : (seg a k).length = k := by simp [seg]
theorem seg_snoc (a k : Nat) : seg a (k + 1) = seg a k ++ [a + k] := by simp [seg, List.range_succ]
/-- whole numbers, as cells -/
def nats (l : List Nat) : List Value := l.map fun (i : Nat) => .int .i64 (i : Int)
theorem nats_length (l : List Nat) : (nats l).length = l.length := by simp [nats]
theorem nats_snoc (l : List Nat) (n : Nat) : nats (l ++ [n]) = nats l ++ [.int .i64 (n : Int)] := by simp [nats]

/-- who stands behind the one ahead of s, then those ahead of that one -/
def round (m s : Nat) : List Nat := seg s (m - s) ++ seg 0 (s - 1)

theorem below_grown {B : Nat} {a w w' : World} {row : Option Nat} (h : Below B a w) (hg : w.grownBy w' row) (hB : B ≤ w.heap.size) (hr : ∀ k, row = some k → B ≤ k) : Below B a w' :=
  ⟨hg.os.trans h.os, hg.tape.trans h.tape, hg.output.trans h.output, Nat.le_trans h.size hg.size, fun k hk => (hg.block k (by omega) (fun e => by have := hr k e.symm; omega)).trans (h.block k hk)⟩

theorem round_any (m s : Nat) (hs : s ≤ m) (hm : m ≤ 1048576) (w : World) :
    Calls Try.prog 14 #[.int .i64 (m : Int), .int .i64 ((s : Int) - 1)] w fun e w' => ∃ v, e = .returned v ∧ w'.ownsRow w.heap.size 3 1 v (round m s).length (nats (round m s)) ∧ Below w.heap.size w w' := by
  obtain ⟨i0, hi, hz0, hz1, hz2⟩ := info_parts (P := Try.prog) (e := 3) (z := .int .i64 0) (size := 1) (bytes := 8) (by kernel_rfl)
  go_enter Try.func14, Try.ntmps14
  go_wp2_with fail
  go_loopw [5, 6] (fun v i W => ∃ k : Nat, k ≤ m - s ∧ i = .int .i64 ((s + k : Nat) : Int) ∧ W.ownsRow w.heap.size 3 1 v k (nats (seg s k)) ∧ Below w.heap.size w W) (fun _ i _ => m - (intOf i).toNat)
  case atStart => exact ⟨0, Nat.zero_le _, rfl, World.ownsRow_nil _ _ _ _, Below.refl _ _⟩
  case round =>
    obtain ⟨k, hk, rfl, hown, hb⟩ := hrel
    by_cases hlt : k < m - s
    · have hsz := hb.size
      go_wp2_with (at_builtin; refine wpList_append_own _ rfl _ _ 31 rfl w.heap.size 3 i0 (.int .i64 0) 1 8 Try.underlying31 hi hz0 hz1 hz2 rfl (by decide) _ _ _ rfl (hown.alloc _) ⟨wr.heap.size, 0, none⟩ 1 1 [.int .i64 (s + k : Nat)] rfl rfl (cell_one_new _ _ _) (by simp [Value.oneCell']) (by unfold maxLen; omega) (by omega) (by simp; omega) ?_)
      intro v' w1 hown' hgrow _
      have hb1 : Below w.heap.size w w1 := below_grown (hb.alloc hsz _) hgrow (by simp; omega) (fun g hg => (hown.lt g hg).1)
      have hown2 : w1.ownsRow w.heap.size 3 1 v' (k + 1) (nats (seg s (k + 1))) := by rw [seg_snoc, nats_snoc]; exact hown'
      clear hgrow hown hb hown'
      go_wp2
      refine ⟨⟨k + 1, by omega, by go_num, hown2, hb1⟩, by simp [intOf]; omega⟩
    · obtain rfl : k = m - s := by omega
      rw [show s + (m - s) = m by omega]
      have hln : (round m s).length = (m - s) + (s - 1) := by simp [round, seg_length]
      go_wp2_with fail
      go_loopw [5, 20] (fun v i W => ∃ k : Nat, k ≤ s - 1 ∧ i = .int .i64 (k : Int) ∧ W.ownsRow w.heap.size 3 1 v (m - s + k) (nats (seg s (m - s) ++ seg 0 k)) ∧ Below w.heap.size w W) (fun _ i _ => m - (intOf i).toNat)
      case atStart => exact ⟨0, Nat.zero_le _, rfl, by simpa [seg] using hown, hb⟩
      case round =>
        clear hown hb
        obtain ⟨k, hk, rfl, hown, hb⟩ := hrel
        by_cases hlt : k < s - 1
        · have hsz := hb.size
          go_wp2_with (at_builtin; refine wpList_append_own _ rfl _ _ 31 rfl w.heap.size 3 i0 (.int .i64 0) 1 8 Try.underlying31 hi hz0 hz1 hz2 rfl (by decide) _ _ _ rfl (hown.alloc _) ⟨wr.heap.size, 0, none⟩ 1 1 [.int .i64 (k : Int)] rfl rfl (cell_one_new _ _ _) (by simp [Value.oneCell']) (by unfold maxLen; omega) (by omega) (by simp; omega) ?_)
          intro v' w1 hown' hgrow _
          have hb1 : Below w.heap.size w w1 := below_grown (hb.alloc hsz _) hgrow (by simp; omega) (fun g hg => (hown.lt g hg).1)
          have hown2 : w1.ownsRow w.heap.size 3 1 v' (m - s + (k + 1)) (nats (seg s (m - s) ++ seg 0 (k + 1))) := by
            rw [seg_snoc, ← List.append_assoc, nats_snoc, Nat.zero_add]; exact hown'
          clear hgrow hown hb hown'
          go_wp2
          refine ⟨⟨k + 1, by omega, by go_num, hown2, hb1⟩, by simp [intOf]; omega⟩
        · obtain rfl : k = s - 1 := by omega
          go_wp2
          go_ret
          exact ⟨_, rfl, by rw [hln]; exact hown, hb⟩
end Go.Proofs.Ytkjedffncphgmaa.Pl
