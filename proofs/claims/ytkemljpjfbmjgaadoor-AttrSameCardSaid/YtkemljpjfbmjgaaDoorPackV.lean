/-
  Contracts of the document's own answer: Number as it puts.
-/
import Derived.Test.YtkemljpjfbmjgaaDoorPackW
namespace Go.Proofs.YtkemljpjfbmjgaaDoor.Pk
open Go.RowKit
set_option maxRecDepth 100000

theorem below_grown {B : Nat} {a w w' : World} {row : Option Nat} (h : Below B a w) (hg : w.grownBy w' row) (hB : B ≤ w.heap.size) (hr : ∀ k, row = some k → B ≤ k) : Below B a w' :=
  ⟨hg.os.trans h.os, hg.tape.trans h.tape, hg.output.trans h.output, Nat.le_trans h.size hg.size, fun k hk => (hg.block k (by omega) (fun e => by have := hr k e.symm; omega)).trans (h.block k hk)⟩

theorem cells_snoc (n k : Nat) : Lib.byteCells (nums n k) ++ [.int .u8 ((n : Int) / 256 ^ k % 256)] = Lib.byteCells (nums n (k + 1)) := by
  rw [nums_snoc]; simp [Lib.byteCells]

theorem ref_put_any (n : Nat) (k : Int) (_hn : n < 18446744073709551616) (w : World) :
    Calls Tryd.prog 30 #[.int .u64 (n : Int), .int .i64 k] w fun e w' => e = .returned (.string (numB n k)) ∧ Below w.heap.size w w' := by
  by_cases h1 : 1 ≤ k
  · by_cases h8 : k ≤ 8
    · obtain ⟨j, rfl⟩ := Int.eq_ofNat_of_zero_le (show 0 ≤ k by omega)
      rw [numB_in n j (by omega) (by omega)]
      obtain ⟨i0, hi, hz0, hz1, hz2⟩ := info_parts (P := Tryd.prog) (e := 5) (z := .int .u8 0) (size := 1) (bytes := 1) (by kernel_rfl)
      go_enter Tryd.func30, Tryd.ntmps30
      go_wp2
      go_loopw [5, 6] (fun v i W => ∃ k : Nat, k ≤ j ∧ i = .int .i64 k ∧ W.ownsRow w.heap.size 5 1 v k (Lib.byteCells (nums n k)) ∧ Below w.heap.size w W) (fun _ i _ => j - (intOf i).toNat)
      case atStart => exact ⟨0, Nat.zero_le _, rfl, World.ownsRow_nil _ _ _ _, Below.refl _ _⟩
      case round =>
        obtain ⟨k, hk, rfl, hown, hbe⟩ := hrel
        by_cases hlt : k < j
        · have hsz := hbe.size
          go_wp2_with ((at_builtin; refine wpList_append_own _ rfl _ _ 26 rfl w.heap.size 5 i0 (.int .u8 0) 1 1 Tryd.underlying26 hi hz0 hz1 hz2 rfl (by decide) _ _ _ rfl (hown.alloc _) ⟨wr.heap.size, 0, none⟩ 1 1 [.int .u8 (((UInt8.ofNat (n / 256 ^ k)).toNat : Nat) : Int)] rfl rfl ?c1 ?c2 ?c3 ?c4 ?c5 ?_))
          case c1 =>
            intro i u hu
            cases i with
            | zero =>
              have hu' := Option.some.inj hu
              subst hu'
              rw [shr_byte]
              simp [Addr.add]
            | succ i => simp at hu
          case c2 => simp [Value.oneCell']
          case c3 => unfold maxLen; omega
          case c4 => omega
          case c5 => simp; omega
          intro v' w1 hown' hgrow _
          rw [cells_snoc] at hown'
          have hb1 : Below w.heap.size w w1 := below_grown (hbe.alloc hsz _) hgrow (by simp; omega) (fun g hg => (hown.lt g hg).1)
          clear hgrow
          go_wp2
          refine ⟨⟨k + 1, by omega, by go_num, hown', hb1⟩, by simp [intOf]; omega⟩
        · obtain rfl : k = j := by omega
          rcases hown.2 with ⟨_, h0⟩ | ⟨g, cap, cur, rfl, hb, hg, _⟩
          · omega
          · have hbk := run_convert_bytes_back (P := Tryd.prog) wr 26 9 5 ⟨g, 0, none⟩ cap (nums n k) Tryd.underlying26 Tryd.underlying5 Tryd.underlying9 (fun j hj => hown.cells (g := g) rfl j _ (by simp [Lib.byteCells, hj]))
            rw [nums_length] at hbk
            clear hown hg hz0 hz1 hz2 hi
            go_wp2
            go_ret
            exact ⟨rfl, hbe⟩
    · rw [numB_out n k (by omega)]
      go_enter Tryd.func30, Tryd.ntmps30
      go_wp2
      go_ret
      exact ⟨rfl, Below.refl _ _⟩
  · rw [numB_out n k (by omega)]
    go_enter Tryd.func30, Tryd.ntmps30
    go_wp2
    go_ret
    exact ⟨rfl, Below.refl _ _⟩
end Go.Proofs.YtkemljpjfbmjgaaDoor.Pk
