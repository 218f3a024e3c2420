/-
  Contracts of package pack and of the document's own answer.
-/
import Derived.Test.YtkemljpjfbmjgaaDoorRows
import Derived.Test.YtkemljpjfbmjgaaDoorPackM
import Derived.Test.YtkemljpjfbmjgaaDoorCrcB
import Derived.Test.YtkemljpjfbmjgaaDoorBox
import Derived.WalkKit
import Derived.ProofKit
import Derived.Below
import Derived.WalkSmall
import Derived.WalkMore
import Derived.ScopeJumps
import Derived.Lib.Hide
import Derived.Lib.UnsafeStr
import Derived.Lib.BufferWrite
import Derived.Lib.Strings
import Derived.Laws.MakeOwn
import Derived.OwnWalk
import Derived.Deep.Draws
import Derived.Laws.IdiomStrings
namespace Go.Proofs.YtkemljpjfbmjgaaDoor.Pk
open Go.RowKit
set_option maxRecDepth 100000

theorem bcell {W w1 : World} (hb : Below W.heap.size W w1) : (∀ b o, b < W.heap.size → w1.cell? ⟨b, o, none⟩ = W.cell? ⟨b, o, none⟩) ∧ (∀ b o, b < W.heap.size → w1.frozen? ⟨b, o, none⟩ = W.frozen? ⟨b, o, none⟩) :=
  ⟨fun b o h => hb.cell (p := ⟨b, o, none⟩) h, fun b o h => hb.frozen (p := ⟨b, o, none⟩) h⟩

theorem size_yes (k : Int) (h : 1 ≤ k ∧ k ≤ 8) (w : World) : Calls Tryd.prog 48 #[.int .i64 k] w fun e w' => e = .returned (.bool true) ∧ w = w' := by
  obtain ⟨h1, h2⟩ := h
  go_enter Tryd.func48, Tryd.ntmps48
  go_wp2
  go_ret
  exact ⟨rfl, rfl⟩

theorem size_no (k : Int) (h : ¬(1 ≤ k ∧ k ≤ 8)) (w : World) : Calls Tryd.prog 48 #[.int .i64 k] w fun e w' => e = .returned (.bool false) ∧ w = w' := by
  by_cases h1 : 1 ≤ k
  · have h2 : ¬ k ≤ 8 := fun c => h ⟨h1, c⟩
    clear h
    go_enter Tryd.func48, Tryd.ntmps48
    go_wp2
    go_ret
    exact ⟨rfl, rfl⟩
  · clear h
    go_enter Tryd.func48, Tryd.ntmps48
    go_wp2
    go_ret
    exact ⟨rfl, rfl⟩

theorem spoilt_any (w : World) : Calls Tryd.prog 57 #[] w fun e w' => e = .returned (.agg #[.string ⟨#[]⟩, .bool true]) ∧ Below w.heap.size w w' := by
  go_enter Tryd.func57, Tryd.ntmps57
  go_wp2
  exact bodyPost_ret (v := .agg #[.string ⟨#[]⟩, .bool true]) (by simp [results, Tryd.results57, go_sem]) rfl ⟨rfl, ((Below.refl _ _).alloc (Nat.le_refl _) _)⟩

/-- a scope in which the run may jump ahead to one label, once -/
theorem scope_ahead {P : Program} {a : Act} {w : World} {Q : Exit → Act → World → Prop} {c rest : Code} (l : Nat) (hf : findLabel c l = some rest)
    (first : c.wp P (Exit.jump l (fun a' w' => rest.wp P (Exit.noGoto Q) a' w') Q) a w) : (Code.scope c).wp P Q a w := by
  refine wp_scope_jumps l (fun a' w' => rest.wp P (Exit.noGoto Q) a' w') (fun _ _ => 0) hf first ?_
  intro a' w' h
  refine wp_mono h ?_
  intro e a'' w'' he
  cases e with
  | goto l' => exact he.elim
  | _ => exact he

theorem next_yes_any (s : ByteArray) (n : Nat) (hn : n ≤ s.size) (_hs : s.size ≤ maxLen) (w : World) :
    Calls Tryd.prog 56 #[.agg #[.string s, .bool false], .int .i64 (n : Int)] w fun e w' => e = .returned (.tuple #[.string (s.extract 0 n), .agg #[.string (s.extract n s.size), .bool false]]) ∧ Below w.heap.size w w' := by
  unfold maxLen at _hs
  go_enter Tryd.func56, Tryd.ntmps56
  go_wp2
  go_step3
  go_wp2
  go_region
  go_wp2
  rw [Exit.noGoto_ret]
  exact bodyPost_ret (v := .tuple #[.string (s.extract 0 n), .agg #[.string (s.extract n s.size), .bool false]]) (by simp [results, Tryd.results56, go_sem]) rfl ⟨rfl, (((Below.refl _ _).alloc (Nat.le_refl _) _).alloc (by simp) _).drew⟩

/-- the end of a way that is left by goto: what spoilt laid is stored -/
theorem below_two {w w1 : World} {a b : Obj} (hb : Below ((w.alloc a).alloc b).heap.size ((w.alloc a).alloc b) w1) : Below w.heap.size w w1 :=
  ((((Below.refl _ _).alloc (Nat.le_refl _) _).alloc (by simp) _).trans (hb.mono (by simp; omega)))

theorem next_no_any (s : ByteArray) (b : Bool) (m : Int) (h : b = true ∨ m < 0 ∨ (s.size : Int) < m) (hs : s.size ≤ maxLen) (w : World) :
    Calls Tryd.prog 56 #[.agg #[.string s, .bool b], .int .i64 m] w fun e w' => e = .returned (.tuple #[.string ⟨#[]⟩, .agg #[.string ⟨#[]⟩, .bool true]]) ∧ Below w.heap.size w w' := by
  unfold maxLen at hs
  obtain ⟨h1, h2⟩ : (b = true ∨ b = false) ∧ (b = true ∨ m < 0 ∨ (0 ≤ m ∧ (s.size : Int) < m)) := by
    refine ⟨by cases b <;> simp, ?_⟩
    rcases h with h | h | h
    · exact .inl h
    · exact .inr (.inl h)
    · exact .inr (.inr ⟨by omega, h⟩)
  clear h
  rcases h2 with rfl | h | ⟨h, h3⟩
  case' inr.inl => cases b
  case' inr.inr => cases b
  all_goals
    clear h1
    go_enter Tryd.func56, Tryd.ntmps56
    go_wp2
    refine scope_ahead 0 rfl ?_
    go_wp2
    go_step3
    refine ⟨rfl, ?_⟩
    go_wp2_with fail
    refine (spoilt_any _).mono ?_
    rintro e w1 ⟨rfl, hb⟩
    have ⟨hc, hf⟩ := bcell hb
    have hz := hb.size
    go_wp2
    rw [Exit.noGoto_ret]
    exact bodyPost_ret (v := .tuple #[.string ⟨#[]⟩, .agg #[.string ⟨#[]⟩, .bool true]]) (by simp [results, Tryd.results56, go_sem, hc]) rfl ⟨rfl, ((below_two hb).setCell (by simp) _).setCell (by simp) _⟩

/-- both ways in one -/
theorem next_any (s : ByteArray) (b : Bool) (m : Int) (x y : ByteArray) (z : Bool) (h : next s b m = (x, y, z)) (hs : s.size ≤ maxLen) (w : World) :
    Calls Tryd.prog 56 #[.agg #[.string s, .bool b], .int .i64 m] w fun e w' => e = .returned (.tuple #[.string x, .agg #[.string y, .bool z]]) ∧ Below w.heap.size w w' := by
  rcases next_ways s b m with ⟨n, rfl, rfl, hn⟩ | hn
  · rw [next_yes s n hn] at h
    obtain ⟨rfl, rfl, rfl⟩ : s.extract 0 n = x ∧ s.extract n s.size = y ∧ false = z := by simpa using h
    exact next_yes_any s n hn hs w
  · rw [next_no s b m hn] at h
    obtain ⟨rfl, rfl, rfl⟩ : (⟨#[]⟩ : ByteArray) = x ∧ (⟨#[]⟩ : ByteArray) = y ∧ true = z := by simpa using h
    exact next_no_any s b m hn hs w

/-- what 'make([]byte, n)' lays -/
def zeros (n : Nat) : Array Value := Array.replicate n (.int .u8 0)
theorem zeros_size (n : Nat) : (zeros n).size = n := by simp [zeros]

theorem make_bytes (n : Nat) (hn : n ≤ 281474976710656) (W : World) :
    (Instr.makeSlice 26 (.int .i64 (n : Int)) (.int .i64 (n : Int))).run Tryd.prog W = .ok (.slice (some ⟨W.heap.size, 0, none⟩) n n) (W.alloc (.cells (zeros n) 5)) := by
  obtain ⟨i, hi, hz, h1, h2⟩ := info_parts (P := Tryd.prog) (e := 5) (z := .int .u8 0) (size := 1) (bytes := 1) (by kernel_rfl)
  have h := run_make (P := Tryd.prog) W 26 5 i (.int .u8 0) Tryd.underlying26 hi hz .i64 .i64 (n : Int) (n : Int) (by omega) (by omega) (by rw [h2]; omega) (by omega)
  rw [h, h1]
  have e : madeCells (Value.int .u8 0).cells (((n : Int).toNat) * 1) = zeros n := by
    unfold zeros madeCells
    apply Array.ext
    · simp
    · intro j h1 h2
      simp [Value.cells, Nat.mod_one]
  rw [e]
  rfl

theorem zeros_bytes (w : World) (n : Nat) : Crc.Bytes (w.alloc (.cells (zeros n) 5)) w.heap.size (List.replicate n 0) := by
  intro j hj
  have hj' : j < n := by simpa using hj
  have hb := heap_alloc_new w (.cells (zeros n) 5)
  refine ⟨?_, ?_⟩
  · rw [cell_of_row _ w.heap.size j (zeros n) 5 (0, 0) hb]
    simp [zeros, hj']
  · unfold World.frozen?
    rw [hb]
    simp

theorem shr_byte (n j : Nat) : ((n : Int) / 2 ^ (8 * j) % 256) = (((UInt8.ofNat (n / 256 ^ j)).toNat : Nat) : Int) := by
  have e1 : ((2 : Int) ^ (8 * j)) = ((2 ^ (8 * j) : Nat) : Int) := by simp
  rw [e1, ← Int.natCast_ediv, UInt8.toNat_ofNat', pow8]
  omega

/-- what lies in the row of k bytes when i of them are there -/
def part (n k i : Nat) : List UInt8 := nums n i ++ List.replicate (k - i) 0
theorem part_length (n k i : Nat) (h : i ≤ k) : (part n k i).length = k := by simp [part, nums_length]; omega
theorem part_set (n k i : Nat) (h : i < k) : (part n k i).set i (UInt8.ofNat (n / 256 ^ i)) = part n k (i + 1) := by
  unfold part
  rw [List.set_append_right _ _ (by rw [nums_length]; exact Nat.le_refl _), nums_length, Nat.sub_self, show k - i = (k - (i + 1)) + 1 by omega, List.replicate_succ, List.set_cons_zero, nums_snoc, List.append_assoc]
  rfl
theorem part_end (n k : Nat) : part n k k = nums n k := by simp [part]

theorem put_in (n j : Nat) (_hn : n < 18446744073709551616) (h1 : 1 ≤ j) (h8 : j ≤ 8) (w : World) :
    Calls Tryd.prog 28 #[.int .u64 (n : Int), .int .i64 (j : Int)] w fun e w' => e = .returned (.string ⟨(nums n j).toArray⟩) ∧ Below w.heap.size w w' := by
  have hmk := make_bytes j (by omega)
  have hb0 := zeros_bytes w j
  have hbel : Below w.heap.size w (w.alloc (.cells (zeros j) 5)) := (Below.refl _ _).alloc (Nat.le_refl _) _
  have hz : w.heap.size < (w.alloc (.cells (zeros j) 5)).heap.size := by simp
  generalize zeros j = M at *
  go_enter Tryd.func28, Tryd.ntmps28
  go_wp2_with fail
  refine (size_yes (j : Int) ⟨by omega, by omega⟩ _).mono ?_
  rintro e w1 ⟨rfl, rfl⟩
  go_wp2_with fail
  go_loopw [14] (fun i W => ∃ k : Nat, k ≤ j ∧ i = .int .i64 k ∧ Crc.Bytes W w.heap.size (part n j k) ∧ Below w.heap.size w W) (fun i _ => j - (intOf i).toNat)
  case atStart => exact ⟨0, Nat.zero_le _, rfl, by simpa [part, nums] using hb0, hbel⟩
  case round =>
    obtain ⟨k, hk, rfl, hby, hbe⟩ := hrel
    have hl := part_length n j k hk
    by_cases hlt : k < j
    · obtain ⟨v, _, hc, hf⟩ := hby.at k (by omega)
      clear hmk hb0
      go_wp2
      refine ⟨⟨k + 1, by omega, by go_num, ?_, hbe.setCell (Nat.le_refl _) _⟩, by simp [intOf]; omega⟩
      rw [shr_byte, ← part_set n j k hlt]
      exact hby.set k _ (by omega)
    · obtain rfl : k = j := by omega
      rw [part_end] at hby
      have hbk := hby.back_any (P := Tryd.prog) 26 9 5 k k (nums_length k n) Tryd.underlying26 Tryd.underlying5 Tryd.underlying9 0
      rw [World.drewN_zero] at hbk
      clear hby hb0 hl hmk
      go_wp2
      go_ret
      exact ⟨rfl, hbe⟩

theorem put_any (n : Nat) (k : Int) (hn : n < 18446744073709551616) (w : World) :
    Calls Tryd.prog 28 #[.int .u64 (n : Int), .int .i64 k] w fun e w' => e = .returned (.string (numB n k)) ∧ Below w.heap.size w w' := by
  by_cases h : 1 ≤ k ∧ k ≤ 8
  · obtain ⟨j, rfl⟩ := Int.eq_ofNat_of_zero_le (show 0 ≤ k by omega)
    rw [numB_in n j (by omega) (by omega)]
    exact put_in n j hn (by omega) (by omega) w
  · rw [numB_out n k h]
    go_enter Tryd.func28, Tryd.ntmps28
    go_wp2_with fail
    refine (size_no k h _).mono ?_
    rintro e w1 ⟨rfl, rfl⟩
    go_wp2
    go_ret
    exact ⟨rfl, Below.refl _ _⟩
end Go.Proofs.YtkemljpjfbmjgaaDoor.Pk
