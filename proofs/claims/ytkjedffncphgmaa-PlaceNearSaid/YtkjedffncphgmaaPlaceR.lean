/-
  Contracts: Ring: the row of places that it makes. No condition.
-/
import Derived.Test.YtkjedffncphgmaaPlaceS
import Derived.Below
import Derived.WalkSmall
import Derived.OwnWalk
import Derived.Lib.BufferMore
namespace Go.Proofs.Ytkjedffncphgmaa.Pl
open Go.RowKit

/-- the k-th place of a ring -/
def pt (k : Nat) : Int × Int := tx (k % 4) (1 + (k / 4 : Nat)) 0
/-- .. as a cell -/
def ptv (k : Nat) : Value := .complex .f64 (fb (pt k).1) (fb (pt k).2)
def zv : Value := .complex .f64 0 0
/-- the first k of m are laid -/
def laid (m k : Nat) : List Value := (List.range m).map fun i => if i < k then ptv i else zv
theorem laid_length (m k : Nat) : (laid m k).length = m := by simp [laid]
theorem laid_zero (m : Nat) : laid m 0 = List.replicate m zv := by
  apply List.ext_getElem
  · simp [laid]
  · intro i h1 h2; simp [laid]
theorem laid_set (m k : Nat) : (laid m k).set k (ptv k) = laid m (k + 1) := by
  apply List.ext_getElem
  · simp [laid]
  · intro i h1 h2
    rw [List.getElem_set]
    simp only [laid, List.getElem_map, List.getElem_range]
    by_cases e : k = i
    · subst e; simp
    · rw [if_neg e]
      by_cases e2 : i < k
      · rw [if_pos e2, if_pos (by omega)]
      · rw [if_neg e2, if_neg (by omega)]

/-- how many -/
def many (n : Int) : Nat := (min (max n 0) 64).toNat
theorem many_le (n : Int) : many n ≤ 64 := by unfold many; omega
theorem many_eq (n : Int) : ((many n : Nat) : Int) = min (max n 0) 64 := by unfold many; omega

/-- what 'make' lays -/
def zeros (n : Nat) : Array Value := Array.replicate n zv
theorem make_places (n : Nat) (hn : n ≤ 1048576) (W : World) :
    (Instr.makeSlice 23 (.int .i64 (n : Int)) (.int .i64 (n : Int))).run Try.prog W = .ok (.slice (some ⟨W.heap.size, 0, none⟩) n n) (W.alloc (.cells (zeros n) 26)) := by
  obtain ⟨i, hi, hz, h1, h2⟩ := info_parts (P := Try.prog) (e := 26) (z := zv) (size := 1) (bytes := 16) (by kernel_rfl)
  have h := run_make (P := Try.prog) W 23 26 i zv Try.underlying23 hi hz .i64 .i64 (n : Int) (n : Int) (by omega) (by omega) (by rw [h2]; omega) (by omega)
  rw [h, h1]
  have e : madeCells zv.cells (((n : Int).toNat) * 1) = zeros n := by
    unfold zeros madeCells
    apply Array.ext
    · simp
    · intro j h1 h2
      simp [zv, Value.cells, Nat.mod_one]
  rw [e]
  rfl

theorem zeros_row (W : World) (B n : Nat) (hn : n ≤ 1048576) (hB : B ≤ W.heap.size) : (W.alloc (.cells (zeros n) 26)).ownsRow B 26 1 (.slice (some ⟨W.heap.size, 0, none⟩) n n) n (List.replicate n zv) := by
  have := World.ownsRow_lit W (base := B) (e := 26) (size := 1) (zeros n) n hB (by unfold maxLen; omega) (by simp [zeros])
  simpa [zeros] using this

theorem and3_tab : (List.range 64).all (fun k => bits .and .i64 (k : Int) 3 == ((k % 4 : Nat) : Int)) = true := by decide +kernel
theorem and3_nat (k : Nat) (h : k < 64) : bits .and .i64 (k : Int) 3 = ((k % 4 : Nat) : Int) := by
  simpa using List.all_eq_true.1 and3_tab k (List.mem_range.2 h)

theorem spin_at (k : Nat) (h : k < 64) (w : World) :
    Calls Try.prog 8 #[.complex .f64 (floatOfInt .f64 (1 + (k : Int) / 4)) 0, .int .i64 (k : Int)] w fun e w' => e = .returned (ptv k) ∧ w = w' := by
  have := spin_any (1 + (k / 4 : Nat)) 0 (k : Int) (k % 4) (and3_nat k h) (by omega) (by omega) (by omega) (by omega) (by omega) w
  rw [fb_zero] at this
  exact this

theorem ring_any (n : Int) (w : World) :
    Calls Try.prog 6 #[.int .i64 n] w fun e w' => ∃ g, e = .returned (.slice (some ⟨g, 0, none⟩) (many n) (many n)) ∧ w'.ownsRow w.heap.size 26 1 (.slice (some ⟨g, 0, none⟩) (many n) (many n)) (many n) (laid (many n) (many n)) ∧ Below w.heap.size w w' := by
  have hm := many_eq n
  have hl := many_le n
  obtain ⟨q, hq⟩ : ∃ q : Nat, max n 0 = (q : Int) := ⟨(max n 0).toNat, by omega⟩
  have hmax : ∀ W, (Builtin.max_ #[3, 3] 3 #[.int .i64 n, .int .i64 0]).run Try.prog W = .ok (.int .i64 (q : Int)) W := by
    intro W; rw [run_max_int2]; congr 2; split <;> omega
  generalize many n = m at *
  have hmin : ∀ W, (Builtin.min_ #[3, 3] 3 #[.int .i64 (q : Int), .int .i64 64]).run Try.prog W = .ok (.int .i64 (m : Int)) W := by
    intro W; rw [run_min_int2]; congr 2; split <;> omega
  have hmk := make_places m (by omega)
  clear hm hq
  go_enter Try.func6, Try.ntmps6
  go_wp2_with fail
  have hown := zeros_row w w.heap.size m (by omega) (Nat.le_refl _)
  have hb := (Below.refl w.heap.size w).alloc (Nat.le_refl _) (.cells (zeros m) 26)
  generalize w.alloc (.cells (zeros m) 26) = w1 at *
  rw [← laid_zero] at hown
  go_loopw [11] (fun i W => ∃ k : Nat, k ≤ m ∧ i = .int .i64 k ∧ W.ownsRow w.heap.size 26 1 (.slice (some ⟨w.heap.size, 0, none⟩) m m) m (laid m k) ∧ Below w.heap.size w W) (fun i _ => m - (intOf i).toNat)
  case atStart => exact ⟨0, Nat.zero_le _, rfl, hown, hb⟩
  case round =>
    obtain ⟨k, hk, rfl, hown, hb⟩ := hrel
    by_cases hlt : k < m
    · go_wp2_with fail
      refine (spin_at k (by omega) _).mono ?_
      rintro e w' ⟨rfl, rfl⟩
      have hf := hown.frozenAt k
      have hst := fun a x y m W => run_store Try.prog W a (.complex .f64 x y) m rfl
      have hsz := hb.size
      have hs := hown.stored k (ptv k)
      rw [laid_set] at hs
      obtain ⟨x, y, hxy⟩ : ∃ x y, ptv k = .complex .f64 x y := ⟨_, _, rfl⟩
      rw [hxy] at hs ⊢
      have hb2 := hb.grown hs.2 (by omega) (fun j hj => by cases hj; exact Nat.le_refl _)
      have hc : wr.cell? ⟨w.heap.size, k, none⟩ = some (.complex .f64 0 0) := by
        rw [hown.cellAt k (by omega)]
        simp [laid, hlt, zv]
      have hown2 := hs.1
      clear hown hs hb hxy
      go_wp2
      refine ⟨⟨k + 1, by omega, by go_num, hown2, hb2⟩, by simp [intOf]; omega⟩
    · obtain rfl : k = m := by omega
      go_wp2
      go_ret
      exact ⟨_, rfl, hown, hb⟩
end Go.Proofs.Ytkjedffncphgmaa.Pl
