/-
  Contracts of the document's own answer on ballots: what only computes.
-/
import Derived.Test.YthmadcmoendndaaDoorBalW
namespace Go.Proofs.YthmadcmoendndaaDoor.Bl
open Go.RowKit
open Pk (bcell scope_ahead)

theorem refright_any (r v : Int) (c : Bool) (h : rightB r v = c) (h0 : 0 ≤ r) (w : World) : Calls Tryd.prog 16 #[.agg #[.int .u32 r, .int .i64 v]] w fun e w' => e = .returned (.bool c) ∧ Below w.heap.size w w' := by
  subst h
  have e : rightB r v = (decide (0 ≤ v) && decide (v ≤ 7) && ((r == 0) == (v == 0))) := by
    rw [Bool.eq_iff_iff, rightB_iff]
    simp only [Bool.and_eq_true, decide_eq_true_eq, beq_iff_eq]
    rw [Bool.eq_iff_iff, beq_iff_eq, beq_iff_eq]
    omega
  rw [e]
  clear e
  by_cases h1 : 0 ≤ v
  case' pos => by_cases h2 : v ≤ 7
  all_goals
    go_enter Tryd.func16, Tryd.ntmps16
    go_wp2
    go_ret
    exact ⟨ret_bool (by by_cases k1 : 0 ≤ v <;> by_cases k2 : v ≤ 7 <;> first | omega | (simp [k1, k2])), below_1 _ _⟩

theorem reforder_any (a v b u k : Int) (h : orderB a v b u = k) (w : World) : Calls Tryd.prog 19 #[.agg #[.int .u32 a, .int .i64 v], .agg #[.int .u32 b, .int .i64 u]] w fun e w' => e = .returned (.int .i64 k) ∧ Below w.heap.size w w' := by
  subst h
  obtain ⟨rfl, rfl⟩ | ⟨rfl, h3, h2⟩ | ⟨rfl, h3, h2⟩ | ⟨h3, h1⟩ | ⟨h3, h4, h1⟩ : (a = b ∧ v = u) ∨ (a = b ∧ v < u ∧ (v == u) = false) ∨ (a = b ∧ ¬ v < u ∧ (v == u) = false) ∨ (a < b ∧ (a == b) = false) ∨ (¬ a < b ∧ ¬ (a = b) ∧ (a == b) = false) := by
    simp only [beq_eq_false_iff_ne, ne_eq]
    omega
  all_goals
    go_enter Tryd.func19, Tryd.ntmps19
    go_wp2
    go_ret
    exact ⟨ret_int (by (try simp only [beq_eq_false_iff_ne, ne_eq] at h2); (try simp only [beq_eq_false_iff_ne, ne_eq] at h1); unfold orderB; split <;> (try split) <;> omega), below_2 _ _ _⟩

theorem refnext_any (r v k : Int) (x y : Int) (c : Bool) (h : nextB r k = (x, y, c)) (h0 : 0 ≤ r) (hr : r ≤ 4294967295) (w : World) :
    Calls Tryd.prog 11 #[.agg #[.int .u32 r, .int .i64 v], .int .i64 k] w fun e w' => e = .returned (.tuple #[.agg #[.int .u32 x, .int .i64 y], .bool c]) ∧ Below w.heap.size w w' := by
  rcases next_way r k with ⟨hp, h1, e⟩ | ⟨hp, e⟩
  · rw [e] at h
    obtain ⟨rfl, rfl, rfl⟩ : r + 1 = x ∧ k = y ∧ true = c := by simpa using h
    have hw : IntKind.u32.wrap (r + 1) = r + 1 := by
      have e : ∀ m : Int, IntKind.u32.wrap m = m % 4294967296 := fun m => by simp [IntKind.wrap, IntKind.bits, IntKind.signed]
      rw [e]; omega
    obtain ⟨h3, h4⟩ := (repB_iff k).1 hp
    have h5 : ¬ k < 1 := by omega
    have h2 : (r == 4294967295) = false := by simp [h1]
    clear h e hp h1 h3
    go_enter Tryd.func11, Tryd.ntmps11
    go_wp2
    exact bodyPost_ret (v := .tuple #[.agg #[.int .u32 (r + 1), .int .i64 k], .bool true]) (by simp [results, Tryd.results11, go_sem]) rfl ⟨rfl, below_2 _ _ _⟩
  · rw [e] at h
    obtain ⟨rfl, rfl, rfl⟩ : 0 = x ∧ 0 = y ∧ false = c := by simpa using h
    have hp' : k < 1 ∨ (¬ k < 1 ∧ 7 < k) ∨ (¬ k < 1 ∧ ¬ 7 < k ∧ r = 4294967295) := by
      rcases hp with hp | hp
      · have : ¬ (1 ≤ k ∧ k ≤ 7) := by rw [← repB_iff, hp]; simp
        omega
      · omega
    clear h e hp
    rcases hp' with hp | ⟨hp, hq⟩ | ⟨hp, hq, rfl⟩
    all_goals
      go_enter Tryd.func11, Tryd.ntmps11
      go_wp2
      exact bodyPost_ret (v := .tuple #[.agg #[.int .u32 0, .int .i64 0], .bool false]) (by simp [results, Tryd.results11, go_sem]) rfl ⟨rfl, below_2 _ _ _⟩

theorem ref_any (r v : Int) (w : World) : Calls Tryd.prog 12 #[.agg #[.int .u32 r, .int .i64 v]] w fun e w' => e = .returned (.agg #[.int .u32 r, .int .i64 v]) ∧ Below w.heap.size w w' := by
  go_enter Tryd.func12, Tryd.ntmps12
  go_wp2
  exact bodyPost_ret (v := .agg #[.int .u32 r, .int .i64 v]) (by simp [results, Tryd.results12, go_sem]) rfl ⟨rfl, below_2 _ _ _⟩
end Go.Proofs.YthmadcmoendndaaDoor.Bl
