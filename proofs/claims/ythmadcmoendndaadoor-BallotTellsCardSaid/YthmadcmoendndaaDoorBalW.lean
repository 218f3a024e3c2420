/-
  Contracts of package ballot and of the document's own answer: what only computes.
-/
import Derived.Test.YthmadcmoendndaaDoorRows
import Derived.Test.YthmadcmoendndaaDoorPackT
import Derived.Test.YthmadcmoendndaaDoorPair
import Derived.Test.YthmadcmoendndaaDoorBalM
namespace Go.Proofs.YthmadcmoendndaaDoor.Bl
open Go.RowKit
open Pk (bcell scope_ahead)

theorem ret_bool {a b : Bool} (h : a = b) : Ending.returned (.bool a) = .returned (.bool b) := by rw [h]
theorem ret_int {k : IntKind} {a b : Int} (h : a = b) : Ending.returned (.int k a) = .returned (.int k b) := by rw [h]

theorem rep_any (v : Int) (c : Bool) (h : repB v = c) (w : World) : Calls Tryd.prog 24 #[.int .i64 v] w fun e w' => e = .returned (.bool c) ∧ w = w' := by
  subst h
  by_cases h1 : 1 ≤ v
  case' pos => by_cases h2 : v ≤ 7
  all_goals
    go_enter Tryd.func24, Tryd.ntmps24
    go_wp2
    go_ret
    exact ⟨ret_bool (by simp [repB]; try omega), rfl⟩

/-- two ballots held against one another -/
theorem run_eql (t : TypeId) (ht : t = 24 ∨ t = 30) (a v b u : Int) (w : World) : (binOp .eql t (.agg #[.int .u32 a, .int .i64 v]) (.agg #[.int .u32 b, .int .i64 u])).run Tryd.prog w = Result.ok (Value.bool (a == b && v == u)) w := by
  rcases ht with rfl | rfl <;> by_cases h1 : a = b <;> by_cases h2 : v = u <;> go_simp <;> simp [h1, h2]

theorem zero_any (r v : Int) (c : Bool) (h : zeroB r v = c) (w : World) : Calls Tryd.prog 17 #[.agg #[.int .u32 r, .int .i64 v]] w fun e w' => e = .returned (.bool c) ∧ Below w.heap.size w w' := by
  subst h
  by_cases h1 : r = 0
  case' pos => by_cases h2 : v = 0
  all_goals
    go_enter Tryd.func17, Tryd.ntmps17
    go_wp2
    go_ret
    exact ⟨ret_bool (by simp [zeroB]; try omega), below_1 _ _⟩

set_option maxHeartbeats 1000000 in
theorem right_any (r v : Int) (c : Bool) (h : rightB r v = c) (w : World) : Calls Tryd.prog 15 #[.agg #[.int .u32 r, .int .i64 v]] w fun e w' => e = .returned (.bool c) ∧ Below w.heap.size w w' := by
  subst h
  obtain ⟨z, hz⟩ : ∃ z, zeroB r v = z := ⟨_, rfl⟩
  obtain ⟨p, hp⟩ : ∃ p, repB v = p := ⟨_, rfl⟩
  have H : rightB r v = (z || (decide (0 < r) && p)) := by unfold rightB; rw [hz, hp]
  have HZ := Lib.hid hz
  have HP := Lib.hid hp
  rw [H]
  clear H hz hp
  cases z
  case' false =>
    by_cases h1 : 0 < r
    case' pos => cases p
  all_goals
    go_enter Tryd.func15, Tryd.ntmps15
    go_wp2_with fail
    refine (zero_any r v _ HZ.out _).mono ?_
    rintro e w1 ⟨rfl, hb⟩
    have ⟨hc, hf⟩ := bcell hb
    go_wp2_with (go_at_call 24; refine (rep_any v _ HP.out _).mono ?_; rintro e w2 ⟨rfl, rfl⟩)
    go_ret
    exact ⟨ret_bool (by simp; try omega), below_then (below_1 _ _) hb (by simp)⟩

theorem order_any (a v b u k : Int) (h : orderB a v b u = k) (w : World) : Calls Tryd.prog 18 #[.agg #[.int .u32 a, .int .i64 v], .agg #[.int .u32 b, .int .i64 u]] w fun e w' => e = .returned (.int .i64 k) ∧ Below w.heap.size w w' := by
  subst h
  obtain ⟨rfl, rfl⟩ | ⟨rfl, h3, h2⟩ | ⟨rfl, h3, h2⟩ | ⟨h3, h1⟩ | ⟨h3, h4, h1⟩ : (a = b ∧ v = u) ∨ (a = b ∧ v < u ∧ (v == u) = false) ∨ (a = b ∧ ¬ v < u ∧ (v == u) = false) ∨ (a < b ∧ (a == b) = false) ∨ (¬ a < b ∧ ¬ (a = b) ∧ (a == b) = false) := by
    simp only [beq_eq_false_iff_ne, ne_eq]
    omega
  all_goals
    go_enter Tryd.func18, Tryd.ntmps18
    go_wp2
    go_ret
    exact ⟨ret_int (by (try simp only [beq_eq_false_iff_ne, ne_eq] at h2); (try simp only [beq_eq_false_iff_ne, ne_eq] at h1); unfold orderB; split <;> (try split) <;> omega), below_2 _ _ _⟩

theorem next_any (r v k : Int) (x y : Int) (c : Bool) (h : nextB r k = (x, y, c)) (h0 : 0 ≤ r) (hr : r ≤ 4294967295) (w : World) :
    Calls Tryd.prog 10 #[.agg #[.int .u32 r, .int .i64 v], .int .i64 k] w fun e w' => e = .returned (.tuple #[.agg #[.int .u32 x, .int .i64 y], .bool c]) ∧ Below w.heap.size w w' := by
  rcases next_way r k with ⟨hp, h1, e⟩ | ⟨hp, e⟩
  · rw [e] at h
    obtain ⟨rfl, rfl, rfl⟩ : r + 1 = x ∧ k = y ∧ true = c := by simpa using h
    have HP := Lib.hid hp
    have hw : IntKind.u32.wrap (r + 1) = r + 1 := by
      have e : ∀ m : Int, IntKind.u32.wrap m = m % 4294967296 := fun m => by simp [IntKind.wrap, IntKind.bits, IntKind.signed]
      rw [e]; omega
    have h2 : (r == 4294967295) = false := by simp [h1]
    clear h e hp h1
    go_enter Tryd.func10, Tryd.ntmps10
    go_wp2
    go_step3
    go_wp2_with fail
    refine (rep_any k _ HP.out _).mono ?_
    rintro e w1 ⟨rfl, rfl⟩
    go_wp2
    rw [Exit.noGoto_ret]
    exact bodyPost_ret (v := .tuple #[.agg #[.int .u32 (r + 1), .int .i64 k], .bool true]) (by simp [results, Tryd.results10, go_sem]) rfl ⟨rfl, below_2 _ _ _⟩
  · rw [e] at h
    obtain ⟨rfl, rfl, rfl⟩ : 0 = x ∧ 0 = y ∧ false = c := by simpa using h
    obtain ⟨p, hq⟩ : ∃ p, repB k = p := ⟨_, rfl⟩
    have HP := Lib.hid hq
    clear h e
    rw [hq] at hp
    clear hq
    cases p
    case' true =>
      obtain rfl : r = 4294967295 := by simpa using hp
    all_goals
      clear hp
      go_enter Tryd.func10, Tryd.ntmps10
      go_wp2
      refine scope_ahead 0 rfl ?_
      go_wp2_with fail
      refine (rep_any k _ HP.out _).mono ?_
      rintro e w1 ⟨rfl, rfl⟩
      go_wp2
      go_step3
      refine ⟨rfl, ?_⟩
      go_wp2
      rw [Exit.noGoto_ret]
      exact bodyPost_ret (v := .tuple #[.agg #[.int .u32 0, .int .i64 0], .bool false]) (by simp [results, Tryd.results10, go_sem]) rfl ⟨rfl, below_2 _ _ _⟩
end Go.Proofs.YthmadcmoendndaaDoor.Bl
