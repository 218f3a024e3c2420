/-
  Contracts of the document's own answer on commands: what only computes.
-/
import Derived.Test.YtolgboedinbpeaaDoorCmdW
namespace Go.Proofs.YtolgboedinbpeaaDoor.Cm
open Go.RowKit
set_option maxRecDepth 100000
open Pk (bcell scope_ahead)
open Bl (ret_bool ret_text)
open Rw (below_1 below_2 below_then)

theorem refcmd_any (o c s : Int) (k v : ByteArray) (w : World) : Calls Tryd.prog 13 #[.agg #[.int .i64 o, .int .i64 c, .int .u32 s, .string k, .string v]] w fun e w' => e = .returned (.agg #[.int .i64 o, .int .i64 c, .int .u32 s, .string k, .string v]) ∧ Below w.heap.size w w' := by
  go_enter Tryd.func13, Tryd.ntmps13
  go_wp2
  exact bodyPost_ret (v := .agg #[.int .i64 o, .int .i64 c, .int .u32 s, .string k, .string v]) (by simp [results, Tryd.results13, go_sem]) rfl ⟨rfl, below_2 _ _ _⟩

set_option maxHeartbeats 1000000 in
theorem refclash_any (o c s : Int) (k v : ByteArray) (p d t : Int) (l u : ByteArray) (b : Bool) (h : clashC o c s k p d t l = b) (w : World) :
    Calls Tryd.prog 17 #[.agg #[.int .i64 o, .int .i64 c, .int .u32 s, .string k, .string v], .agg #[.int .i64 p, .int .i64 d, .int .u32 t, .string l, .string u]] w fun e w' => e = .returned (.bool b) ∧ Below w.heap.size w w' := by
  subst h
  unfold clashC
  obtain h1 | ⟨h1, h2⟩ | ⟨h1, h2, h3⟩ | ⟨h1, h2, h3, h4⟩ | ⟨h1, h2, h3, h4⟩ : o = 0 ∨ (¬ o = 0 ∧ p = 0) ∨ (¬ o = 0 ∧ ¬ p = 0 ∧ k.toList = l.toList) ∨ (¬ o = 0 ∧ ¬ p = 0 ∧ ¬ k.toList = l.toList ∧ c = d) ∨ (¬ o = 0 ∧ ¬ p = 0 ∧ ¬ k.toList = l.toList ∧ ¬ c = d) := by
    by_cases h1 : o = 0 <;> by_cases h2 : p = 0 <;> by_cases h3 : k.toList = l.toList <;> by_cases h4 : c = d <;> simp [h1, h2, h3, h4]
  all_goals
    go_enter Tryd.func17, Tryd.ntmps17
    go_wp2
    go_ret
    refine ⟨ret_bool ?_, below_2 _ _ _⟩
    first
      | (rw [show (o == 0) = true from beq_iff_eq.2 h1]; rfl)
      | (rw [show (p == 0) = true from beq_iff_eq.2 h2]; cases (o == 0) <;> rfl)
      | (rw [show (o != 0) = !(o == 0) from rfl, show (p != 0) = !(p == 0) from rfl, show (o == 0) = false from beq_eq_false_iff_ne.2 h1, show (p == 0) = false from beq_eq_false_iff_ne.2 h2]
         first
           | (rw [show (k.toList == l.toList) = true from beq_iff_eq.2 h3]; rfl)
           | (rw [show (c == d) = true from beq_iff_eq.2 h4]; rfl)
           | (rw [show (c == d) = false from beq_eq_false_iff_ne.2 h4]; cases (k.toList == l.toList) <;> rfl))

set_option maxHeartbeats 1000000 in
theorem refright_any (o c s : Int) (k v : ByteArray) (p : Bool) (h : rightC o c s k v = p) (w : World) : Calls Tryd.prog 15 #[.agg #[.int .i64 o, .int .i64 c, .int .u32 s, .string k, .string v]] w fun e w' => e = .returned (.bool p) ∧ Below w.heap.size w w' := by
  have hq := fun W => run_eql 32 (.inr rfl) o c s k v 0 0 0 ⟨#[]⟩ ⟨#[]⟩ W
  simp only [zero_eql] at hq
  have h' : (zeroC o c s k v || decide (1 ≤ o ∧ o ≤ 3 ∧ 1 ≤ c ∧ c ≤ 64 ∧ 1 ≤ s ∧ 1 ≤ k.size ∧ k.size ≤ 16 ∧ v.size ≤ 32 ∧ (o = 1 ∨ v.size = 0))) = p := by
    rw [← h, Bool.eq_iff_iff, rightC_iff, Bool.or_eq_true, zeroC_iff, decide_eq_true_eq]
  clear h
  generalize zeroC o c s k v = z at *
  obtain ⟨r, hr⟩ : ∃ r, decide (1 ≤ o ∧ o ≤ 3 ∧ 1 ≤ c ∧ c ≤ 64 ∧ 1 ≤ s ∧ 1 ≤ k.size ∧ k.size ≤ 16 ∧ v.size ≤ 32 ∧ (o = 1 ∨ v.size = 0)) = r := ⟨_, rfl⟩
  rw [hr] at h'
  have HR := Lib.hid hr
  clear hr
  subst h'
  cases z
  case' false =>
    by_cases h1 : 1 ≤ o
    case' pos =>
      by_cases h2 : o ≤ 3
      case' pos =>
        by_cases h3 : 1 ≤ c
        case' pos => by_cases h4 : c ≤ 64
  all_goals
    go_enter Tryd.func15, Tryd.ntmps15
    go_wp2
    all_goals
      go_ret
      refine ⟨ret_bool ?_, below_1 _ _⟩
      first
        | rfl
        | (rw [← HR.out, Bool.eq_iff_iff]
           simp only [isEmpty_size, Bool.or_eq_true, beq_iff_eq, decide_eq_true_eq, Bool.false_eq_true, false_or, true_iff, false_iff]
           omega)
end Go.Proofs.YtolgboedinbpeaaDoor.Cm
