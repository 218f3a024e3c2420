/-
  Contracts of package cmd and of the document's own answer: what only computes.
-/
import Derived.Test.YtolgboedinbpeaaDoorRows
import Derived.Test.YtolgboedinbpeaaDoorPackT
import Derived.Test.YtolgboedinbpeaaDoorRow
import Derived.Test.YtolgboedinbpeaaDoorSign
import Derived.Test.YtolgboedinbpeaaDoorCmdM
namespace Go.Proofs.YtolgboedinbpeaaDoor.Cm
open Go.RowKit
set_option maxRecDepth 100000
open Pk (bcell scope_ahead)
open Bl (ret_bool ret_text)
open Rw (below_1 below_2 below_then)

theorem empty_iff (k : ByteArray) : k.toList = [] ↔ k.size = 0 := by
  rw [ByteArray.toList_eq, Array.toList_eq_nil_iff]
  exact ⟨fun h => by show k.data.size = 0; rw [h]; rfl, Array.eq_empty_of_size_eq_zero⟩
theorem isEmpty_size (k : ByteArray) : k.toList.isEmpty = (k.size == 0) := by
  rw [Bool.eq_iff_iff, List.isEmpty_iff, beq_iff_eq]; exact empty_iff k
theorem toList_beq (k l : ByteArray) : (k.toList == l.toList) = decide (k = l) := by
  rw [Bool.eq_iff_iff, beq_iff_eq, decide_eq_true_eq, ByteArray.toList_eq, ByteArray.toList_eq]
  exact ⟨fun h => ByteArray.ext (Array.toList_inj.1 h), fun h => by rw [h]⟩

set_option maxHeartbeats 1000000 in
theorem ask_any (o c s : Int) (k v : ByteArray) (p : Bool) (h : askC c s k = p) (w : World) : Calls Tryd.prog 27 #[.agg #[.int .i64 o, .int .i64 c, .int .u32 s, .string k, .string v]] w fun e w' => e = .returned (.bool p) ∧ Below w.heap.size w w' := by
  subst h
  by_cases h1 : 1 ≤ c
  case' pos =>
    by_cases h2 : c ≤ 64
    case' pos =>
      by_cases h3 : 1 ≤ s
  all_goals
    go_enter Tryd.func27, Tryd.ntmps27
    go_wp2
    all_goals
      go_ret
      refine ⟨ret_bool ?_, below_1 _ _⟩
      rw [Bool.eq_iff_iff, askC_iff]
      (try simp only [empty_iff] at *)
      (try simp only [isEmpty_size, Bool.and_eq_true, Bool.not_eq_true', beq_eq_false_iff_ne, ne_eq, decide_eq_true_eq, Bool.false_eq_true, false_iff])
      omega

set_option maxHeartbeats 1000000 in
/-- two commands held against one another -/
theorem run_eql (t : TypeId) (ht : t = 24 ∨ t = 32) (o c s : Int) (k v : ByteArray) (p d q : Int) (l u : ByteArray) (w : World) :
    (binOp .eql t (.agg #[.int .i64 o, .int .i64 c, .int .u32 s, .string k, .string v]) (.agg #[.int .i64 p, .int .i64 d, .int .u32 q, .string l, .string u])).run Tryd.prog w = Result.ok (Value.bool (o == p && (c == d && (s == q && (k.toList == l.toList && v.toList == u.toList))))) w := by
  rcases ht with rfl | rfl <;> go_simp
  all_goals by_cases h1 : o = p <;> by_cases h2 : c = d <;> by_cases h3 : s = q <;> by_cases h4 : k.toList = l.toList <;> by_cases h5 : v.toList = u.toList <;> simp [h1, h2, h3, h4, h5]
theorem zero_eql (o c s : Int) (k v : ByteArray) : (o == 0 && (c == 0 && (s == 0 && (k.toList == (⟨#[]⟩ : ByteArray).toList && v.toList == (⟨#[]⟩ : ByteArray).toList)))) = zeroC o c s k v := by
  have e : ∀ x : ByteArray, (x.toList == (⟨#[]⟩ : ByteArray).toList) = (x.size == 0) := fun x => by
    rw [toList_beq, Bool.eq_iff_iff, decide_eq_true_eq, beq_iff_eq]
    exact ⟨fun h => by rw [h]; rfl, size0 x⟩
  rw [e, e]; rfl

theorem right0 (c s : Int) (k v : ByteArray) : rightC 0 c s k v = zeroC 0 c s k v := by
  unfold rightC; rw [show decide (1 ≤ (0 : Int) ∧ (0 : Int) ≤ 3 ∧ v.size ≤ 32 ∧ ((0 : Int) = 1 ∨ v.size = 0)) = false by simp]; simp
theorem right1 (c s : Int) (k v : ByteArray) : rightC 1 c s k v = (askC c s k && decide (v.size ≤ 32)) := by
  rw [Bool.eq_iff_iff, rightC_iff, Bool.and_eq_true, askC_iff, decide_eq_true_eq]; omega
theorem right23 (o c s : Int) (k v : ByteArray) (ho : o = 2 ∨ o = 3) : rightC o c s k v = (askC c s k && v.size == 0) := by
  rw [Bool.eq_iff_iff, rightC_iff, Bool.and_eq_true, askC_iff, beq_iff_eq]; omega
theorem rightx (o c s : Int) (k v : ByteArray) (h : ¬ o = 0 ∧ ¬ o = 1 ∧ ¬ o = 2 ∧ ¬ o = 3) : rightC o c s k v = false := by
  rw [← Bool.not_eq_true, rightC_iff]; omega

set_option maxHeartbeats 1000000 in
theorem right_any (o c s : Int) (k v : ByteArray) (p : Bool) (h : rightC o c s k v = p) (w : World) : Calls Tryd.prog 14 #[.agg #[.int .i64 o, .int .i64 c, .int .u32 s, .string k, .string v]] w fun e w' => e = .returned (.bool p) ∧ Below w.heap.size w w' := by
  subst h
  by_cases h0 : o = 0
  · subst h0
    have hq := fun W => run_eql 24 (.inl rfl) 0 c s k v 0 0 0 ⟨#[]⟩ ⟨#[]⟩ W
    simp only [zero_eql] at hq
    rw [right0]
    generalize zeroC 0 c s k v = z at *
    go_enter Tryd.func14, Tryd.ntmps14
    go_wp2
    go_ret
    exact ⟨rfl, below_1 _ _⟩
  obtain ⟨p, hp⟩ : ∃ p, askC c s k = p := ⟨_, rfl⟩
  by_cases h1 : o = 1
  · subst h1
    rw [right1, hp]
    have HP := Lib.hid hp
    clear hp h0
    cases p
    all_goals
      go_enter Tryd.func14, Tryd.ntmps14
      go_wp2_with fail
      refine (ask_any 1 c s k v _ HP.out _).mono ?_
      rintro e w1 ⟨rfl, hb⟩
      have k1 := (Rw.Row.newAt w [.int .i64 1, .int .i64 c, .int .u32 s, .string k, .string v] 24 _ rfl).over hb
      have q4 := k1.2 4 _ rfl
      go_wp2
      go_ret
      exact ⟨ret_bool (by first | (simp; done) | (simp; omega)), below_then (below_1 _ _) hb (by simp)⟩
  · by_cases h2 : o = 2 ∨ o = 3
    · rw [right23 _ _ _ _ _ h2, hp]
      have HP := Lib.hid hp
      clear hp h0 h1
      have HE := Lib.hid (isEmpty_size v)
      rcases h2 with rfl | rfl <;> cases p
      all_goals
        go_enter Tryd.func14, Tryd.ntmps14
        go_wp2_with fail
        refine (ask_any _ c s k v _ HP.out _).mono ?_
        rintro e w1 ⟨rfl, hb⟩
        have k1 := (Rw.Row.newAt w [.int .i64 _, .int .i64 c, .int .u32 s, .string k, .string v] 24 _ rfl).over hb
        have q4 := k1.2 4 _ rfl
        go_wp2
        all_goals
          go_ret
          exact ⟨ret_bool (by (try rw [← HE.out]); simp), below_then (below_1 _ _) hb (by simp)⟩
    · clear hp
      rw [rightx _ _ _ _ _ (by omega)]
      have h3 : ¬ o = 2 := by omega
      have h4 : ¬ o = 3 := by omega
      clear h2
      go_enter Tryd.func14, Tryd.ntmps14
      go_wp2
      go_ret
      exact ⟨rfl, below_1 _ _⟩

set_option maxHeartbeats 1000000 in
theorem clash_any (o c s : Int) (k v : ByteArray) (p d t : Int) (l u : ByteArray) (b : Bool) (h : clashC o c s k p d t l = b) (w : World) :
    Calls Tryd.prog 16 #[.agg #[.int .i64 o, .int .i64 c, .int .u32 s, .string k, .string v], .agg #[.int .i64 p, .int .i64 d, .int .u32 t, .string l, .string u]] w fun e w' => e = .returned (.bool b) ∧ Below w.heap.size w w' := by
  subst h
  unfold clashC
  obtain h1 | ⟨h1, h2⟩ | ⟨h1, h2, h3⟩ | ⟨h1, h2, h3, h4⟩ | ⟨h1, h2, h3, h4⟩ : o = 0 ∨ (¬ o = 0 ∧ p = 0) ∨ (¬ o = 0 ∧ ¬ p = 0 ∧ k.toList = l.toList) ∨ (¬ o = 0 ∧ ¬ p = 0 ∧ ¬ k.toList = l.toList ∧ c = d) ∨ (¬ o = 0 ∧ ¬ p = 0 ∧ ¬ k.toList = l.toList ∧ ¬ c = d) := by
    by_cases h1 : o = 0 <;> by_cases h2 : p = 0 <;> by_cases h3 : k.toList = l.toList <;> by_cases h4 : c = d <;> simp [h1, h2, h3, h4]
  · subst h1
    go_enter Tryd.func16, Tryd.ntmps16
    go_wp2
    refine scope_ahead 0 rfl ?_
    go_wp2
    go_step3
    refine ⟨rfl, ?_⟩
    go_wp2
    rw [Exit.noGoto_ret]
    go_ret
    exact ⟨ret_bool (by simp), below_2 _ _ _⟩
  · subst h2
    go_enter Tryd.func16, Tryd.ntmps16
    go_wp2
    refine scope_ahead 0 rfl ?_
    go_wp2
    go_step3
    refine ⟨rfl, ?_⟩
    go_wp2
    rw [Exit.noGoto_ret]
    go_ret
    exact ⟨ret_bool (by simp), below_2 _ _ _⟩
  all_goals
    have b1 : (o == 0) = false := by simp [h1]
    have b2 : (p == 0) = false := by simp [h2]
    go_enter Tryd.func16, Tryd.ntmps16
    go_wp2
    go_step3
    go_wp2
    rw [Exit.noGoto_ret]
    go_ret
    refine ⟨ret_bool ?_, below_2 _ _ _⟩
    rw [b1, b2]
    first
      | (rw [show (k.toList == l.toList) = true from beq_iff_eq.2 h3]; rfl)
      | (rw [show (c == d) = true from beq_iff_eq.2 h4]; rfl)
      | (rw [show (c == d) = false from beq_eq_false_iff_ne.2 h4]; cases (k.toList == l.toList) <;> rfl)
      | rfl

set_option maxHeartbeats 1000000 in
theorem opname_any (o : Int) (x : ByteArray) (h : wordC o = x) (w : World) : Calls Tryd.prog 28 #[.int .i64 o] w fun e w' => e = .returned (.string x) ∧ w = w' := by
  subst h
  unfold wordC
  by_cases h1 : o = 1
  · subst h1
    go_enter Tryd.func28, Tryd.ntmps28
    go_wp2
    go_ret
    exact ⟨rfl, rfl⟩
  by_cases h2 : o = 2
  · subst h2
    go_enter Tryd.func28, Tryd.ntmps28
    go_wp2
    go_ret
    exact ⟨rfl, rfl⟩
  by_cases h3 : o = 3
  · subst h3
    go_enter Tryd.func28, Tryd.ntmps28
    go_wp2
    go_ret
    exact ⟨rfl, rfl⟩
  rw [if_neg h1, if_neg h2, if_neg h3]
  go_enter Tryd.func28, Tryd.ntmps28
  go_wp2
  go_ret
  exact ⟨rfl, rfl⟩
end Go.Proofs.YtolgboedinbpeaaDoor.Cm
