/-
  Contracts: the document's Has and Less. Conditions: as each theorem says.
-/
import Derived.Test.YtkemljpjfbmjgaaDoorDepsU
namespace Go.Proofs.YtkemljpjfbmjgaaDoor.Dp
open Go.RowKit
set_option maxRecDepth 100000

def NotTo (xs : List ID) (t : ID) (k : Nat) : Prop := ∀ j, j < k → xs.getD j (0, 0) ≠ t
theorem NotTo.step {xs : List ID} {t : ID} {k : Nat} (h : NotTo xs t k) (e : xs.getD k (0, 0) ≠ t) : NotTo xs t (k + 1) := fun j hj => by
  rcases Nat.lt_or_ge j k with hk | hk
  · exact h j hk
  · rwa [show j = k by omega]
theorem has_yes {xs : List ID} {t : ID} {k : Nat} (hk : k < xs.length) (e : xs.getD k (0, 0) = t) : hasD xs t = true := by
  unfold hasD
  rw [decide_eq_true_eq, ← e, List.getD_eq_getElem?_getD, List.getElem?_eq_getElem hk]
  exact List.getElem_mem hk
theorem has_no {xs : List ID} {t : ID} (h : NotTo xs t xs.length) : hasD xs t = false := by
  unfold hasD
  rw [decide_eq_false_iff_not]
  intro hm
  obtain ⟨j, hj, e⟩ := List.getElem_of_mem hm
  refine h j hj ?_
  rw [List.getD_eq_getElem?_getD, List.getElem?_eq_getElem hj]
  exact e

set_option maxRecDepth 100000 in
set_option maxHeartbeats 1000000 in
theorem refhas_any (xs : List ID) (p q : Int) (z : Bool) (h : hasD xs (p, q) = z) (ao : Option Addr) (ca : Nat) (w : World) (ra : Ids w ao ca xs) :
    Calls Tryd.prog 63 #[.slice ao xs.length ca, .agg #[.int .i64 p, .int .i64 q]] w fun e w' => e = .returned (.bool z) ∧ Below w.heap.size w w' := by
  have lx : xs.length ≤ 9223372036854775807 := Nat.le_trans ra.le ra.capl
  have HA := Lib.hid ra
  have HE := Lib.hid h
  have d0 : (w.alloc (.cells #[.int .i64 p, .int .i64 q] 72)).cell? ⟨w.heap.size, 0, none⟩ = some (.int .i64 p) := two_new0 _ _ _ _
  have d1 : (w.alloc (.cells #[.int .i64 p, .int .i64 q] 72)).cell? ⟨w.heap.size, 1, none⟩ = some (.int .i64 q) := two_new1 _ _ _ _
  have hsz : w.heap.size < (w.alloc (.cells #[.int .i64 p, .int .i64 q] 72)).heap.size := by simp
  have hb0 : Below w.heap.size w (w.alloc (.cells #[.int .i64 p, .int .i64 q] 72)) := (Below.refl _ _).alloc (Nat.le_refl _) _
  clear ra h
  go_enter Tryd.func63, Tryd.ntmps63
  go_wp2_with fail
  generalize w.alloc (.cells #[.int .i64 p, .int .i64 q] 72) = w1 at *
  have HB1 := Lib.hid hb0
  have HD : Hid (∀ W, Below w1.heap.size w1 W → W.cell? ⟨w.heap.size, 0, none⟩ = some (.int .i64 p) ∧ W.cell? ⟨w.heap.size, 1, none⟩ = some (.int .i64 q)) :=
    Lib.hid fun W hW => ⟨(hW.cell (p := ⟨w.heap.size, 0, none⟩) hsz).trans d0, (hW.cell (p := ⟨w.heap.size, 1, none⟩) hsz).trans d1⟩
  clear d0 d1 hb0 hsz
  go_loopw [5] (fun i W => ∃ k : Nat, k ≤ xs.length ∧ i = .int .i64 (k : Int) ∧ Hid (NotTo xs (p, q) k) ∧ Hid (Below w1.heap.size w1 W)) (fun i _ => xs.length - (intOf i).toNat)
  case atStart => exact ⟨0, Nat.zero_le _, rfl, Lib.hid (fun j hj => by omega), Lib.hid (Below.refl _ _)⟩
  case round =>
    obtain ⟨k, hk, rfl, hN, hW⟩ := hrel
    by_cases hlt : k < xs.length
    · obtain ⟨x, a, b, ex, rfl, hxb, c0, c1⟩ := (HA.out.kept (HB1.out.trans (hW.out.mono HB1.out.size))).at hlt
      have ⟨g0, g1⟩ := HD.out _ hW.out
      by_cases he : a = p ∧ b = q
      · obtain ⟨rfl, rfl⟩ := he
        obtain rfl : z = true := by rw [← HE.out]; exact has_yes hlt ex
        have hq : ∀ W : World, (binOp .eql 72 (.agg #[.int .i64 a, .int .i64 b]) (.agg #[.int .i64 a, .int .i64 b])).run Tryd.prog W = Result.ok (Value.bool true) W := fun W => by rw [run_eql 72 (.inr rfl)]; simp
        clear ex
        go_wp2_with fail
        go_region
        go_wp2
        go_ret
        exact ⟨rfl, HB1.out.trans ((hW.out.drew).mono HB1.out.size)⟩
      · have qe : (a == p && b == q) = false := by
          rw [Bool.eq_false_iff]; intro h; simp only [Bool.and_eq_true, beq_iff_eq] at h; exact he h
        have hq : ∀ W : World, (binOp .eql 72 (.agg #[.int .i64 a, .int .i64 b]) (.agg #[.int .i64 p, .int .i64 q])).run Tryd.prog W = Result.ok (Value.bool false) W := fun W => by rw [run_eql 72 (.inr rfl), qe]
        have HN := Lib.hid (hN.out.step (by rw [ex]; intro h; simp only [Prod.mk.injEq] at h; exact he h))
        have HW := Lib.hid hW.out.drew
        clear he qe ex hN
        go_wp2_with fail
        go_region
        go_wp2
        exact ⟨⟨k + 1, by omega, by go_num, HN, HW⟩, by simp [intOf]; omega⟩
    · obtain rfl : k = xs.length := by omega
      obtain rfl : z = false := by rw [← HE.out]; exact has_no hN.out
      clear hN
      go_wp2
      go_ret
      exact ⟨rfl, HB1.out.trans (hW.out.mono HB1.out.size)⟩
end Go.Proofs.YtkemljpjfbmjgaaDoor.Dp
