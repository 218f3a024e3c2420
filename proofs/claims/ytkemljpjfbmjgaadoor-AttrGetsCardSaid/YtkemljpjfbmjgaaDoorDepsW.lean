/-
  Contracts: Right and Order of two pairs, the program's and the document's. Conditions: as each theorem says.
-/
import Derived.Test.YtkemljpjfbmjgaaDoorIds
import Derived.Test.YtkemljpjfbmjgaaDoorPackR
import Derived.Deep.RegionHeld3
import Derived.Deep.RegionLaw
namespace Go.Proofs.YtkemljpjfbmjgaaDoor.Dp
open Go.RowKit
set_option maxRecDepth 100000

/-- -1, 0 or 1 -/
def cmpI (a b : Int) : Int := if a < b then -1 else if b < a then 1 else 0

theorem compare_any (a b : Int) (w : World) :
    Calls Tryd.prog 61 #[.int .i64 a, .int .i64 b] w fun e w' => e = .returned (.int .i64 (cmpI a b)) ∧ w = w' := by
  have hnan : ∀ (x : Int) (W : World), Calls Tryd.prog 69 #[.int .i64 x] W fun e w' => e = .returned (.bool false) ∧ W = w' := by
    intro x W
    go_enter Tryd.func69, Tryd.ntmps69
    go_wp2
    go_ret
    exact ⟨rfl, rfl⟩
  unfold cmpI
  by_cases h1 : a < b
  · rw [if_pos h1]
    go_enter Tryd.func61, Tryd.ntmps61
    go_wp2_with ((go_at_call 69; refine (hnan _ _).mono ?_; rintro e w' ⟨rfl, rfl⟩))
    go_ret
    exact ⟨rfl, rfl⟩
  · rw [if_neg h1]
    by_cases h2 : b < a
    · rw [if_pos h2]
      go_enter Tryd.func61, Tryd.ntmps61
      go_wp2_with ((go_at_call 69; refine (hnan _ _).mono ?_; rintro e w' ⟨rfl, rfl⟩))
      go_ret
      exact ⟨rfl, rfl⟩
    · rw [if_neg h2]
      go_enter Tryd.func61, Tryd.ntmps61
      go_wp2_with ((go_at_call 69; refine (hnan _ _).mono ?_; rintro e w' ⟨rfl, rfl⟩))
      go_ret
      exact ⟨rfl, rfl⟩

/-- the first of two that is not 0 -/
def orI (x y : Int) : Int := if x = 0 then y else x
theorem or_any (g : Nat) (x y z : Int) (h : orI x y = z) (w : World) (h0 : w.cell? ⟨g, 0, none⟩ = some (.int .i64 x)) (h1 : w.cell? ⟨g, 1, none⟩ = some (.int .i64 y)) :
    Calls Tryd.prog 60 #[.slice (some ⟨g, 0, none⟩) 2 2] w fun e w' => e = .returned (.int .i64 z) ∧ w = w' := by
  unfold orI at h
  have H := Lib.hid h
  clear h
  go_enter Tryd.func60, Tryd.ntmps60
  go_wp2_with fail
  go_loop [8] (fun i => ∃ k : Nat, k ≤ 2 ∧ i = .int .i64 k ∧ (1 ≤ k → Hid (x = 0)) ∧ (2 ≤ k → Hid (y = 0))) (fun i => 2 - (intOf i).toNat)
  case atStart => exact ⟨0, by omega, rfl, by omega, by omega⟩
  case round =>
    obtain ⟨k, hk, rfl, hx, hy⟩ := hrel
    rcases k with _ | _ | _ | k
    · by_cases h : x = 0
      · have q : ((x : Int) == 0) = true := by simpa using h
        have hh := Lib.hid h
        clear h
        go_wp2
        go_round
        case rel => exact ⟨1, by omega, rfl, fun _ => hh, by omega⟩
        case measure => simp [intOf]
      · have q : ((x : Int) == 0) = false := by simpa using h
        have e : x = z := by have := H.out; rwa [if_neg h] at this
        subst e
        go_wp2
        go_ret
        exact ⟨rfl, rfl⟩
    · have hx0 := (hx (by omega)).out
      clear hx
      have e : y = z := by have := H.out; rwa [if_pos hx0] at this
      have hh := Lib.hid hx0
      clear hx0
      by_cases h : y = 0
      · have q : ((y : Int) == 0) = true := by simpa using h
        have hy := Lib.hid h
        have E := Lib.hid e
        clear h e
        go_wp2
        go_round
        case rel => exact ⟨2, by omega, rfl, fun _ => hh, fun _ => hy⟩
        case measure => simp [intOf]
      · have q : ((y : Int) == 0) = false := by simpa using h
        subst e
        go_wp2
        go_ret
        exact ⟨rfl, rfl⟩
    · have e : z = 0 := by have := H.out; rw [if_pos (hx (by omega)).out, (hy (by omega)).out] at this; exact this.symm
      subst e
      clear hx hy
      go_wp2
      go_ret
      exact ⟨rfl, rfl⟩
    · exact absurd hk (by omega)
theorem or_cmp (a b : ID) : orI (cmpI a.1 b.1) (cmpI a.2 b.2) = orderD a b := by
  obtain ⟨a1, a2⟩ := a
  obtain ⟨b1, b2⟩ := b
  unfold orI cmpI orderD Lt
  simp only [Prod.mk.injEq]
  by_cases h1 : a1 < b1 <;> by_cases h2 : b1 < a1 <;> by_cases h3 : a2 < b2 <;> by_cases h4 : b2 < a2 <;> simp [h1, h2, h3, h4] <;> omega

theorem two_new0 (W : World) (x y : Value) (t : TypeId) : (W.alloc (.cells #[x, y] t)).cell? ⟨W.heap.size, 0, none⟩ = some x := by
  rw [cell_of_row _ W.heap.size 0 _ _ (0, 0) (heap_alloc_new _ _)]; rfl
theorem two_new1 (W : World) (x y : Value) (t : TypeId) : (W.alloc (.cells #[x, y] t)).cell? ⟨W.heap.size, 1, none⟩ = some y := by
  rw [cell_of_row _ W.heap.size 1 _ _ (0, 0) (heap_alloc_new _ _)]; rfl

set_option maxRecDepth 100000 in
set_option maxHeartbeats 2000000 in
theorem order_any (a1 a2 b1 b2 z : Int) (h : orderD (a1, a2) (b1, b2) = z) (w : World) :
    Calls Tryd.prog 45 #[.agg #[.int .i64 a1, .int .i64 a2], .agg #[.int .i64 b1, .int .i64 b2]] w fun e w' => e = .returned (.int .i64 z) ∧ Below w.heap.size w w' := by
  rw [← or_cmp] at h
  have HZ := Lib.hid h
  clear h
  go_enter Tryd.func45, Tryd.ntmps45
  go_wp2_with fail
  have c0 : ((w.alloc (.cells #[.int .i64 a1, .int .i64 a2] 58)).alloc (.cells #[.int .i64 b1, .int .i64 b2] 58)).cell? ⟨w.heap.size, 0, none⟩ = some (.int .i64 a1) := by simp
  have c1 : ((w.alloc (.cells #[.int .i64 a1, .int .i64 a2] 58)).alloc (.cells #[.int .i64 b1, .int .i64 b2] 58)).cell? ⟨w.heap.size, 1, none⟩ = some (.int .i64 a2) := by simp
  have c2 : ((w.alloc (.cells #[.int .i64 a1, .int .i64 a2] 58)).alloc (.cells #[.int .i64 b1, .int .i64 b2] 58)).cell? ⟨w.heap.size + 1, 0, none⟩ = some (.int .i64 b1) := by simp
  have c3 : ((w.alloc (.cells #[.int .i64 a1, .int .i64 a2] 58)).alloc (.cells #[.int .i64 b1, .int .i64 b2] 58)).cell? ⟨w.heap.size + 1, 1, none⟩ = some (.int .i64 b2) := by simp
  have hb := Lib.hid (show Below w.heap.size w ((w.alloc (.cells #[.int .i64 a1, .int .i64 a2] 58)).alloc (.cells #[.int .i64 b1, .int .i64 b2] 58)) from ((Below.refl _ _).alloc (Nat.le_refl _) _).alloc (by simp) _)
  generalize ((w.alloc (.cells #[.int .i64 a1, .int .i64 a2] 58)).alloc (.cells #[.int .i64 b1, .int .i64 b2] 58)) = w1 at *
  go_region_held3 (fun w' => w'.cell? ⟨w.heap.size, 0, none⟩ = some (.int .i64 a1) ∧ w'.cell? ⟨w.heap.size, 1, none⟩ = some (.int .i64 a2) ∧ w'.cell? ⟨w.heap.size + 1, 0, none⟩ = some (.int .i64 b1) ∧ w'.cell? ⟨w.heap.size + 1, 1, none⟩ = some (.int .i64 b2)) (go_keep) (first
    | (go_at_call 61; refine (compare_any _ _ _).mono ?_; rintro e w' ⟨rfl, rfl⟩)
    | (go_at_call 60; refine (or_any w1.heap.size _ _ z HZ.out (w1.alloc (.cells #[.int .i64 (cmpI a1 b1), .int .i64 (cmpI a2 b2)] 3)).drew (two_new0 _ _ _ _) (two_new1 _ _ _ _)).mono ?_; rintro e w' ⟨rfl, rfl⟩))
  go_wp2
  go_ret
  exact ⟨rfl, (hb.out.alloc hb.out.size _).drew⟩

theorem right_any (a1 a2 : Int) (z : Bool) (h : rightD (a1, a2) = z) (w : World) :
    Calls Tryd.prog 50 #[.agg #[.int .i64 a1, .int .i64 a2]] w fun e w' => e = .returned (.bool z) ∧ Below w.heap.size w w' := by
  have hb := Lib.hid (show Below w.heap.size w (w.alloc (.cells #[.int .i64 a1, .int .i64 a2] 58)) from (Below.refl _ _).alloc (Nat.le_refl _) _)
  by_cases q0 : 1 ≤ a1
  · skip
    by_cases q1 : a1 ≤ 7
    · skip
      by_cases q2 : 1 ≤ a2
      · skip
        by_cases q3 : a2 ≤ 16777215
        · skip
          obtain rfl : z = true := by rw [← h]; simp [rightD]; omega
          clear h
          go_enter Tryd.func50, Tryd.ntmps50
          go_wp2
          go_ret
          exact ⟨rfl, hb.out⟩
        · obtain rfl : z = false := by rw [← h]; simp [rightD]; omega
          clear h
          go_enter Tryd.func50, Tryd.ntmps50
          go_wp2
          go_ret
          exact ⟨rfl, hb.out⟩
      · obtain rfl : z = false := by rw [← h]; simp [rightD]; omega
        clear h
        go_enter Tryd.func50, Tryd.ntmps50
        go_wp2
        go_ret
        exact ⟨rfl, hb.out⟩
    · obtain rfl : z = false := by rw [← h]; simp [rightD]; omega
      clear h
      go_enter Tryd.func50, Tryd.ntmps50
      go_wp2
      go_ret
      exact ⟨rfl, hb.out⟩
  · obtain rfl : z = false := by rw [← h]; simp [rightD]; omega
    clear h
    go_enter Tryd.func50, Tryd.ntmps50
    go_wp2
    go_ret
    exact ⟨rfl, hb.out⟩

theorem refright_any (a1 a2 : Int) (z : Bool) (h : rightD (a1, a2) = z) (w : World) :
    Calls Tryd.prog 51 #[.agg #[.int .i64 a1, .int .i64 a2]] w fun e w' => e = .returned (.bool z) ∧ Below w.heap.size w w' := by
  have hb := Lib.hid (show Below w.heap.size w (w.alloc (.cells #[.int .i64 a1, .int .i64 a2] 72)) from (Below.refl _ _).alloc (Nat.le_refl _) _)
  by_cases q0 : 1 ≤ a1
  · skip
    by_cases q1 : a1 ≤ 7
    · skip
      by_cases q2 : 1 ≤ a2
      · skip
        by_cases q3 : a2 < 16777216
        · skip
          obtain rfl : z = true := by rw [← h]; simp [rightD]; omega
          clear h
          go_enter Tryd.func51, Tryd.ntmps51
          go_wp2
          go_ret
          exact ⟨rfl, hb.out⟩
        · obtain rfl : z = false := by rw [← h]; simp [rightD]; omega
          clear h
          go_enter Tryd.func51, Tryd.ntmps51
          go_wp2
          go_ret
          exact ⟨rfl, hb.out⟩
      · obtain rfl : z = false := by rw [← h]; simp [rightD]; omega
        clear h
        go_enter Tryd.func51, Tryd.ntmps51
        go_wp2
        go_ret
        exact ⟨rfl, hb.out⟩
    · obtain rfl : z = false := by rw [← h]; simp [rightD]; omega
      clear h
      go_enter Tryd.func51, Tryd.ntmps51
      go_wp2
      go_ret
      exact ⟨rfl, hb.out⟩
  · obtain rfl : z = false := by rw [← h]; simp [rightD]; omega
    clear h
    go_enter Tryd.func51, Tryd.ntmps51
    go_wp2
    go_ret
    exact ⟨rfl, hb.out⟩

/-- two pairs held against one another -/
theorem run_eql (t : TypeId) (ht : t = 58 ∨ t = 72) (a v b u : Int) (w : World) : (binOp .eql t (.agg #[.int .i64 a, .int .i64 v]) (.agg #[.int .i64 b, .int .i64 u])).run Tryd.prog w = Result.ok (Value.bool (a == b && v == u)) w := by
  rcases ht with rfl | rfl <;> by_cases h1 : a = b <;> by_cases h2 : v = u <;> go_simp <;> simp [h1, h2]
theorem run_neq (t : TypeId) (ht : t = 58 ∨ t = 72) (a v b u : Int) (w : World) : (binOp .neq t (.agg #[.int .i64 a, .int .i64 v]) (.agg #[.int .i64 b, .int .i64 u])).run Tryd.prog w = Result.ok (Value.bool (!(a == b && v == u))) w := by
  rcases ht with rfl | rfl <;> by_cases h1 : a = b <;> by_cases h2 : v = u <;> go_simp <;> simp [h1, h2]

theorem order_m1 {a b : ID} (h : Lt a b) : orderD a b = -1 := if_pos h
theorem order_1 {a b : ID} (h : Lt b a) : orderD a b = 1 := by
  unfold orderD
  rw [if_neg h.asymm, if_neg (fun e => by rw [e] at h; exact Lt.irrefl _ h)]
set_option maxHeartbeats 1000000 in
theorem reforder_any (a1 a2 b1 b2 z : Int) (h : orderD (a1, a2) (b1, b2) = z) (w : World) :
    Calls Tryd.prog 52 #[.agg #[.int .i64 a1, .int .i64 a2], .agg #[.int .i64 b1, .int .i64 b2]] w fun e w' => e = .returned (.int .i64 z) ∧ Below w.heap.size w w' := by
  have hb := Lib.hid (show Below w.heap.size w ((w.alloc (.cells #[.int .i64 a1, .int .i64 a2] 72)).alloc (.cells #[.int .i64 b1, .int .i64 b2] 72)) from ((Below.refl _ _).alloc (Nat.le_refl _) _).alloc (by simp) _)
  have hq := fun W => run_eql 72 (.inr rfl) a1 a2 b1 b2 W
  by_cases q1 : a1 < b1
  · obtain rfl : z = -1 := by rw [← h]; exact order_m1 (.inl q1)
    clear h
    go_enter Tryd.func52, Tryd.ntmps52
    go_wp2
    go_ret
    exact ⟨rfl, hb.out⟩
  · by_cases q2 : a1 = b1
    · subst q2
      by_cases q3 : a2 < b2
      · obtain rfl : z = -1 := by rw [← h]; exact order_m1 (.inr ⟨rfl, q3⟩)
        clear h
        go_enter Tryd.func52, Tryd.ntmps52
        go_wp2
        go_ret
        exact ⟨rfl, hb.out⟩
      · by_cases q4 : a2 = b2
        · subst q4
          obtain rfl : z = 0 := by rw [← h]; exact order_zero.2 rfl
          clear h
          go_enter Tryd.func52, Tryd.ntmps52
          go_wp2
          go_ret
          exact ⟨rfl, hb.out⟩
        · have q5 : (a2 == b2) = false := by simpa using q4
          obtain rfl : z = 1 := by rw [← h]; exact order_1 (.inr ⟨rfl, by simp only; omega⟩)
          clear h
          go_enter Tryd.func52, Tryd.ntmps52
          go_wp2
          go_ret
          exact ⟨rfl, hb.out⟩
    · have q5 : (a1 == b1) = false := by simpa using q2
      obtain rfl : z = 1 := by rw [← h]; exact order_1 (.inl (by simp only; omega))
      clear h
      go_enter Tryd.func52, Tryd.ntmps52
      go_wp2
      go_ret
      exact ⟨rfl, hb.out⟩
end Go.Proofs.YtkemljpjfbmjgaaDoor.Dp
