/-
  Contracts: are two lists the same, and is a list the document's. Conditions: as each theorem says.
-/
import Derived.Test.YthcdbeggegmlmaaDoorDepsW
import Derived.BigQuiet
namespace Go.Proofs.YthcdbeggegmlmaaDoor.Dp
open Go.RowKit
set_option maxRecDepth 100000

theorem add_next (x : Addr) (k : Nat) : (⟨(x.add k).block, (x.add k).off + 1, none⟩ : Addr) = x.add (k + 1) := by
  unfold Addr.add
  by_cases h : k = 0
  · subst h; simp
  · simp [h, Nat.add_assoc]
theorem Ids.at {w : World} {ao : Option Addr} {cap : Nat} {xs : List ID} (h : Ids w ao cap xs) {j : Nat} (hj : j < xs.length) :
    ∃ (x : Addr) (p q : Int), xs.getD j (0, 0) = (p, q) ∧ ao = some x ∧ x.block < w.heap.size ∧ w.cell? (x.add (j * 2)) = some (.int .i64 p) ∧ w.cell? ⟨(x.add (j * 2)).block, (x.add (j * 2)).off + 1, none⟩ = some (.int .i64 q) := by
  obtain ⟨x, e, hx, h0, h1⟩ := h.lies j hj
  refine ⟨x, xs[j].1, xs[j].2, ?_, e, hx, h0, by rw [add_next]; exact h1⟩
  rw [List.getD_eq_getElem?_getD, List.getElem?_eq_getElem hj]; rfl
theorem below_drewN {B : Nat} {w W : World} (h : Below B w W) (n : Nat) : Below B w (W.drewN n) := h.trans (by induction n with | zero => exact Below.refl _ _ | succ n ih => exact ih.drew)
theorem same_at {xs ys : List ID} (hl : xs.length = ys.length) : xs = ys ↔ ∀ j, j < xs.length → xs.getD j (0, 0) = ys.getD j (0, 0) := by
  constructor
  · rintro rfl _ _; rfl
  · intro h
    refine List.ext_getElem hl fun j h1 h2 => ?_
    have := h j h1
    rwa [List.getD_eq_getElem?_getD, List.getElem?_eq_getElem h1, List.getD_eq_getElem?_getD, List.getElem?_eq_getElem h2] at this
/-- the first k of two lists are the same -/
def SameTo (xs ys : List ID) (k : Nat) : Prop := ∀ j, j < k → xs.getD j (0, 0) = ys.getD j (0, 0)
theorem SameTo.step {xs ys : List ID} {k : Nat} (h : SameTo xs ys k) (e : xs.getD k (0, 0) = ys.getD k (0, 0)) : SameTo xs ys (k + 1) := fun j hj => by
  rcases Nat.lt_or_ge j k with hk | hk
  · exact h j hk
  · rwa [show j = k by omega]
set_option maxRecDepth 100000 in
theorem equal_any (xs ys : List ID) (z : Bool) (h : decide (xs = ys) = z) (ao bo : Option Addr) (ca cb : Nat) (w : World) (ha : Ids w ao ca xs) (hb : Ids w bo cb ys) :
    Calls Tryd.prog 33 #[.slice ao xs.length ca, .slice bo ys.length cb] w fun e w' => e = .returned (.bool z) ∧ Below w.heap.size w w' := by
  have lx : xs.length ≤ 9223372036854775807 := Nat.le_trans ha.le ha.capl
  have ly : ys.length ≤ 9223372036854775807 := Nat.le_trans hb.le hb.capl
  have HA := Lib.hid ha
  have HB := Lib.hid hb
  have HE := Lib.hid h
  clear ha hb h
  by_cases hl : xs.length = ys.length
  · have q0 : ((xs.length : Int) == (ys.length : Int)) = true := by rw [beq_iff_eq]; omega
    have HL := Lib.hid hl
    clear hl
    go_enter Tryd.func33, Tryd.ntmps33
    go_wp2_with fail
    go_loopw [5] (fun i W => ∃ k : Nat, k ≤ xs.length ∧ i = .int .i64 k ∧ Hid (SameTo xs ys k) ∧ Hid (Below w.heap.size w W)) (fun i _ => xs.length - (intOf i).toNat)
    case atStart => exact ⟨0, by omega, rfl, Lib.hid (fun j hj => by omega), Lib.hid (Below.refl _ _)⟩
    case round =>
      obtain ⟨k, hk, rfl, hx, hW⟩ := hrel
      by_cases hlt : k < xs.length
      · have hlt2 : k < ys.length := by have := HL.out; omega
        obtain ⟨x, p1, p2, ex, rfl, _, c0, c1⟩ := (HA.out.kept hW.out).at hlt
        obtain ⟨y, r1, r2, ey, rfl, _, d0, d1⟩ := (HB.out.kept hW.out).at hlt2
        by_cases e1 : p1 = r1
        · subst e1
          by_cases e2 : p2 = r2
          · subst e2
            have hx2 := Lib.hid (hx.out.step (ex.trans ey.symm))
            clear hx ex ey
            go_wp2_with fail
            go_region
            go_wp2
            refine ⟨⟨k + 1, by omega, by go_num, hx2, Lib.hid hW.out.drew⟩, by simp [intOf]; omega⟩
          · have q1 : (p2 == r2) = false := by simpa using e2
            obtain rfl : z = false := by
              rw [← HE.out, decide_eq_false_iff_not]
              rintro rfl
              rw [ex] at ey
              exact e2 (congrArg Prod.snd ey)
            clear hx ex ey e2
            go_wp2_with fail
            go_region
            go_wp2
            go_ret
            exact ⟨rfl, hW.out.drew⟩
        · have q1 : (p1 == r1) = false := by simpa using e1
          obtain rfl : z = false := by
            rw [← HE.out, decide_eq_false_iff_not]
            rintro rfl
            rw [ex] at ey
            exact e1 (congrArg Prod.fst ey)
          clear hx ex ey e1
          go_wp2_with fail
          go_region
          go_wp2
          go_ret
          exact ⟨rfl, hW.out.drew⟩
      · obtain rfl : k = xs.length := by omega
        obtain rfl : z = true := by rw [← HE.out, decide_eq_true_eq]; exact (same_at HL.out).2 hx.out
        clear hx
        go_wp2
        go_ret
        exact ⟨rfl, hW.out⟩
  · have q0 : ((xs.length : Int) == (ys.length : Int)) = false := by rw [beq_eq_false_iff_ne]; omega
    obtain rfl : z = false := by rw [← HE.out, decide_eq_false_iff_not]; rintro rfl; exact hl rfl
    clear hl
    go_enter Tryd.func33, Tryd.ntmps33
    go_wp2
    go_ret
    exact ⟨rfl, Below.refl _ _⟩

set_option maxRecDepth 100000 in
theorem alike_any (xs ys : List ID) (z : Bool) (h : decide (xs = ys) = z) (ao bo : Option Addr) (ca cb : Nat) (w : World) (ha : Ids w ao ca xs) (hb : Ids w bo cb ys) :
    Calls Tryd.prog 13 #[.slice ao xs.length ca, .slice bo ys.length cb] w fun e w' => e = .returned (.bool z) ∧ Below w.heap.size w w' := by
  have lx : xs.length ≤ 9223372036854775807 := Nat.le_trans ha.le ha.capl
  have ly : ys.length ≤ 9223372036854775807 := Nat.le_trans hb.le hb.capl
  have HA := Lib.hid ha
  have HB := Lib.hid hb
  have HE := Lib.hid h
  clear ha hb h
  by_cases hl : xs.length = ys.length
  · have q0 : ((xs.length : Int) == (ys.length : Int)) = true := by rw [beq_iff_eq]; omega
    have HL := Lib.hid hl
    clear hl
    go_enter Tryd.func13, Tryd.ntmps13
    go_wp2_with fail
    go_loopw [5] (fun i W => ∃ k : Nat, k ≤ xs.length ∧ i = .int .i64 k ∧ Hid (SameTo xs ys k) ∧ Hid (Below w.heap.size w W)) (fun i _ => xs.length - (intOf i).toNat)
    case atStart => exact ⟨0, by omega, rfl, Lib.hid (fun j hj => by omega), Lib.hid (Below.refl _ _)⟩
    case round =>
      obtain ⟨k, hk, rfl, hx, hW⟩ := hrel
      by_cases hlt : k < xs.length
      · have hlt2 : k < ys.length := by have := HL.out; omega
        obtain ⟨x, p1, p2, ex, rfl, _, c0, c1⟩ := (HA.out.kept hW.out).at hlt
        obtain ⟨y, r1, r2, ey, rfl, _, d0, d1⟩ := (HB.out.kept hW.out).at hlt2
        by_cases e1 : p1 = r1
        · subst e1
          by_cases e2 : p2 = r2
          · subst e2
            have hx2 := Lib.hid (hx.out.step (ex.trans ey.symm))
            clear hx ex ey
            go_wp2_with fail
            go_quiet (fail)
            go_wp2
            refine ⟨⟨k + 1, by omega, by go_num, hx2, Lib.hid (below_drewN hW.out _)⟩, by simp [intOf]; omega⟩
          · have q1 : (p2 == r2) = false := by simpa using e2
            obtain rfl : z = false := by
              rw [← HE.out, decide_eq_false_iff_not]
              rintro rfl
              rw [ex] at ey
              exact e2 (congrArg Prod.snd ey)
            clear hx ex ey e2
            go_wp2_with fail
            go_quiet (fail)
            go_wp2
            go_ret
            exact ⟨rfl, (below_drewN hW.out _)⟩
        · have q1 : (p1 == r1) = false := by simpa using e1
          obtain rfl : z = false := by
            rw [← HE.out, decide_eq_false_iff_not]
            rintro rfl
            rw [ex] at ey
            exact e1 (congrArg Prod.fst ey)
          clear hx ex ey
          have q2 : (p1 != r1) = true := by simpa using e1
          go_wp2_with fail
          go_quiet (fail)
          go_wp2
          go_ret
          exact ⟨rfl, (below_drewN hW.out _)⟩
      · obtain rfl : k = xs.length := by omega
        obtain rfl : z = true := by rw [← HE.out, decide_eq_true_eq]; exact (same_at HL.out).2 hx.out
        clear hx
        go_wp2
        go_ret
        exact ⟨rfl, hW.out⟩
  · have q0 : ((xs.length : Int) == (ys.length : Int)) = false := by rw [beq_eq_false_iff_ne]; omega
    obtain rfl : z = false := by rw [← HE.out, decide_eq_false_iff_not]; rintro rfl; exact hl rfl
    clear hl
    go_enter Tryd.func13, Tryd.ntmps13
    go_wp2
    go_ret
    exact ⟨rfl, Below.refl _ _⟩

end Go.Proofs.YthcdbeggegmlmaaDoor.Dp
