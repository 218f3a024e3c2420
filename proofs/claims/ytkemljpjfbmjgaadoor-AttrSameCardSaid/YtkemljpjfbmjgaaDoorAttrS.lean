/-
  Contracts: are two the same? the program's and the document's. Conditions: as each theorem says.
-/
import Derived.Test.YtkemljpjfbmjgaaDoorAttrW
import Derived.ScopeJumps
namespace Go.Proofs.YtkemljpjfbmjgaaDoor.At
open Go.RowKit
open Dp (ID IsSet Ids Idz SameTo)
open Bl (Pair below_then below_set2)
set_option maxRecDepth 100000

/-- wp_scope_jumps, where what stands behind the label is walked once -/
theorem scope_once {P : Program} {c rest : Code} {Q : Exit → Act → World → Prop} {a : Act} {w : World} (l : Nat) (J : Act → World → Prop) (μ : Act → World → Nat) (hf : findLabel c l = some (Code.skip.seq rest))
    (pass : ∀ a w, J a w → rest.wp P (Exit.jump l (fun a' w' => J a' w' ∧ μ a' w' < μ a w) Q) a w)
    (first : (∀ a w, J a w → rest.wp P (Exit.jump l J Q) a w) → c.wp P (Exit.jump l J Q) a w) : (Code.scope c).wp P Q a w :=
  wp_scope_jumps l J μ hf (first fun a w h => Code.wp_mono (fun e a w h => by
    cases e <;> simp only [Exit.jump] at h ⊢ <;> first | exact h | exact ⟨h.1, h.2.1⟩) (pass a w h)) fun a w h => wp_seq (wp_skip (pass a w h))

/-- what is left to be compared -/
structure MidS (w : World) (z : Bool) (ao bo : Option Addr) (ca cb : Nat) (xs ys : List ID) (W : World) : Prop where
  ra : Idz W ao ca xs
  rb : Idz W bo cb ys
  len : xs.length = ys.length
  ans : decide (xs = ys) = z
  bel : Below w.heap.size w W

set_option maxHeartbeats 1000000 in
theorem same_any (n m : Nat) (xs ys : List ID) (z : Bool) (h : decide (((n, xs) : AT) = (m, ys)) = z) (ao bo : Option Addr) (ca cb : Nat) (w : World) (ra : Idz w ao ca xs) (rb : Idz w bo cb ys) :
    Calls Tryd.prog 19 #[.agg #[.int .u32 n, .slice ao xs.length ca], .agg #[.int .u32 m, .slice bo ys.length cb]] w fun e w' => e = .returned (.bool z) ∧ Below w.heap.size w w' := by
  have lx : xs.length ≤ 9223372036854775807 := Nat.le_trans ra.le ra.capl
  have ly : ys.length ≤ 9223372036854775807 := Nat.le_trans rb.le rb.capl
  have HA := Lib.hid (fun W (h : Below w.heap.size w W) => ra.kept h)
  have HB := Lib.hid (fun W (h : Below w.heap.size w W) => rb.kept h)
  have HP := Lib.hid ((((Held.nil w).new (.int .u32 n) (.slice ao xs.length ca) 25 w.heap.size rfl).new (.int .u32 m) (.slice bo ys.length cb) 25 (w.heap.size + 1) (by simp)))
  have HE := Lib.hid h
  clear ra rb h
  by_cases hn : n = m
  · by_cases hl : xs.length = ys.length
    · subst hn
      have q0 : ((xs.length : Int) == (ys.length : Int)) = true := by rw [beq_iff_eq]; omega
      have q1 : ((xs.length : Int) != (ys.length : Int)) = false := by rw [bne, q0]; rfl
      have HL := Lib.hid hl
      clear hl
      go_enter Tryd.func19, Tryd.ntmps19
      go_wp2
      refine scope_once 0 (fun a' W => ∃ (ao1 bo1 : Option Addr) (ca1 cb1 : Nat) (xs1 ys1 : List ID), MidS w z ao1 bo1 ca1 cb1 xs1 ys1 W ∧ ∃ (u0 u1 u2 u3 u4 u7 u8 u9 u10 u11 u12 u13 u14 u15 u16 u17 u18 u19 u20 u21 u22 u23 u24 u25 u26 u27 u28 u29 u30 u31 u32 u33 u34 u35 u36 : Value), a' = { tmps := #[u0, u1, u2, u3, u4, .slice ao1 xs1.length ca1, .slice bo1 ys1.length cb1, u7, u8, u9, u10, u11, u12, u13, u14, u15, u16, u17, u18, u19, u20, u21, u22, u23, u24, u25, u26, u27, u28, u29, u30, u31, u32, u33, u34, u35, u36], defers := [] }) (fun a' _ => Dp.lenV (a'.tmps.getD 5 undef)) rfl ?_ ?_
      · rintro a' W ⟨ao1, bo1, ca1, cb1, xs1, ys1, hM, u0, u1, u2, u3, u4, u7, u8, u9, u10, u11, u12, u13, u14, u15, u16, u17, u18, u19, u20, u21, u22, u23, u24, u25, u26, u27, u28, u29, u30, u31, u32, u33, u34, u35, u36, rfl⟩
        have HM := Lib.hid hM
        clear hM HP
        by_cases hx0 : xs1.length = 0
        · have e1 : ((xs1.length : Int) == 0) = true := by rw [beq_iff_eq]; omega
          obtain rfl : z = true := by
            have h1 := HM.out.ans
            have h2 := HM.out.len
            have h3 := List.eq_nil_of_length_eq_zero hx0
            have h4 : ys1 = [] := List.eq_nil_of_length_eq_zero (by omega)
            rw [h3, h4] at h1
            rw [← h1]; rfl
          clear hx0
          go_wp2
          simp only [Exit.jump]
          go_ret
          exact ⟨rfl, HM.out.bel⟩
        · obtain ⟨⟨x1, x2⟩, xs2, rfl⟩ := List.exists_cons_of_length_pos (Nat.pos_of_ne_zero hx0)
          have hy0 : ys1.length ≠ 0 := by have := HM.out.len; simp at this; omega
          obtain ⟨⟨y1, y2⟩, ys2, rfl⟩ := List.exists_cons_of_length_pos (Nat.pos_of_ne_zero hy0)
          have hlen : xs2.length = ys2.length := by have := HM.out.len; simpa using this
          have HN := Lib.hid hlen
          simp only [List.length_cons] at *
          obtain ⟨x, rfl, hxb, cx0, cx1⟩ := HM.out.ra.head
          obtain ⟨y, rfl, hyb, cy0, cy1⟩ := HM.out.rb.head
          have hlx : xs2.length + 1 ≤ ca1 := by have := HM.out.ra.le; simpa using this
          have hly : ys2.length + 1 ≤ cb1 := by have := HM.out.rb.le; simpa using this
          have lca : ca1 ≤ 9223372036854775807 := HM.out.ra.capl
          have lcb : cb1 ≤ 9223372036854775807 := HM.out.rb.capl
          have e3 : (((xs2.length : Int) + 1) == 0) = false := by rw [beq_eq_false_iff_ne]; omega
          have e4 : (((ys2.length : Int) + 1) == 0) = false := by rw [beq_eq_false_iff_ne]; omega
          obtain ⟨k, hk⟩ : ∃ k : Bool, (x1 == y1 && x2 == y2) = k := ⟨_, rfl⟩
          have RN := fun W => (Dp.run_neq 58 (.inl rfl) x1 x2 y1 y2 W).trans (by rw [hk])
          have HK := Lib.hid hk
          clear hx0 hy0 hlen hk
          cases k with
          | false =>
            obtain rfl : z = false := by
              rw [← HM.out.ans, decide_eq_false_iff_not]
              intro h
              have h1 := (List.cons.inj h).1
              have h2 := HK.out
              rw [(Prod.mk.inj h1).1, (Prod.mk.inj h1).2] at h2
              simp at h2
            go_wp2_with fail
            go_region
            go_wp2
            simp only [Exit.jump]
            go_ret
            exact ⟨rfl, HM.out.bel.drew⟩
          | true =>
            obtain ⟨ao', hsl, ra'⟩ := HM.out.ra.tail
            obtain ⟨bo', hsr, rb'⟩ := HM.out.rb.tail
            have M2 : Hid (∀ W', Below W.heap.size W W' → MidS w z ao' bo' (ca1 - 1) (cb1 - 1) xs2 ys2 W') := Lib.hid (fun W' hW => ⟨ra' _ hW, rb' _ hW, HN.out, (by
              rw [← HM.out.ans]
              have h2 := HK.out
              simp only [Bool.and_eq_true, beq_iff_eq] at h2
              rw [h2.1, h2.2]
              simp), HM.out.bel.trans (hW.mono HM.out.bel.size)⟩)
            clear ra' rb'
            go_wp2_with fail
            go_region
            go_wp2_with fail
            go_region
            go_wp2_with fail
            go_step3
            exact ⟨rfl, ⟨ao', bo', ca1 - 1, cb1 - 1, xs2, ys2, M2.out _ (Below.refl _ _).drew.drew, _, _, _, _, _, _, _, _, _, _, _, _, _, _, _, _, _, _, _, _, _, _, _, _, _, _, _, _, _, _, _, _, _, _, _, rfl⟩, (show xs2.length < xs2.length + 1 from by omega)⟩
      · intro again
        have ⟨A0, A1, A2, A3, A4⟩ := HP.out.at 1 rfl
        have ⟨B0, B1, B2, B3, B4⟩ := HP.out.at 0 rfl
        go_wp2_with fail
        go_region
        go_wp2_with fail
        go_step3
        rename_i hK
        refine hK _ _ (again _ _ ⟨ao, bo, ca, cb, xs, ys, ⟨(HA.out _ HP.out.1).kept (Below.refl _ _).drew, (HB.out _ HP.out.1).kept (Below.refl _ _).drew, HL.out, by rw [← HE.out]; simp, HP.out.1.drew⟩, _, _, _, _, _, _, _, _, _, _, _, _, _, _, _, _, _, _, _, _, _, _, _, _, _, _, _, _, _, _, _, _, _, _, _, rfl⟩)
    · subst hn
      have q0 : ((xs.length : Int) == (ys.length : Int)) = false := by rw [beq_eq_false_iff_ne]; omega
      have q1 : ((xs.length : Int) != (ys.length : Int)) = true := by rw [bne, q0]; rfl
      obtain rfl : z = false := by
        rw [← HE.out, decide_eq_false_iff_not]
        intro h
        exact hl (congrArg List.length (Prod.mk.inj h).2)
      clear hl
      have ⟨A0, A1, A2, A3, A4⟩ := HP.out.at 1 rfl
      have ⟨B0, B1, B2, B3, B4⟩ := HP.out.at 0 rfl
      go_enter Tryd.func19, Tryd.ntmps19
      go_wp2
      refine wp_scope_jumps 0 (fun _ _ => False) (fun _ _ => 0) rfl ?_ (fun _ _ hf => hf.elim)
      go_wp2_with fail
      go_region
      go_wp2
      simp only [Exit.jump]
      go_ret
      exact ⟨rfl, HP.out.1.drew⟩
  · have q0 : ((n : Int) == (m : Int)) = false := by rw [beq_eq_false_iff_ne]; omega
    have q1 : ((n : Int) != (m : Int)) = true := by rw [bne, q0]; rfl
    obtain rfl : z = false := by
      rw [← HE.out, decide_eq_false_iff_not]
      intro h
      exact hn (Prod.mk.inj h).1
    clear hn
    have ⟨A0, A1, A2, A3, A4⟩ := HP.out.at 1 rfl
    have ⟨B0, B1, B2, B3, B4⟩ := HP.out.at 0 rfl
    go_enter Tryd.func19, Tryd.ntmps19
    go_wp2
    refine wp_scope_jumps 0 (fun _ _ => False) (fun _ _ => 0) rfl ?_ (fun _ _ hf => hf.elim)
    go_wp2_with fail
    go_region
    go_wp2
    simp only [Exit.jump]
    go_ret
    exact ⟨rfl, HP.out.1.drew⟩

set_option maxHeartbeats 1000000 in
theorem refsame_any (n m : Nat) (xs ys : List ID) (z : Bool) (h : decide (((n, xs) : AT) = (m, ys)) = z) (ao bo : Option Addr) (ca cb : Nat) (w : World) (ra : Ids w ao ca xs) (rb : Ids w bo cb ys) :
    Calls Tryd.prog 16 #[.agg #[.int .u32 n, .slice ao xs.length ca], .agg #[.int .u32 m, .slice bo ys.length cb]] w fun e w' => e = .returned (.bool z) ∧ Below w.heap.size w w' := by
  have lx : xs.length ≤ 9223372036854775807 := Nat.le_trans ra.le ra.capl
  have ly : ys.length ≤ 9223372036854775807 := Nat.le_trans rb.le rb.capl
  have HA := Lib.hid (fun W (h : Below w.heap.size w W) => ra.kept h)
  have HB := Lib.hid (fun W (h : Below w.heap.size w W) => rb.kept h)
  have HP := Lib.hid ((((Held.nil w).new (.int .u32 n) (.slice ao xs.length ca) 36 w.heap.size rfl).new (.int .u32 m) (.slice bo ys.length cb) 36 (w.heap.size + 1) (by simp)))
  have HE := Lib.hid h
  clear ra rb h
  by_cases hn : n = m
  · subst hn
    by_cases hl : xs.length = ys.length
    · have q0 : ((xs.length : Int) == (ys.length : Int)) = true := by rw [beq_iff_eq]; omega
      have q1 : ((xs.length : Int) != (ys.length : Int)) = false := by rw [bne, q0]; rfl
      have ⟨A0, A1, A2, A3, A4⟩ := HP.out.at 1 rfl
      have ⟨B0, B1, B2, B3, B4⟩ := HP.out.at 0 rfl
      have HL := Lib.hid hl
      clear hl
      go_enter Tryd.func16, Tryd.ntmps16
      go_wp2_with fail
      clear A0 A1 A2 A3 A4 B0 B1 B2 B3 B4
      go_loopw [5] (fun i W => ∃ k : Nat, k ≤ xs.length ∧ i = .int .i64 k ∧ Hid (SameTo xs ys k) ∧ Hid (Held w w.heap.size [(w.heap.size + 1, .int .u32 n, .slice bo ys.length cb), (w.heap.size, .int .u32 n, .slice ao xs.length ca)] W)) (fun i _ => xs.length - (intOf i).toNat)
      case atStart => exact ⟨0, by omega, rfl, Lib.hid (fun j hj => by omega), HP⟩
      case round =>
        clear HP
        obtain ⟨k, hk, rfl, hx, hW⟩ := hrel
        have ⟨A0, A1, A2, A3, A4⟩ := hW.out.at 1 rfl
        have ⟨B0, B1, B2, B3, B4⟩ := hW.out.at 0 rfl
        by_cases hlt : k < xs.length
        · have hlt2 : k < ys.length := by have := HL.out; omega
          obtain ⟨x, p1, p2, ex, rfl, _, c0, c1⟩ := (HA.out _ hW.out.1).at hlt
          obtain ⟨y, r1, r2, ey, rfl, _, d0, d1⟩ := (HB.out _ hW.out.1).at hlt2
          obtain ⟨t, ht⟩ : ∃ t : Bool, (p1 == r1 && p2 == r2) = t := ⟨_, rfl⟩
          have RN := fun W => (Dp.run_neq 72 (.inr rfl) p1 p2 r1 r2 W).trans (by rw [ht])
          cases t with
          | true =>
            have hx2 : Hid (SameTo xs ys (k + 1)) := Lib.hid (hx.out.step (by
              simp only [Bool.and_eq_true, beq_iff_eq] at ht
              rw [ex, ey, ht.1, ht.2]))
            clear hx ex ey ht
            go_wp2_with fail
            go_region
            go_wp2
            refine ⟨⟨k + 1, by omega, by go_num, hx2, Lib.hid hW.out.drew⟩, by simp [intOf]; omega⟩
          | false =>
            obtain rfl : z = false := by
              rw [← HE.out, decide_eq_false_iff_not]
              intro h
              rw [(Prod.mk.inj h).2, ey] at ex
              rw [(Prod.mk.inj ex).1, (Prod.mk.inj ex).2] at ht
              simp at ht
            clear hx ex ey ht
            go_wp2_with fail
            go_region
            go_wp2
            go_ret
            exact ⟨rfl, hW.out.1.drew⟩
        · obtain rfl : k = xs.length := by omega
          obtain rfl : z = true := by rw [← HE.out, decide_eq_true_eq, (Dp.same_at HL.out).2 hx.out]
          clear hx
          go_wp2
          go_ret
          exact ⟨rfl, hW.out.1⟩
    · have q0 : ((xs.length : Int) == (ys.length : Int)) = false := by rw [beq_eq_false_iff_ne]; omega
      have q1 : ((xs.length : Int) != (ys.length : Int)) = true := by rw [bne, q0]; rfl
      obtain rfl : z = false := by
        rw [← HE.out, decide_eq_false_iff_not]
        intro h
        exact hl (congrArg List.length (Prod.mk.inj h).2)
      clear hl
      have ⟨A0, A1, A2, A3, A4⟩ := HP.out.at 1 rfl
      have ⟨B0, B1, B2, B3, B4⟩ := HP.out.at 0 rfl
      go_enter Tryd.func16, Tryd.ntmps16
      go_wp2
      go_ret
      exact ⟨rfl, HP.out.1⟩
  · have q0 : ((n : Int) == (m : Int)) = false := by rw [beq_eq_false_iff_ne]; omega
    have q1 : ((n : Int) != (m : Int)) = true := by rw [bne, q0]; rfl
    obtain rfl : z = false := by
      rw [← HE.out, decide_eq_false_iff_not]
      intro h
      exact hn (Prod.mk.inj h).1
    clear hn
    have ⟨A0, A1, A2, A3, A4⟩ := HP.out.at 1 rfl
    have ⟨B0, B1, B2, B3, B4⟩ := HP.out.at 0 rfl
    go_enter Tryd.func16, Tryd.ntmps16
    go_wp2
    go_ret
    exact ⟨rfl, HP.out.1⟩
end Go.Proofs.YtkemljpjfbmjgaaDoor.At
