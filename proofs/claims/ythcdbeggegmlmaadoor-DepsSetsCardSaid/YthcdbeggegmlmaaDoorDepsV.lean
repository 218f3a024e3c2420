/-
  Contracts: the document's Has and Less. Conditions: as each theorem says.
-/
import Derived.Test.YthcdbeggegmlmaaDoorDepsU
namespace Go.Proofs.YthcdbeggegmlmaaDoor.Dp
open Go.RowKit
set_option maxRecDepth 100000

def NotTo (xs : List ID) (t : ID) (k : Nat) : Prop := ∀ j, j < k → xs.getD j (0, 0) ≠ t
theorem NotTo.step {xs : List ID} {t : ID} {k : Nat} (h : NotTo xs t k) (e : xs.getD k (0, 0) ≠ t) : NotTo xs t (k + 1) := fun j hj => by
  rcases Nat.lt_or_ge j k with hk | hk
  · exact h j hk
  · rwa [show j = k by omega]
theorem has_yes {xs : List ID} {t : ID} {k : Nat} (hk : k < xs.length) (e : xs.getD k (0, 0) = t) : hasD xs t = true := by
  unfold hasD
  rw [decide_eq_true_eq, ← e, List.getD_eq_getElem?_getD, List.getElem?_eq_getElem hk]
  exact List.getElem_mem hk
theorem has_no {xs : List ID} {t : ID} (h : NotTo xs t xs.length) : hasD xs t = false := by
  unfold hasD
  rw [decide_eq_false_iff_not]
  intro hm
  obtain ⟨j, hj, e⟩ := List.getElem_of_mem hm
  refine h j hj ?_
  rw [List.getD_eq_getElem?_getD, List.getElem?_eq_getElem hj]
  exact e

set_option maxRecDepth 100000 in
set_option maxHeartbeats 1000000 in
theorem refhas_any (xs : List ID) (p q : Int) (z : Bool) (h : hasD xs (p, q) = z) (ao : Option Addr) (ca : Nat) (w : World) (ra : Ids w ao ca xs) :
    Calls Tryd.prog 23 #[.slice ao xs.length ca, .agg #[.int .i64 p, .int .i64 q]] w fun e w' => e = .returned (.bool z) ∧ Below w.heap.size w w' := by
  have lx : xs.length ≤ 9223372036854775807 := Nat.le_trans ra.le ra.capl
  have HA := Lib.hid ra
  have HE := Lib.hid h
  have d0 : (w.alloc (.cells #[.int .i64 p, .int .i64 q] 31)).cell? ⟨w.heap.size, 0, none⟩ = some (.int .i64 p) := two_new0 _ _ _ _
  have d1 : (w.alloc (.cells #[.int .i64 p, .int .i64 q] 31)).cell? ⟨w.heap.size, 1, none⟩ = some (.int .i64 q) := two_new1 _ _ _ _
  have hsz : w.heap.size < (w.alloc (.cells #[.int .i64 p, .int .i64 q] 31)).heap.size := by simp
  have hb0 : Below w.heap.size w (w.alloc (.cells #[.int .i64 p, .int .i64 q] 31)) := (Below.refl _ _).alloc (Nat.le_refl _) _
  clear ra h
  go_enter Tryd.func23, Tryd.ntmps23
  go_wp2_with fail
  generalize w.alloc (.cells #[.int .i64 p, .int .i64 q] 31) = w1 at *
  have HB1 := Lib.hid hb0
  have HD : Hid (∀ W, Below w1.heap.size w1 W → W.cell? ⟨w.heap.size, 0, none⟩ = some (.int .i64 p) ∧ W.cell? ⟨w.heap.size, 1, none⟩ = some (.int .i64 q)) :=
    Lib.hid fun W hW => ⟨(hW.cell (p := ⟨w.heap.size, 0, none⟩) hsz).trans d0, (hW.cell (p := ⟨w.heap.size, 1, none⟩) hsz).trans d1⟩
  clear d0 d1 hb0 hsz
  go_loopw [5] (fun i W => ∃ k : Nat, k ≤ xs.length ∧ i = .int .i64 (k : Int) ∧ Hid (NotTo xs (p, q) k) ∧ Hid (Below w1.heap.size w1 W)) (fun i _ => xs.length - (intOf i).toNat)
  case atStart => exact ⟨0, Nat.zero_le _, rfl, Lib.hid (fun j hj => by omega), Lib.hid (Below.refl _ _)⟩
  case round =>
    obtain ⟨k, hk, rfl, hN, hW⟩ := hrel
    by_cases hlt : k < xs.length
    · obtain ⟨x, a, b, ex, rfl, hxb, c0, c1⟩ := (HA.out.kept (HB1.out.trans (hW.out.mono HB1.out.size))).at hlt
      have ⟨g0, g1⟩ := HD.out _ hW.out
      by_cases he : a = p ∧ b = q
      · obtain ⟨rfl, rfl⟩ := he
        obtain rfl : z = true := by rw [← HE.out]; exact has_yes hlt ex
        have hq : ∀ W : World, (binOp .eql 31 (.agg #[.int .i64 a, .int .i64 b]) (.agg #[.int .i64 a, .int .i64 b])).run Tryd.prog W = Result.ok (Value.bool true) W := fun W => by rw [run_eql 31 (.inr rfl)]; simp
        clear ex
        go_wp2_with fail
        go_region
        go_wp2
        go_ret
        exact ⟨rfl, HB1.out.trans ((hW.out.drew).mono HB1.out.size)⟩
      · have qe : (a == p && b == q) = false := by
          rw [Bool.eq_false_iff]; intro h; simp only [Bool.and_eq_true, beq_iff_eq] at h; exact he h
        have hq : ∀ W : World, (binOp .eql 31 (.agg #[.int .i64 a, .int .i64 b]) (.agg #[.int .i64 p, .int .i64 q])).run Tryd.prog W = Result.ok (Value.bool false) W := fun W => by rw [run_eql 31 (.inr rfl), qe]
        have HN := Lib.hid (hN.out.step (by rw [ex]; intro h; simp only [Prod.mk.injEq] at h; exact he h))
        have HW := Lib.hid hW.out.drew
        clear he qe ex hN
        go_wp2_with fail
        go_region
        go_wp2
        exact ⟨⟨k + 1, by omega, by go_num, HN, HW⟩, by simp [intOf]; omega⟩
    · obtain rfl : k = xs.length := by omega
      obtain rfl : z = false := by rw [← HE.out]; exact has_no hN.out
      clear hN
      go_wp2
      go_ret
      exact ⟨rfl, HB1.out.trans (hW.out.mono HB1.out.size)⟩

set_option maxRecDepth 100000 in
set_option maxHeartbeats 1000000 in
theorem refless_any (xs ys zs : List ID) (h : lessD xs ys = zs) (ao bo : Option Addr) (ca cb : Nat) (hl : xs.length ≤ 1048576) (w : World) (ra : Ids w ao ca xs) (rb : Ids w bo cb ys) :
    Calls Tryd.prog 19 #[.slice ao xs.length ca, .slice bo ys.length cb] w fun e w' => ∃ v cv, e = .returned (.slice v zs.length cv) ∧ Idz w' v cv zs ∧ Below w.heap.size w w' := by
  obtain ⟨i0, hi, hz0, hz1, hz2⟩ := info_parts (P := Tryd.prog) (e := 31) (z := .agg #[.int .i64 0, .int .i64 0]) (size := 2) (bytes := 16) (by kernel_rfl)
  have HA := Lib.hid ra
  have HB := Lib.hid rb
  have H := Lib.hid h
  clear ra rb h
  go_enter Tryd.func19, Tryd.ntmps19
  go_wp2_with fail
  go_loopw [5, 6] (fun v i W => ∃ k : Nat, k ≤ xs.length ∧ i = .int .i64 (k : Int) ∧ Hid (W.ownsRow w.heap.size 31 2 v (lessD (xs.take k) ys).length (cellsD (lessD (xs.take k) ys))) ∧ Hid (Below w.heap.size w W)) (fun _ i _ => xs.length - (intOf i).toNat)
  case atStart => exact ⟨0, Nat.zero_le _, rfl, Lib.hid (World.ownsRow_nil _ _ _ _), Lib.hid (Below.refl _ _)⟩
  case round =>
    obtain ⟨k, hk, rfl, hown, hW⟩ := hrel
    by_cases hlt : k < xs.length
    · obtain ⟨x, p, q, ex, rfl, hxb, c0, c1⟩ := (HA.out.kept hW.out).at hlt
      have hxk : xs[k] = (p, q) := by rw [← ex, List.getD_eq_getElem?_getD, List.getElem?_eq_getElem hlt]; rfl
      obtain ⟨z, hz⟩ : ∃ z, Hid (hasD ys (p, q) = z) := ⟨_, Lib.hid rfl⟩
      have hn : lessD (xs.take (k + 1)) ys = if z = false then lessD (xs.take k) ys ++ [(p, q)] else lessD (xs.take k) ys := by
        rw [List.take_succ_eq_append_getElem hlt, hxk]
        unfold lessD
        rw [List.filter_append]
        cases z
        · rw [if_pos rfl, List.filter_cons, if_pos (by rw [hz.out]; rfl), List.filter_nil]
        · rw [if_neg (by simp), List.filter_cons, if_neg (by rw [hz.out]; simp), List.filter_nil, List.append_nil]
      have HN := Lib.hid hn
      have hlen : (lessD (xs.take k) ys).length ≤ 1048576 := Nat.le_trans (List.length_filter_le _ _) (by rw [List.length_take]; omega)
      clear hn ex hxk
      go_wp2_with fail
      refine (refhas_any ys p q z hz.out bo cb _ (HB.out.kept hW.out)).mono ?_
      rintro e w2 ⟨rfl, hb⟩
      have hW2 := Lib.hid (hW.out.trans (hb.mono hW.out.size))
      have ho2 := Lib.hid (row_over hown.out hb)
      have f0 : w2.cell? (x.add (k * 2)) = some (.int .i64 p) := (hb.cell (by rw [block_of_add]; exact hxb)).trans c0
      have f1 : w2.cell? ⟨(x.add (k * 2)).block, (x.add (k * 2)).off + 1, none⟩ = some (.int .i64 q) := (hb.cell (by show (x.add _).block < _; rw [block_of_add]; exact hxb)).trans c1
      have hsz := hW2.out.size
      clear hb hown hW c0 c1
      cases z with
      | false =>
        go_wp2_with (at_builtin; refine wpList_append_own _ rfl _ _ 29 rfl w.heap.size 31 i0 (.agg #[.int .i64 0, .int .i64 0]) 2 16 Tryd.underlying29 hi hz0 hz1 hz2 rfl (by decide) _ _ _ rfl (ho2.out.alloc _) ⟨w2.heap.size, 0, none⟩ 1 1 [.int .i64 p, .int .i64 q] rfl rfl (news_two _ _ _ _) (by simp [Value.oneCell']) (by unfold maxLen; omega) (by omega) (by simp; omega) ?_)
        intro v' w3 own3 g3 _
        have hb3 : Below w.heap.size w w3 := (hW2.out.alloc hsz _).grown g3 (by simp; omega) (fun j hj => (ho2.out.lt j hj).1)
        have H1 : Hid (w3.ownsRow w.heap.size 31 2 v' (lessD (xs.take (k + 1)) ys).length (cellsD (lessD (xs.take (k + 1)) ys))) := Lib.hid (by
          rw [HN.out, if_pos (by trivial), cellsD_append, List.length_append, List.length_singleton]; exact own3)
        have H2 := Lib.hid hb3
        clear own3 g3 hb3 ho2 f0 f1
        go_wp2
        exact ⟨⟨k + 1, by omega, by go_num, H1, H2⟩, by simp [intOf]; omega⟩
      | true =>
        have H1 : Hid (w2.ownsRow w.heap.size 31 2 u5 (lessD (xs.take (k + 1)) ys).length (cellsD (lessD (xs.take (k + 1)) ys))) := Lib.hid (by
          rw [HN.out, if_neg (by simp)]; exact ho2.out)
        clear ho2 f0 f1
        go_wp2
        exact ⟨⟨k + 1, by omega, by go_num, H1, hW2⟩, by simp [intOf]; omega⟩
    · obtain rfl : k = xs.length := by omega
      have h1 := hown.out
      rw [List.take_length, H.out] at h1
      clear hown
      go_wp2
      go_ret
      obtain ⟨v, cv, rfl, r⟩ := Idz.own h1
      exact ⟨_, _, rfl, r, hW.out⟩
end Go.Proofs.YthcdbeggegmlmaaDoor.Dp
