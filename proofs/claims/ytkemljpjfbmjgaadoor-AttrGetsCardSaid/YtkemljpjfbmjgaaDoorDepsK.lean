/-
  Contract: few, a set of few pairs, by bytes. Conditions: as the theorem says.
-/
import Derived.Test.YtkemljpjfbmjgaaDoorDepsJ
import Derived.Test.YtkemljpjfbmjgaaDoorDepsF
import Derived.Lib.BufferWrite
import Derived.Lib.BufferMore
import Derived.Test.YtkemljpjfbmjgaaDoorRow
namespace Go.Proofs.YtkemljpjfbmjgaaDoor.Dp
open Go.RowKit
set_option maxRecDepth 100000

/-- which ones the first k bytes name, as cells -/
def flags (bs : List Nat) : List Value := (List.range 36).map fun i => .bool (bs.any fun b => slotF b == i)
theorem flags_length (bs : List Nat) : (flags bs).length = 36 := by simp [flags]
theorem flags_nil : flags [] = List.replicate 36 (.bool false) := rfl
theorem flags_at (bs : List Nat) (i : Nat) (hi : i < 36) : (flags bs)[i]? = some (.bool (bs.any fun b => slotF b == i)) := by
  simp [flags, hi]
theorem flags_snoc (bs : List Nat) (b : Nat) : flags (bs ++ [b]) = (flags bs).set (slotF b) (.bool true) := by
  have hb := slotF_lt b
  refine List.ext_getElem? fun i => ?_
  by_cases hi : i < 36
  · rw [flags_at _ i hi, List.any_append]
    by_cases e : slotF b = i
    · subst e
      rw [List.getElem?_set_self (by rw [flags_length]; exact hb)]
      simp
    · rw [List.getElem?_set_ne e, flags_at _ i hi]
      simp [e]
  · rw [List.getElem?_eq_none (by rw [flags_length]; omega), List.getElem?_eq_none (by rw [List.length_set, flags_length]; omega)]

set_option maxRecDepth 100000 in
set_option maxHeartbeats 1000000 in
theorem few_any (bs : List Nat) (zs : List ID) (h : fewD (bs.take 20) = zs) (ao : Option Addr) (ca : Nat) (hle : bs.length ≤ ca) (hm : ca ≤ maxLen) (w : World) (hb : Bts w ao bs) :
    Calls Tryd.prog 26 #[.slice ao bs.length ca] w fun e w' => ∃ v cv, e = .returned (.slice v zs.length cv) ∧ Idz w' v cv zs ∧ Below w.heap.size w w' := by
  obtain ⟨i0, hi, hz0, hz1, hz2⟩ := info_parts (P := Tryd.prog) (e := 58) (z := .agg #[.int .i64 0, .int .i64 0]) (size := 2) (bytes := 16) (by kernel_rfl)
  have lx : bs.length ≤ 9223372036854775807 := Nat.le_trans hle hm
  have HB := Lib.hid hb
  have H := Lib.hid h
  clear hb h
  go_enter Tryd.func26, Tryd.ntmps26
  go_wp2_with fail
  have hb0 : Hid (Below w.heap.size w (w.alloc (.cells #[.bool false, .bool false, .bool false, .bool false, .bool false, .bool false, .bool false, .bool false, .bool false, .bool false, .bool false, .bool false, .bool false, .bool false, .bool false, .bool false, .bool false, .bool false, .bool false, .bool false, .bool false, .bool false, .bool false, .bool false, .bool false, .bool false, .bool false, .bool false, .bool false, .bool false, .bool false, .bool false, .bool false, .bool false, .bool false, .bool false] 90)) ∧ Hid (w.heap.size + 1 ≤ (w.alloc (.cells #[.bool false, .bool false, .bool false, .bool false, .bool false, .bool false, .bool false, .bool false, .bool false, .bool false, .bool false, .bool false, .bool false, .bool false, .bool false, .bool false, .bool false, .bool false, .bool false, .bool false, .bool false, .bool false, .bool false, .bool false, .bool false, .bool false, .bool false, .bool false, .bool false, .bool false, .bool false, .bool false, .bool false, .bool false, .bool false, .bool false] 90)).heap.size) ∧ (w.alloc (.cells #[.bool false, .bool false, .bool false, .bool false, .bool false, .bool false, .bool false, .bool false, .bool false, .bool false, .bool false, .bool false, .bool false, .bool false, .bool false, .bool false, .bool false, .bool false, .bool false, .bool false, .bool false, .bool false, .bool false, .bool false, .bool false, .bool false, .bool false, .bool false, .bool false, .bool false, .bool false, .bool false, .bool false, .bool false, .bool false, .bool false] 90)).heap[w.heap.size]? = some (.cells (flags []).toArray 90 (0, 0))) := Lib.hid ⟨Rw.below_1 _ _, Lib.hid (by simp), heap_alloc_new _ _⟩
  generalize (w.alloc (.cells #[.bool false, .bool false, .bool false, .bool false, .bool false, .bool false, .bool false, .bool false, .bool false, .bool false, .bool false, .bool false, .bool false, .bool false, .bool false, .bool false, .bool false, .bool false, .bool false, .bool false, .bool false, .bool false, .bool false, .bool false, .bool false, .bool false, .bool false, .bool false, .bool false, .bool false, .bool false, .bool false, .bool false, .bool false, .bool false, .bool false] 90)) = w1 at *
  go_loopw [4] (fun i W => ∃ k : Nat, k ≤ bs.length ∧ k ≤ 20 ∧ i = .int .i64 k ∧ Hid (Below w.heap.size w W ∧ Hid (w.heap.size + 1 ≤ W.heap.size) ∧ W.heap[w.heap.size]? = some (.cells (flags (bs.take k)).toArray 90 (0, 0)))) (fun i _ => bs.length - (intOf i).toNat)
  case atStart => exact ⟨0, Nat.zero_le _, by omega, rfl, hb0⟩
  case round =>
    clear hb0
    obtain ⟨k, hk, hk20, rfl, hW⟩ := hrel
    by_cases hlt : k < bs.length ∧ k < 20
    · obtain ⟨hlt, hlt20⟩ := hlt
      obtain ⟨x, rfl, hxb, c0, hby⟩ := (HB.out.kept hW.out.1).lies k hlt
      obtain ⟨b, hbe⟩ : ∃ b, bs[k] = b := ⟨_, rfl⟩
      rw [hbe] at c0 hby
      have hsl := slotF_lt b
      have hstep : flags (bs.take (k + 1)) = (flags (bs.take k)).set (slotF b) (.bool true) := by
        rw [List.take_succ_eq_append_getElem hlt, flags_snoc, hbe]
      have HS := Lib.hid hstep
      clear hstep
      have c1 : wr.cell? ⟨w.heap.size, b % 3 * 12 + b / 3 % 12, none⟩ = some (.bool ((bs.take k).any fun c => slotF c == slotF b)) := by
        show wr.cell? ⟨w.heap.size, slotF b, none⟩ = _
        rw [Lib.cell_of_heap hW.out.2.2, List.getElem?_toArray, flags_at _ _ hsl]
      have c2 : wr.frozen? ⟨w.heap.size, b % 3 * 12 + b / 3 % 12, none⟩ = false := Lib.frozen_of_heap hW.out.2.2 (slotF b)
      obtain ⟨old, hold⟩ : ∃ old, ((bs.take k).any fun c => slotF c == slotF b) = old := ⟨_, rfl⟩
      rw [hold] at c1
      clear hold hbe
      go_wp2_with fail
      go_region
      have HW : Hid (Below w.heap.size w (wr.setCell ⟨w.heap.size, b % 3 * 12 + b / 3 % 12, none⟩ (.bool true)).drew ∧ Hid (w.heap.size + 1 ≤ (wr.setCell ⟨w.heap.size, b % 3 * 12 + b / 3 % 12, none⟩ (.bool true)).drew.heap.size) ∧ (wr.setCell ⟨w.heap.size, b % 3 * 12 + b / 3 % 12, none⟩ (.bool true)).drew.heap[w.heap.size]? = some (.cells (flags (bs.take (k + 1))).toArray 90 (0, 0))) := Lib.hid (by
        refine ⟨(hW.out.1.setCell (Nat.le_refl _) _).drew, Lib.hid (by have := hW.out.2.1.out; simpa [World.setCell] using this), ?_⟩
        have := Lib.heap_setCell_same (w := wr) (i := b % 3 * 12 + b / 3 % 12) hW.out.2.2 (.bool true)
        show (wr.setCell ⟨w.heap.size, b % 3 * 12 + b / 3 % 12, none⟩ (.bool true)).heap[w.heap.size]? = _
        rw [this, HS.out, List.setIfInBounds_toArray]
        rfl)
      clear hW c1 c2
      go_wp2
      exact ⟨⟨k + 1, by omega, by omega, by go_num, HW⟩, by simp [intOf]; omega⟩
    · have hfl : bs.take k = bs.take 20 := by
        rcases Nat.lt_or_ge k bs.length with h1 | h1
        · rw [show k = 20 by omega]
        · rw [List.take_of_length_le h1, List.take_of_length_le (by omega)]
      rw [hfl] at hW
      clear hfl
      have HW := Lib.hid hW.out
      have FL : Hid (∀ W : World, W.heap[w.heap.size]? = some (.cells (flags (bs.take 20)).toArray 90 (0, 0)) → ∀ o n : Nat, o < 3 → n < 12 → W.cell? ⟨w.heap.size, o * 12 + n, none⟩ = some (.bool ((bs.take 20).any fun b => slotF b == 12 * o + n))) := Lib.hid fun W hW o n ho hn => by
        rw [Lib.cell_of_heap hW, List.getElem?_toArray, flags_at _ _ (by omega), Nat.mul_comm 12 o]
      have hsz := hW.out.2.1.out
      by_cases hk1 : k < bs.length
      all_goals
        go_wp2_with fail
        go_loopw [5, 6] (fun v i W => ∃ o : Nat, o ≤ 3 ∧ i = .int .i64 o ∧ Hid (W.ownsRow (w.heap.size + 1) 58 2 v (partF (bs.take 20) (12 * o)).length (cellsD (partF (bs.take 20) (12 * o)))) ∧ Hid (Below w.heap.size w W) ∧ Hid (W.heap[w.heap.size]? = some (.cells (flags (bs.take 20)).toArray 90 (0, 0)))) (fun _ i _ => 3 - (intOf i).toNat)
        case atStart => exact ⟨0, by omega, rfl, Lib.hid (World.ownsRow_nil _ _ _ _), Lib.hid HW.out.1, Lib.hid HW.out.2.2⟩
        case round =>
          clear HW hsz
          obtain ⟨o, ho, rfl, hown, hbel, hbk⟩ := hrel
          by_cases ho3 : o < 3
          · have i3 : (o : Int) < 3 := by omega
            go_wp2_with fail
            go_loopw [5, 7] (fun v i W => ∃ n : Nat, n ≤ 12 ∧ i = .int .i64 n ∧ Hid (W.ownsRow (w.heap.size + 1) 58 2 v (partF (bs.take 20) (12 * o + n)).length (cellsD (partF (bs.take 20) (12 * o + n)))) ∧ Hid (Below w.heap.size w W) ∧ Hid (W.heap[w.heap.size]? = some (.cells (flags (bs.take 20)).toArray 90 (0, 0)))) (fun _ i _ => 12 - (intOf i).toNat)
            case atStart => exact ⟨0, by omega, rfl, hown, hbel, hbk⟩
            case round =>
              clear hown hbel hbk
              obtain ⟨n, hn, rfl, hown, hbel, hbk⟩ := hrel
              by_cases hn12 : n < 12
              · have hc := FL.out _ hbk.out o n ho3 hn12
                have hpn := part_next (bs.take 20) (12 * o + n)
                obtain ⟨fl, hfl⟩ : ∃ fl, ((bs.take 20).any fun b => slotF b == 12 * o + n) = fl := ⟨_, rfl⟩
                rw [hfl] at hc hpn
                clear hfl
                cases fl with
                | true =>
                  rw [if_pos rfl] at hpn
                  have hpr : pairF (12 * o + n) = (((o : Int) + 1), ((n : Int) + 1)) := by
                    unfold pairF
                    rw [show (12 * o + n) / 12 = o by omega, show (12 * o + n) % 12 = n by omega]
                    simp
                  rw [hpr] at hpn
                  have HP := Lib.hid hpn
                  have hlen : (partF (bs.take 20) (12 * o + n)).length ≤ 36 := by
                    unfold partF
                    rw [List.length_map]
                    exact Nat.le_trans (List.length_filter_le _ _) (by simp; omega)
                  have hroom : w.heap.size + 1 ≤ wr.heap.size := by
                    have := (Array.getElem?_eq_some_iff.1 hbk.out).1
                    omega
                  clear hpr hpn
                  go_wp2_with (at_builtin; refine wpList_append_own _ rfl _ _ 23 rfl (w.heap.size + 1) 58 i0 (.agg #[.int .i64 0, .int .i64 0]) 2 16 Tryd.underlying23 hi hz0 hz1 hz2 rfl (by decide) _ _ _ rfl (hown.out.alloc _) ⟨wr.heap.size, 0, none⟩ 1 1 [.int .i64 ((o : Int) + 1), .int .i64 ((n : Int) + 1)] rfl rfl (news_two _ _ _ _) (by simp [Value.oneCell']) (by unfold maxLen; omega) (by omega) (by simp; omega) ?_)
                  intro v' w6 hown' hgrow _
                  have hb1 : Below (w.heap.size + 1) wr w6 := ((Below.refl _ _).alloc hroom _).grown hgrow (by simp; omega) (fun k hk => (hown.out.lt k hk).1)
                  have h1 : Hid (w6.ownsRow (w.heap.size + 1) 58 2 v' (partF (bs.take 20) (12 * o + (n + 1))).length (cellsD (partF (bs.take 20) (12 * o + (n + 1))))) := Lib.hid (by
                    rw [← Nat.add_assoc, HP.out, cellsD_append, List.length_append, List.length_singleton]; exact hown')
                  have h2 := Lib.hid (hbel.out.trans (hb1.mono (Nat.le_succ _)))
                  have h3 := Lib.hid ((hb1.block _ (Nat.lt_succ_self _)).trans hbk.out)
                  clear hown' hgrow hb1 hown hbel hbk hc
                  go_wp2
                  exact ⟨⟨n + 1, by omega, by go_num, h1, h2, h3⟩, by simp [intOf]; omega⟩
                | false =>
                  rw [if_neg (by decide)] at hpn
                  have h1 : Hid (wr.ownsRow (w.heap.size + 1) 58 2 u5 (partF (bs.take 20) (12 * o + (n + 1))).length (cellsD (partF (bs.take 20) (12 * o + (n + 1))))) := Lib.hid (by
                    rw [← Nat.add_assoc, hpn]; exact hown.out)
                  clear hpn hown
                  go_wp2
                  exact ⟨⟨n + 1, by omega, by go_num, h1, hbel, hbk⟩, by simp [intOf]; omega⟩
              · obtain rfl : n = 12 := by omega
                have h1 : Hid (wr.ownsRow (w.heap.size + 1) 58 2 u5 (partF (bs.take 20) (12 * (o + 1))).length (cellsD (partF (bs.take 20) (12 * (o + 1))))) := Lib.hid hown.out
                clear hown
                go_wp2
                exact ⟨⟨o + 1, by omega, by go_num, h1, hbel, hbk⟩, by simp [intOf]; omega⟩
          · obtain rfl : o = 3 := by omega
            have hz : partF (bs.take 20) (12 * 3) = zs := by rw [← H.out]; exact part_all _
            have h1 := hown.out
            rw [hz] at h1
            clear hown hz
            go_wp2
            go_ret
            obtain ⟨av, cv, rfl, r⟩ := Idz.own h1
            exact ⟨_, _, rfl, r, hbel.out⟩
end Go.Proofs.YtkemljpjfbmjgaaDoor.Dp
