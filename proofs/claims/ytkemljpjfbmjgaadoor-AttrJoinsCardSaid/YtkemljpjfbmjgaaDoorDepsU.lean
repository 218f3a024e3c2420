/-
  Contracts: a list as the document's (refSet); the document's Has and Less. Conditions: as each theorem says.
-/
import Derived.Test.YtkemljpjfbmjgaaDoorDepsJ
namespace Go.Proofs.YtkemljpjfbmjgaaDoor.Dp
open Go.RowKit
set_option maxRecDepth 100000

set_option maxRecDepth 100000 in
theorem refset_of (xs : List ID) (ao : Option Addr) (ca : Nat) (hl : xs.length ≤ 1048576) (w : World) (ra : Ids w ao ca xs) :
    Calls Tryd.prog 31 #[.slice ao xs.length ca] w fun e w' => ∃ v cv, e = .returned (.slice v xs.length cv) ∧ Idz w' v cv xs ∧ Below w.heap.size w w' := by
  obtain ⟨i0, hi, hz0, hz1, hz2⟩ := info_parts (P := Tryd.prog) (e := 72) (z := .agg #[.int .i64 0, .int .i64 0]) (size := 2) (bytes := 16) (by kernel_rfl)
  have HA := Lib.hid ra
  clear ra
  go_enter Tryd.func31, Tryd.ntmps31
  go_wp2_with fail
  go_loopw [3, 4] (fun v i W => ∃ k : Nat, k ≤ xs.length ∧ i = .int .i64 (k : Int) ∧ Hid (W.ownsRow w.heap.size 72 2 v k (cellsD (xs.take k))) ∧ Hid (Below w.heap.size w W)) (fun _ i _ => xs.length - (intOf i).toNat)
  case atStart => exact ⟨0, Nat.zero_le _, rfl, Lib.hid (World.ownsRow_nil _ _ _ _), Lib.hid (Below.refl _ _)⟩
  case round =>
    obtain ⟨k, hk, rfl, hown, hW⟩ := hrel
    by_cases hlt : k < xs.length
    · obtain ⟨x, p, q, ex, rfl, hxb, c0, c1⟩ := (HA.out.kept hW.out).at hlt
      have hn : cellsD (xs.take (k + 1)) = cellsD (xs.take k) ++ [.int .i64 p, .int .i64 q] := by
        rw [List.take_succ_eq_append_getElem hlt, cellsD_append]
        have : xs[k] = (p, q) := by rw [← ex, List.getD_eq_getElem?_getD, List.getElem?_eq_getElem hlt]; rfl
        rw [this]; rfl
      have HN := Lib.hid hn
      have hsz := hW.out.size
      clear hn ex
      go_wp2_with fail
      go_region_law
        ((refine step_append_lies _ (by rfl) _ _ 34 (by rfl) w.heap.size 72 i0 (.agg #[.int .i64 0, .int .i64 0]) 2 16 Tryd.underlying34 hi hz0 hz1 hz2 (by rfl) (by decide) u3 k (cellsD (xs.take k)) (by rfl) (hown.out.drew.alloc _) ⟨wr.heap.size, 0, none⟩ 1 1 [.int .i64 p, .int .i64 q] (by rfl) (by rfl) (news_two wr.drew _ _ _) (by simp [Value.oneCell']) (by decide) (by unfold maxLen; omega) (by omega) (by simp; omega) (wr.heap.size + 1) (by simp) ?_
          intro g cap W3 own3 g3 _ _))
      all_goals
        have hb3 : Below w.heap.size w W3 := (hW.out.drew.alloc (by simpa using hsz) _).grown g3 (by simp; omega) (fun j hj => (hown.out.lt j hj).1)
        have H1 : Hid (W3.ownsRow w.heap.size 72 2 (.slice (some ⟨g, 0, none⟩) (k + 1) cap) (k + 1) (cellsD (xs.take (k + 1)))) := Lib.hid (by rw [HN.out]; exact own3)
        have H2 := Lib.hid hb3
        clear own3 g3 hb3 hown c0 c1
        go_wp2
        exact ⟨⟨k + 1, by omega, by go_num, H1, H2⟩, by simp [intOf]; omega⟩
    · obtain rfl : k = xs.length := by omega
      have h1 := hown.out
      rw [List.take_length] at h1
      clear hown
      go_wp2
      go_ret
      obtain ⟨v, cv, rfl, r⟩ := Idz.own h1
      exact ⟨_, _, rfl, r, hW.out⟩
end Go.Proofs.YtkemljpjfbmjgaaDoor.Dp
