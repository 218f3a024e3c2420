/-
  Contracts: the law's own number with a list of pairs, by its parts. Conditions: as each theorem says.
-/
import Derived.Test.YtkemljpjfbmjgaaDoorAttrW
import Derived.Test.YtkemljpjfbmjgaaDoorDepsK
import Derived.Test.YtkemljpjfbmjgaaDoorDepsY
import Derived.Test.YtkemljpjfbmjgaaDoorRow
namespace Go.Proofs.YtkemljpjfbmjgaaDoor.At
open Go.RowKit
open Dp (ID IsSet Ids Idz Bts fewD)
open Bl (Pair below_then below_set2)
set_option maxRecDepth 100000

/-- the parts' block, and the answer's -/
structure Parts (w : World) (a b c d : Value) (W : World) : Prop where
  row : Rw.Row W w.heap.size [a, b, c, d]
  ans : Pair W (w.heap.size + 1) (.int .u32 0) (.slice none 0 0)
  bel : Below w.heap.size w W
section
variable {w W W' : World} {a b c d : Value}
theorem Parts.new (w : World) (a b c d : Value) (t u : TypeId) : Parts w a b c d ((w.alloc (.cells #[a, b, c, d] t)).alloc (.cells #[.int .u32 0, .slice none 0 0] u)) :=
  ⟨(Rw.Row.newAt w [a, b, c, d] t _ rfl).alloc _, Pair.newAt _ _ _ _ _ (by simp), Bl.below_2 _ _ _⟩
theorem Parts.keep (hb : Below W.heap.size W W') (h : Parts w a b c d W) : Parts w a b c d W' :=
  ⟨h.row.over hb, h.ans.over hb, below_then h.bel hb (Nat.le_of_lt h.row.1)⟩
theorem Parts.drew (h : Parts w a b c d W) : Parts w a b c d W.drew := ⟨h.row, h.ans, h.bel.drew⟩
theorem Parts.cells (h : Parts w a b c d W) : W.cell? ⟨w.heap.size, 0, none⟩ = some a ∧ W.cell? ⟨w.heap.size, 1, none⟩ = some b ∧ W.cell? ⟨w.heap.size, 2, none⟩ = some c ∧ W.cell? ⟨w.heap.size, 3, none⟩ = some d :=
  ⟨(h.row.2 0 _ rfl).1, (h.row.2 1 _ rfl).1, (h.row.2 2 _ rfl).1, (h.row.2 3 _ rfl).1⟩
theorem Parts.cells2 (h : Parts w a b c d W) : W.cell? ⟨w.heap.size, 0, none⟩ = some a ∧ W.cell? ⟨w.heap.size, 3, none⟩ = some d := ⟨h.cells.1, h.cells.2.2.2⟩
theorem Parts.cells2p (h : Parts w a b c d W) (u v : Value) :
    ((W.setCell ⟨w.heap.size + 1, 0, none⟩ u).setCell ⟨w.heap.size + 1, 1, none⟩ v).cell? ⟨w.heap.size, 0, none⟩ = some a ∧ ((W.setCell ⟨w.heap.size + 1, 0, none⟩ u).setCell ⟨w.heap.size + 1, 1, none⟩ v).cell? ⟨w.heap.size, 3, none⟩ = some d := by
  have hr := (h.row.far ⟨w.heap.size + 1, 0, none⟩ (by simp) u).far ⟨w.heap.size + 1, 1, none⟩ (by simp) v
  exact ⟨(hr.2 0 _ rfl).1, (hr.2 3 _ rfl).1⟩
theorem Parts.out {ao : Option Addr} {cap : Nat} {xs : List ID} (hH : Parts w a b c d W) (h : Idz W ao cap xs) (u v : Value) :
    Idz ((W.setCell ⟨w.heap.size + 1, 0, none⟩ u).setCell ⟨w.heap.size + 1, 1, none⟩ v) ao cap xs ∧ Below w.heap.size w ((W.setCell ⟨w.heap.size + 1, 0, none⟩ u).setCell ⟨w.heap.size + 1, 1, none⟩ v) :=
  ⟨idz_set2 h hH.ans (fun i e => by cases e) u v, below_set2 hH.bel (Nat.le_succ _) u v⟩
end

theorem attr_own (n k : Nat) (hk : n % 5 = k) (bs : List Nat) (zs : List ID) (h : fewD (bs.take 20) = zs) (a1 : Option Addr) (l1 c1 : Nat) (ao : Option Addr) (ca : Nat) (hle : bs.length ≤ ca) (hm : ca ≤ maxLen) (w : World) (hb : Bts w ao bs) :
    Calls Tryd.prog 10 #[.agg #[.int .u32 n, .slice a1 l1 c1, .bool true, .slice ao bs.length ca]] w fun e w' => ∃ v cv, e = .returned (.agg #[.int .u32 k, .slice v zs.length cv]) ∧ Idz w' v cv zs ∧ Below w.heap.size w w' := by
  have HA := Lib.hid (fun W (h : Below w.heap.size w W) => hb.kept h)
  have ht : (n : Int).tmod 5 = (k : Int) := by rw [Int.tmod_eq_emod_of_nonneg (by omega)]; omega
  have he : (n : Int) % 5 = (k : Int) := by omega
  have hH0 := Lib.hid (Parts.new w (.int .u32 n) (.slice a1 l1 c1) (.bool true) (.slice ao bs.length ca) 28 25)
  clear hb hk
  have ⟨C0, C1, C2, C3⟩ := hH0.out.cells
  go_enter Tryd.func10, Tryd.ntmps10
  go_wp2_with fail
  clear C0 C1 C2 C3
  have hH := hH0.out.drew
  generalize ((w.alloc (.cells #[.int .u32 n, .slice a1 l1 c1, .bool true, .slice ao bs.length ca] 28)).alloc (.cells #[.int .u32 0, .slice none 0 0] 25)) = W at *
  have HC := Lib.hid (fun W (h : Parts w (.int .u32 n) (.slice a1 l1 c1) (.bool true) (.slice ao bs.length ca) W) => h.ans)
  have HL := Lib.hid (fun W (h : Parts w (.int .u32 n) (.slice a1 l1 c1) (.bool true) (.slice ao bs.length ca) W) => h.cells2)
  have HP := Lib.hid (fun W (h : Parts w (.int .u32 n) (.slice a1 l1 c1) (.bool true) (.slice ao bs.length ca) W) u v => h.cells2p u v)
  have HB := Lib.hid (fun W (h : Parts w (.int .u32 n) (.slice a1 l1 c1) (.bool true) (.slice ao bs.length ca) W) => h.bel)
  go_region_held3 (fun w' => w'.cell? ⟨w.heap.size, 0, none⟩ = some (.int .u32 n) ∧ w'.cell? ⟨w.heap.size, 3, none⟩ = some (.slice ao bs.length ca)) (first | exact HL.out _ (by assumption) | exact HP.out _ (by assumption) _ _) ((go_at_call 26; refine (Dp.few_any bs zs h ao ca hle hm _ (HA.out _ (HB.out _ (by assumption)))).mono ?_; rintro e w3 ⟨v, cv, rfl, iv, hb3⟩; have hp3 := Parts.keep hb3 (by assumption); have ⟨A0, A1, A2, A3, A4⟩ := (HC.out _ hp3)))
  all_goals (
    go_wp2
    have hO := hp3.out iv (.int .u32 k) (.slice v zs.length cv)
    exact bodyPost_ret (v := .agg #[.int .u32 k, .slice v zs.length cv]) (by simp [results, Tryd.results10, go_sem, A1, A2]) rfl ⟨_, _, rfl, hO⟩)

theorem attr_as (n : Nat) (xs : List ID) (q : Nat) (hq : min xs.length 8 = q) (ao : Option Addr) (ca : Nat) (a3 : Option Addr) (l3 c3 : Nat) (w : World) (ra : Idz w ao ca xs) :
    Calls Tryd.prog 10 #[.agg #[.int .u32 n, .slice ao xs.length ca, .bool false, .slice a3 l3 c3]] w fun e w' => e = .returned (.agg #[.int .u32 n, .slice ao q ca]) ∧ Idz w' ao ca (xs.take 8) ∧ (xs.take 8).length = q ∧ Below w.heap.size w w' := by
  have hqx : q ≤ xs.length := by omega
  have hqc : q ≤ ca := Nat.le_trans hqx ra.le
  have lx : xs.length ≤ 9223372036854775807 := Nat.le_trans ra.le ra.capl
  have ht8 : xs.take 8 = xs.take q := by
    rw [← hq]
    rcases Nat.le_total xs.length 8 with h8 | h8
    · rw [Nat.min_eq_left h8, List.take_of_length_le h8, List.take_of_length_le (Nat.le_refl _)]
    · rw [Nat.min_eq_right h8]
  have HF := Lib.hid (fun W (h : Below w.heap.size w W) => (show Idz W ao ca (xs.take 8) ∧ (xs.take 8).length = q from ⟨by rw [ht8]; exact (ra.kept h).front hqx, by rw [ht8, List.length_take, Nat.min_eq_left hqx]⟩))
  have hmin : ∀ W, (Builtin.min_ #[3, 3] 3 #[.int .i64 (xs.length : Int), .int .i64 8]).run Tryd.prog W = .ok (.int .i64 (q : Int)) W := by
    intro W
    rw [run_min_int2]
    congr 2
    split <;> omega
  have hsl : ∀ W, (Instr.slice 23 (.slice ao xs.length ca) none (some (.int .i64 (q : Int))) none).run Tryd.prog W = .ok (.slice ao q ca) W := by
    intro W
    obtain ⟨i0, hi, hz0, hz1, hz2⟩ := info_parts (P := Tryd.prog) (e := 58) (z := .agg #[.int .i64 0, .int .i64 0]) (size := 2) (bytes := 16) (by kernel_rfl)
    have he : Tryd.prog.elem 23 = 58 := by kernel_rfl
    rw [run_slice_h W 23 ao xs.length ca Tryd.underlying23 .i64 (q : Int) (by omega) (by omega), he]
    simp [sizeOf, typeInfo, hi, hz1, Result.andThen, sliced]
    intro _
    cases ao <;> simp [Addr.add]
  have hH0 := Lib.hid (Parts.new w (.int .u32 n) (.slice ao xs.length ca) (.bool false) (.slice a3 l3 c3) 28 25)
  clear ra hq ht8
  have ⟨C0, C1, C2, C3⟩ := hH0.out.cells
  have ⟨A0, A1, A2, A3, A4⟩ := hH0.out.ans
  go_enter Tryd.func10, Tryd.ntmps10
  go_wp2_with fail
  generalize ((w.alloc (.cells #[.int .u32 n, .slice ao xs.length ca, .bool false, .slice a3 l3 c3] 28)).alloc (.cells #[.int .u32 0, .slice none 0 0] 25)) = W at *
  go_region
  go_wp2
  have hB : Below w.heap.size w ((W.setCell ⟨w.heap.size + 1, 0, none⟩ (.int .u32 n)).setCell ⟨w.heap.size + 1, 1, none⟩ (.slice ao q ca)) := below_set2 hH0.out.bel (Nat.le_succ _) _ _
  exact bodyPost_ret (v := .agg #[.int .u32 n, .slice ao q ca]) (by simp [results, Tryd.results10, go_sem, A1, A2]) rfl ⟨rfl, (HF.out _ hB.drew).1, (HF.out _ hB.drew).2, hB.drew⟩
end Go.Proofs.YtkemljpjfbmjgaaDoor.At
