/-
  Proved: for every number and flag the law AttrBounds returns true and leaves its inputs as they were; the card ties the three tables of the library that the row lists to the text of the program. No condition beyond the form itself (each text at most 2^47 - 4096 bytes; the listed tables start as that text lays them).
-/
import Derived.Test.YtkemljpjfbmjgaaDoorAttrL
import Derived.Test.YtkemljpjfbmjgaaDoorAttrA
import Derived.Test.YtkemljpjfbmjgaaDoorSpan
import Derived.Test.YtkemljpjfbmjgaaDoorBox
import Derived.Test.YtkemljpjfbmjgaaDoorTab
import Derived.Test.YtkemljpjfbmjgaaDoorDepsD
import Derived.Test.YtkemljpjfbmjgaaDoorCards
import Derived.Test.YtkemljpjfbmjgaaDoorTie
import Derived.Deep.DeepHandedRow
import Derived.LaidMore
import Derived.SevenTiedAt
import Derived.WalkKit
import Derived.ProofKit
import Derived.OpenShut
import Derived.ShutString
import Derived.SizedLaws
import Derived.ChangeOld
import Derived.Below
import Derived.Carry
import Derived.Lib.SmallJoins
import Derived.Deep.SlicePairs
import Derived.SliceStrings
import Derived.ChangeSlices
namespace Go.Proofs.YtkemljpjfbmjgaaDoor.attrBounds
open Go.ChangeShapes Go.WideShapes Go.ChangeAt Go.RowKit Go.Joins Go.Deep
open Go.ChangeMaps (open_string shut_string)
set_option linter.unusedVariables false

theorem own : ownKnob Tryd.prog.godebug = none := by kernel_rfl
theorem laidOut : laidOutB Tryd.prog = true := by kernel_rfl

def upto (k : Nat) : List Dp.ID := (List.range k).map fun (i : Nat) => (((3 : Int), (i : Int) + 1) : Dp.ID)
theorem upto_length (k : Nat) : (upto k).length = k := by simp [upto]
theorem upto_next (k : Nat) : upto (k + 1) = upto k ++ [((3 : Int), (k : Int) + 1)] := by simp [upto, List.range_succ]
theorem upto_set (k : Nat) (h : k ≤ 450) : Dp.IsSet (upto k) := by
  refine ⟨fun x hx => ?_, ?_⟩
  · obtain ⟨i, hi, rfl⟩ := List.mem_map.1 hx
    have := List.mem_range.1 hi
    exact (Dp.rightD_iff _).2 ⟨by show (1 : Int) ≤ 3; decide, by show (3 : Int) ≤ 7; decide, by show 1 ≤ (i : Int) + 1; omega, by show (i : Int) + 1 ≤ 16777215; omega⟩
  · unfold upto
    rw [List.pairwise_map]
    exact List.pairwise_lt_range.imp fun {a b} h => by show (3 : Int) < 3 ∨ (3 : Int) = 3 ∧ (a : Int) + 1 < (b : Int) + 1; omega
theorem upto_at (k : Nat) (i : Nat) (h : i < k) : (upto k)[i]'(by rw [upto_length]; exact h) = (3, (i : Int) + 1) := by simp [upto]
def swapped (k : Nat) : List Dp.ID := ((upto k).set 0 (3, 2)).set 1 (3, 1)
theorem swapped_length (k : Nat) : (swapped k).length = k := by unfold swapped; rw [List.length_set, List.length_set, upto_length]
theorem swapped_wrong (k : Nat) (h : 2 ≤ k) : At.rightA (7, swapped k) = false := by
  rw [Bool.eq_false_iff]
  intro hr
  have hs := ((At.right_iff _).1 hr).1.2
  have := List.pairwise_iff_getElem.1 hs 0 1 (by rw [swapped_length]; omega) (by rw [swapped_length]; omega) (by omega)
  have e0 : (swapped k)[0]'(by rw [swapped_length]; omega) = (3, 2) := by simp [swapped]
  have e1 : (swapped k)[1]'(by rw [swapped_length]; omega) = (3, 1) := by simp [swapped]
  rw [e0, e1] at this
  have h2 : (3 : Int) < 3 ∨ (3 : Int) = 3 ∧ (2 : Int) < 1 := this
  omega
theorem put_no (n : Nat) (z : List Dp.ID) (h : At.rightA (n, z) = false) : At.putA (n, z) = (⟨#[]⟩, false) := by unfold At.putA; rw [h]; rfl
theorem pair_set1 {W : World} {g : Nat} {u v : Value} (h : Bl.Pair W g u v) (v' : Value) : Bl.Pair (W.setCell ⟨g, 1, none⟩ v') g u v' := by
  obtain ⟨h0, h1, h2, h3, h4⟩ := h
  exact ⟨by simpa [World.setCell] using h0, by rw [World.cell?_setCell_other _ _ _ _ (by simp), h1], World.cell?_setCell_same _ _ _ h2, by rw [World.frozen?_setCell, h3], by rw [World.frozen?_setCell, h4]⟩
/-- the attr's block, and its list so far -/
structure Bd (w : World) (g : Nat) (v : Value) (l : List Dp.ID) (W : World) : Prop where
  pr : Bl.Pair W g (.int .u32 7) v
  row : W.ownsRow (g + 1) 58 2 v l.length (Dp.cellsD l)
  bel : Below w.heap.size w W
  hg : w.heap.size ≤ g
theorem Bd.grown {w W W' : World} {g : Nat} {v v' : Value} {l : List Dp.ID} {x : Dp.ID} {o : Obj} (h : Bd w g v l W) (hg : (W.alloc o).grownBy W' v.ownBlock) (ho : W'.ownsRow (g + 1) 58 2 v' (l ++ [x]).length (Dp.cellsD (l ++ [x]))) :
    Bl.Pair W' g (.int .u32 7) v ∧ Bd w g v' (l ++ [x]) (W'.setCell ⟨g, 1, none⟩ v') := by
  have hr := h.pr.1
  have hb : Below (g + 1) (W.alloc o) W' := (Below.refl _ _).grown hg (by simp; omega) (fun k hk => (h.row.lt k hk).1)
  have hp := (h.pr.alloc o).keep hb (Nat.lt_succ_self g)
  refine ⟨hp, pair_set1 hp v', Dp.row_set ho fun j hj => by have := (ho.lt j hj).1; omega, ?_, h.hg⟩
  exact ((h.bel.alloc h.bel.size o).trans (hb.mono (by have := h.hg; omega))).setCell (p := ⟨g, 1, none⟩) h.hg v'
/-- an element is stored -/
theorem idz_store {W : World} {gr cap : Nat} {l : List Dp.ID} (h : Dp.Idz W (some ⟨gr, 0, none⟩) cap l) (i : Nat) (hi : i < l.length) (p q : Int) :
    Dp.Idz ((W.setCell ⟨gr, i * 2, none⟩ (.int .i64 p)).setCell ⟨gr, i * 2 + 1, none⟩ (.int .i64 q)) (some ⟨gr, 0, none⟩) cap (l.set i (p, q)) := by
  refine ⟨⟨by rw [List.length_set]; exact h.le, h.capl, fun j hj => ?_⟩, fun e => by cases e⟩
  rw [List.length_set] at hj
  obtain ⟨x, e, hx, h0, h1⟩ := h.lies j hj
  cases e
  refine ⟨_, rfl, by simpa [World.setCell] using hx, ?_, ?_⟩
  · rw [Addr.add_lit, Nat.zero_add] at h0 ⊢
    by_cases e : i = j
    · subst e
      rw [World.cell?_setCell_other _ _ _ _ (by simp), World.cell?_setCell_same _ _ _ h0]
      simp
    · rw [World.cell?_setCell_other _ _ _ _ (by first | (simp; done) | (simp; omega)), World.cell?_setCell_other _ _ _ _ (by first | (simp; done) | (simp; omega)), h0, List.getElem_set_ne e]
  · rw [Addr.add_lit, Nat.zero_add] at h1 ⊢
    by_cases e : i = j
    · subst e
      rw [World.cell?_setCell_same _ _ _ (show (W.setCell ⟨gr, i * 2, none⟩ (.int .i64 p)).cell? ⟨gr, i * 2 + 1, none⟩ = _ by rw [World.cell?_setCell_other _ _ _ _ (by simp), h1])]
      simp
    · rw [World.cell?_setCell_other _ _ _ _ (by first | (simp; done) | (simp; omega)), World.cell?_setCell_other _ _ _ _ (by first | (simp; done) | (simp; omega)), h1, List.getElem_set_ne e]
structure Fz (W : World) (gr : Nat) : Prop where
  lt : gr < W.heap.size
  fz : ∀ i, W.frozen? ⟨gr, i, none⟩ = false
theorem Fz.over {W W' : World} {gr : Nat} (h : Fz W gr) (hb : Below W.heap.size W W') : Fz W' gr := ⟨Nat.lt_of_lt_of_le h.lt hb.size, fun i => (hb.frozen (p := ⟨gr, i, none⟩) h.lt).trans (h.fz i)⟩
/-- the list's own block, where it holds two -/
theorem Bd.two {w W : World} {g : Nat} {v : Value} {l : List Dp.ID} (h : Bd w g v l W) (hl : 2 ≤ l.length) :
    ∃ gr cap, v = .slice (some ⟨gr, 0, none⟩) l.length cap ∧ g < gr ∧ gr < W.heap.size ∧ Dp.Idz W (some ⟨gr, 0, none⟩) cap l ∧ Fz W gr := by
  have hrow := h.row
  obtain ⟨ao, cap, rfl, hi⟩ := Dp.Idz.own hrow
  rcases hrow.2 with ⟨_, h0⟩ | ⟨gr, cap', cur, e, hb, hgr, _⟩
  · omega
  · cases e
    exact ⟨gr, _, rfl, by omega, (Array.getElem?_eq_some_iff.1 hgr).1, hi, (Array.getElem?_eq_some_iff.1 hgr).1, fun i => Lib.frozen_of_heap hgr i⟩
theorem idz_cells {W : World} {gr cap : Nat} {l : List Dp.ID} (h : Dp.Idz W (some ⟨gr, 0, none⟩) cap l) {i : Nat} (hi : i < l.length) (p q : Int) (e : l[i] = (p, q)) : W.cell? ⟨gr, i * 2, none⟩ = some (.int .i64 p) ∧ W.cell? ⟨gr, i * 2 + 1, none⟩ = some (.int .i64 q) := by
  obtain ⟨x, ex, _, h0, h1⟩ := h.lies i hi
  cases ex
  rw [Addr.add_lit, Nat.zero_add] at h0 h1
  rw [e] at h0 h1
  exact ⟨h0, h1⟩

set_option maxRecDepth 100000 in
set_option maxHeartbeats 4000000 in
theorem walk (a0 : Int) (a1 : Bool) (w : World) (w0 : (Lit.int .u16 a0).wf = true) (ht : Bl.Tab w) :
    Calls Tryd.prog 8 #[.int .u16 a0, .bool a1] w fun e w' => e = .returned (.bool true) ∧ Below w.heap.size w w' := by
  have q0 : 0 ≤ a0 ∧ a0 ≤ 65535 := by simpa [Lit.wf, IntKind.min, IntKind.max, IntKind.signed, IntKind.bits] using w0
  obtain ⟨m, rfl⟩ := Int.eq_ofNat_of_zero_le q0.1
  obtain ⟨n, hn⟩ : ∃ n : Nat, (m : Int) % 451 = (n : Int) := ⟨m % 451, by omega⟩
  have hn4 : n ≤ 450 := by omega
  obtain ⟨i0, hi, hz0, hz1, hz2⟩ := info_parts (P := Tryd.prog) (e := 58) (z := .agg #[.int .i64 0, .int .i64 0]) (size := 2) (bytes := 16) (by kernel_rfl)
  have HT := Lib.hid ht
  have cw : IntKind.i64.wrap (n : Int) = (n : Int) := Go.IntWalk.i64_in _ (by omega)
  clear q0 w0 ht
  go_enter Tryd.func8, Tryd.ntmps8
  go_wp2_with fail
  refine (At.examples_any w HT.out).mono ?_
  rintro e v1 ⟨rfl, hb⟩
  have B := Lib.hid hb
  clear hb
  go_wp2_with fail
  have HNN := Lib.hid hn
  clear hn
  have HB : Hid (Bd w v1.heap.size (.slice none 0 0) (upto 0) (v1.alloc (.cells #[.int .u32 7, .slice none 0 0] 25))) := Lib.hid ⟨Bl.Pair.new _ _ _ _, World.ownsRow_nil _ _ _ _, B.out.alloc B.out.size _, B.out.size⟩
  clear B
  generalize v1.heap.size = g at *
  generalize v1.alloc (.cells #[.int .u32 7, .slice none 0 0] 25) = v2 at *
  go_loopw [8] (fun i W => ∃ (k : Nat) (v : Value), k ≤ n ∧ i = .int .i64 (k : Int) ∧ Hid (Bd w g v (upto k) W)) (fun i _ => n - (intOf i).toNat)
  case atStart => exact ⟨0, _, Nat.zero_le _, rfl, HB⟩
  case round =>
    clear HB
    obtain ⟨k, v, hk, rfl, hB⟩ := hrel
    obtain ⟨ao, cv, rfl, _⟩ := Dp.Idz.own hB.out.row
    rw [upto_length k] at hB
    by_cases hlt : k < n
    · have ⟨A0, A1, A2, A3, A4⟩ := hB.out.pr
      have hl := upto_length k
      have hrow := hB.out.row
      rw [hl] at hrow
      have HRW := Lib.hid hrow
      clear hl hrow
      go_wp2_with (at_builtin; refine wpList_append_own _ rfl _ _ 23 rfl (g + 1) 58 i0 (.agg #[.int .i64 0, .int .i64 0]) 2 16 Tryd.underlying23 hi hz0 hz1 hz2 rfl (by decide) _ _ _ rfl (HRW.out.alloc _) ⟨wr.heap.size, 0, none⟩ 1 1 [.int .i64 3, .int .i64 ((k : Int) + 1)] rfl rfl (Dp.news_two _ _ _ _) (by simp [Value.oneCell']) (by unfold maxLen; omega) (by omega) (by simp; omega) ?_)
      intro v' w6 hown hgrow _
      obtain ⟨ao2, cv2, rfl⟩ : ∃ ao2 cv2, v' = .slice ao2 (k + 1) cv2 := by
        obtain ⟨ao2, cv2, e, _⟩ := Dp.Idz.own (xs := upto (k + 1)) (B := g + 1) (t := 58) (v := v') (w := w6) (by rw [upto_length, upto_next, Dp.cellsD_append]; exact hown)
        exact ⟨ao2, cv2, by rw [e, upto_length]⟩
      have hG := hB.out.grown (x := (3, (k : Int) + 1)) hgrow (by rw [Dp.cellsD_append, List.length_append, List.length_singleton, upto_length]; exact hown)
      rw [← upto_next] at hG
      have HG := Lib.hid hG.2
      have ⟨D0, D1, D2, D3, D4⟩ := hG.1
      clear hG hown hgrow A0 A1 A2 A3 A4
      go_wp2
      exact ⟨⟨k + 1, _, by omega, by go_num, HG⟩, by simp [intOf]; omega⟩
    · obtain rfl : k = n := by omega
      have hl := upto_length k
      have LN := Lib.hid hl
      clear hlt
      by_cases h4 : k ≤ 400
      · cases a1 with
        | false =>
          obtain ⟨ao, cv, e, ia⟩ := Dp.Idz.own hB.out.row
          rw [hl] at e
          cases e
          have IA := Lib.hid ia
          have PA := Lib.hid hB.out.pr
          have B := Lib.hid hB.out.bel
          clear ia hB
          have LS : Hid ((upto k).length ≤ 1048576) := Lib.hid (by omega)
          have i4 : (k : Int) ≤ 400 := by omega
          have i5 : decide (400 < (k : Int)) = false := by rw [decide_eq_false_iff_not]; omega
          have hr : At.rightA (7, upto k) = true := (At.right_iff _).2 ⟨upto_set k (by omega), by show (upto k).length ≤ 400; omega⟩
          have HR := Lib.hid hr
          obtain ⟨sx, hp, hsz⟩ := At.put_yes 7 (upto k) (upto_set k (by omega)) (by omega)
          have HP := Lib.hid hp
          have hn2 : (sx.toList == []) = false := by
            rw [ByteArray.toList_eq, beq_eq_false_iff_ne]; intro h; have := Pk.size_of_nil sx h; omega
          clear hr hp hsz hl
          have ⟨pa_0, pa_1, pa_2, pa_3, pa_4⟩ := PA.out
          go_wp2_with fail
          refine (At.put_len 7 (by decide) (upto k) k LN.out sx true HP.out LS.out ao cv wr IA.out.toIds).mono ?_
          rintro e v1 ⟨rfl, hb⟩
          clear pa_0 pa_1 pa_2 pa_3 pa_4
          replace PA := Lib.hid (PA.out.over hb)
          replace IA := Lib.hid (IA.out.kept hb)
          replace B := Lib.hid (B.out.trans (hb.mono B.out.size))
          clear hb
          have ⟨pa_0, pa_1, pa_2, pa_3, pa_4⟩ := PA.out
          go_wp2_with fail
          refine (At.right_len 7 (upto k) k LN.out true HR.out ao cv v1 IA.out.toIds).mono ?_
          rintro e v2 ⟨rfl, hb⟩
          clear pa_0 pa_1 pa_2 pa_3 pa_4
          replace PA := Lib.hid (PA.out.over hb)
          replace IA := Lib.hid (IA.out.kept hb)
          replace B := Lib.hid (B.out.trans (hb.mono B.out.size))
          clear hb
          go_wp2
          go_ret
          exact ⟨rfl, B.out⟩
        | true =>
          by_cases h2 : k < 2
          · have i2 : (k : Int) < 2 := by omega
            obtain ⟨ao, cv, e, ia⟩ := Dp.Idz.own hB.out.row
            rw [hl] at e
            cases e
            have IA := Lib.hid ia
            have PA := Lib.hid hB.out.pr
            have B := Lib.hid hB.out.bel
            clear ia hB
            have LS : Hid ((upto k).length ≤ 1048576) := Lib.hid (by omega)
            have i4 : (k : Int) ≤ 400 := by omega
            have i5 : decide (400 < (k : Int)) = false := by rw [decide_eq_false_iff_not]; omega
            have hr : At.rightA (7, upto k) = true := (At.right_iff _).2 ⟨upto_set k (by omega), by show (upto k).length ≤ 400; omega⟩
            have HR := Lib.hid hr
            obtain ⟨sx, hp, hsz⟩ := At.put_yes 7 (upto k) (upto_set k (by omega)) (by omega)
            have HP := Lib.hid hp
            have hn2 : (sx.toList == []) = false := by
              rw [ByteArray.toList_eq, beq_eq_false_iff_ne]; intro h; have := Pk.size_of_nil sx h; omega
            clear hr hp hsz hl
            have ⟨pa_0, pa_1, pa_2, pa_3, pa_4⟩ := PA.out
            go_wp2_with fail
            refine (At.put_len 7 (by decide) (upto k) k LN.out sx true HP.out LS.out ao cv wr IA.out.toIds).mono ?_
            rintro e v1 ⟨rfl, hb⟩
            clear pa_0 pa_1 pa_2 pa_3 pa_4
            replace PA := Lib.hid (PA.out.over hb)
            replace IA := Lib.hid (IA.out.kept hb)
            replace B := Lib.hid (B.out.trans (hb.mono B.out.size))
            clear hb
            have ⟨pa_0, pa_1, pa_2, pa_3, pa_4⟩ := PA.out
            go_wp2_with fail
            refine (At.right_len 7 (upto k) k LN.out true HR.out ao cv v1 IA.out.toIds).mono ?_
            rintro e v2 ⟨rfl, hb⟩
            clear pa_0 pa_1 pa_2 pa_3 pa_4
            replace PA := Lib.hid (PA.out.over hb)
            replace IA := Lib.hid (IA.out.kept hb)
            replace B := Lib.hid (B.out.trans (hb.mono B.out.size))
            clear hb
            go_wp2
            go_ret
            exact ⟨rfl, B.out⟩
          · skip
            have i2 : 2 ≤ (k : Int) := by omega
            have i4 : (k : Int) ≤ 400 := by omega
            obtain ⟨gr, cv, e, hgr, hgs, ia, fz⟩ := hB.out.two (by omega)
            rw [hl] at e
            cases e
            have IA := Lib.hid ia
            have PA := Lib.hid hB.out.pr
            have B := Lib.hid hB.out.bel
            have hgw := hB.out.hg
            have FZ := Lib.hid fz
            have hcv : 2 ≤ cv := by have := ia.le; omega
            have hkc : k ≤ cv := by have := ia.le; omega
            have lcv : cv ≤ 9223372036854775807 := ia.capl
            clear ia hB fz
            have n1 : ¬ gr = g := by omega
            have n2 : ¬ g = gr := by omega
            have ⟨c0, c1⟩ := idz_cells IA.out (i := 0) (by omega) 3 1 (upto_at k 0 (by omega))
            have ⟨c2, c3⟩ := idz_cells IA.out (i := 1) (by omega) 3 2 (upto_at k 1 (by omega))
            simp only [Nat.zero_mul, Nat.one_mul, Nat.zero_add, Nat.reduceAdd] at c0 c1 c2 c3
            have f0 := FZ.out.fz 0
            have f1 := FZ.out.fz 1
            have f2 := FZ.out.fz 2
            have f3 := FZ.out.fz 3
            have ⟨pa_0, pa_1, pa_2, pa_3, pa_4⟩ := PA.out
            go_wp2_with fail
            have hb := Bl.below_1 wr (.cells #[.int .i64 3, .int .i64 1] 58)
            clear c0 c1 c2 c3 f0 f1 f2 f3 pa_0 pa_1 pa_2 pa_3 pa_4
            replace PA := Lib.hid (PA.out.over hb)
            replace IA := Lib.hid (IA.out.kept hb)
            replace FZ := Lib.hid (FZ.out.over hb)
            replace B := Lib.hid (B.out.trans (hb.mono B.out.size))
            have PX := Lib.hid (Bl.Pair.newAt (wr) (.int .i64 3) (.int .i64 1) 58 (wr.heap.size) (by simp))
            generalize wr.alloc (.cells #[.int .i64 3, .int .i64 1] 58) = v1 at *
            generalize wr.heap.size = g1 at *
            clear hb
            have ⟨c0, c1⟩ := idz_cells IA.out (i := 0) (by omega) 3 1 (upto_at k 0 (by omega))
            have ⟨c2, c3⟩ := idz_cells IA.out (i := 1) (by omega) 3 2 (upto_at k 1 (by omega))
            simp only [Nat.zero_mul, Nat.one_mul, Nat.zero_add, Nat.reduceAdd] at c0 c1 c2 c3
            have f0 := FZ.out.fz 0
            have f1 := FZ.out.fz 1
            have f2 := FZ.out.fz 2
            have f3 := FZ.out.fz 3
            have ⟨pa_0, pa_1, pa_2, pa_3, pa_4⟩ := PA.out
            have ⟨px_0, px_1, px_2, px_3, px_4⟩ := PX.out
            go_region
            go_wp2_with fail
            have ib : Dp.Idz ((((v1.setCell ⟨gr, 0, none⟩ (.int .i64 3)).setCell ⟨gr, 1, none⟩ (.int .i64 2)).setCell ⟨gr, 2, none⟩ (.int .i64 3)).setCell ⟨gr, 3, none⟩ (.int .i64 1)) (some ⟨gr, 0, none⟩) cv (swapped k) := idz_store (idz_store IA.out 0 (by omega) 3 2) 1 (by rw [List.length_set]; omega) 3 1
            clear c0 c1 c2 c3 f0 f1 f2 f3 pa_0 pa_1 pa_2 pa_3 pa_4 px_0 px_1 px_2 px_3 px_4
            replace IA := Lib.hid (ib.kept (Below.refl _ _).drew)
            clear ib
            replace PA := Lib.hid ((((PA.out.far ⟨gr, 0, none⟩ n1 (.int .i64 3)).far ⟨gr, 1, none⟩ n1 (.int .i64 2)).far ⟨gr, 2, none⟩ n1 (.int .i64 3)).far ⟨gr, 3, none⟩ n1 (.int .i64 1)).drew
            have hgl : w.heap.size ≤ gr := by omega
            replace B := Lib.hid ((((B.out.setCell (p := ⟨gr, 0, none⟩) hgl (.int .i64 3)).setCell (p := ⟨gr, 1, none⟩) hgl (.int .i64 2)).setCell (p := ⟨gr, 2, none⟩) hgl (.int .i64 3)).setCell (p := ⟨gr, 3, none⟩) hgl (.int .i64 1)).drew
            clear FZ PX
            generalize ((((v1.setCell ⟨gr, 0, none⟩ (.int .i64 3)).setCell ⟨gr, 1, none⟩ (.int .i64 2)).setCell ⟨gr, 2, none⟩ (.int .i64 3)).setCell ⟨gr, 3, none⟩ (.int .i64 1)).drew = v9 at *
            have HR := Lib.hid (swapped_wrong k (by omega))
            have HP := Lib.hid (put_no 7 _ HR.out)
            have LS : Hid ((swapped k).length ≤ 1048576) := Lib.hid (by rw [swapped_length]; omega)
            replace LN := Lib.hid (swapped_length k)
            refine (At.put_len 7 (by decide) (swapped k) k LN.out ⟨#[]⟩ false HP.out LS.out (some ⟨gr, 0, none⟩) cv v9 IA.out.toIds).mono ?_
            rintro e v10 ⟨rfl, hb⟩
            replace PA := Lib.hid (PA.out.over hb)
            replace IA := Lib.hid (IA.out.kept hb)
            replace B := Lib.hid (B.out.trans (hb.mono B.out.size))
            clear hb
            have ⟨pa_0, pa_1, pa_2, pa_3, pa_4⟩ := PA.out
            go_wp2_with fail
            refine (At.right_len 7 (swapped k) k LN.out false HR.out (some ⟨gr, 0, none⟩) cv v10 IA.out.toIds).mono ?_
            rintro e v11 ⟨rfl, hb⟩
            clear pa_0 pa_1 pa_2 pa_3 pa_4
            replace PA := Lib.hid (PA.out.over hb)
            replace IA := Lib.hid (IA.out.kept hb)
            replace B := Lib.hid (B.out.trans (hb.mono B.out.size))
            clear hb
            go_wp2
            go_ret
            exact ⟨rfl, B.out⟩
      · cases a1 with
        | false =>
          obtain ⟨ao, cv, e, ia⟩ := Dp.Idz.own hB.out.row
          rw [hl] at e
          cases e
          have IA := Lib.hid ia
          have PA := Lib.hid hB.out.pr
          have B := Lib.hid hB.out.bel
          clear ia hB
          have LS : Hid ((upto k).length ≤ 1048576) := Lib.hid (by omega)
          have i4 : ¬ ((k : Int) ≤ 400) := by omega
          have hr : At.rightA (7, upto k) = false := by
            rw [Bool.eq_false_iff]
            intro h
            have := ((At.right_iff _).1 h).2
            have h2 : (upto k).length ≤ 400 := this
            omega
          have HR := Lib.hid hr
          have HP := Lib.hid (put_no 7 _ hr)
          clear hr hl
          have ⟨pa_0, pa_1, pa_2, pa_3, pa_4⟩ := PA.out
          go_wp2_with fail
          refine (At.put_len 7 (by decide) (upto k) k LN.out ⟨#[]⟩ false HP.out LS.out ao cv wr IA.out.toIds).mono ?_
          rintro e v1 ⟨rfl, hb⟩
          clear pa_0 pa_1 pa_2 pa_3 pa_4
          replace PA := Lib.hid (PA.out.over hb)
          replace IA := Lib.hid (IA.out.kept hb)
          replace B := Lib.hid (B.out.trans (hb.mono B.out.size))
          clear hb
          have ⟨pa_0, pa_1, pa_2, pa_3, pa_4⟩ := PA.out
          go_wp2_with fail
          refine (At.right_len 7 (upto k) k LN.out false HR.out ao cv v1 IA.out.toIds).mono ?_
          rintro e v2 ⟨rfl, hb⟩
          clear pa_0 pa_1 pa_2 pa_3 pa_4
          replace PA := Lib.hid (PA.out.over hb)
          replace IA := Lib.hid (IA.out.kept hb)
          replace B := Lib.hid (B.out.trans (hb.mono B.out.size))
          clear hb
          go_wp2
          go_ret
          exact ⟨rfl, B.out⟩
        | true =>
          have i2 : 2 ≤ (k : Int) := by omega
          have i4 : ¬ ((k : Int) ≤ 400) := by omega
          obtain ⟨gr, cv, e, hgr, hgs, ia, fz⟩ := hB.out.two (by omega)
          rw [hl] at e
          cases e
          have IA := Lib.hid ia
          have PA := Lib.hid hB.out.pr
          have B := Lib.hid hB.out.bel
          have hgw := hB.out.hg
          have FZ := Lib.hid fz
          have hcv : 2 ≤ cv := by have := ia.le; omega
          have hkc : k ≤ cv := by have := ia.le; omega
          have lcv : cv ≤ 9223372036854775807 := ia.capl
          clear ia hB fz
          have n1 : ¬ gr = g := by omega
          have n2 : ¬ g = gr := by omega
          have ⟨c0, c1⟩ := idz_cells IA.out (i := 0) (by omega) 3 1 (upto_at k 0 (by omega))
          have ⟨c2, c3⟩ := idz_cells IA.out (i := 1) (by omega) 3 2 (upto_at k 1 (by omega))
          simp only [Nat.zero_mul, Nat.one_mul, Nat.zero_add, Nat.reduceAdd] at c0 c1 c2 c3
          have f0 := FZ.out.fz 0
          have f1 := FZ.out.fz 1
          have f2 := FZ.out.fz 2
          have f3 := FZ.out.fz 3
          have ⟨pa_0, pa_1, pa_2, pa_3, pa_4⟩ := PA.out
          go_wp2_with fail
          have hb := Bl.below_1 wr (.cells #[.int .i64 3, .int .i64 1] 58)
          clear c0 c1 c2 c3 f0 f1 f2 f3 pa_0 pa_1 pa_2 pa_3 pa_4
          replace PA := Lib.hid (PA.out.over hb)
          replace IA := Lib.hid (IA.out.kept hb)
          replace FZ := Lib.hid (FZ.out.over hb)
          replace B := Lib.hid (B.out.trans (hb.mono B.out.size))
          have PX := Lib.hid (Bl.Pair.newAt (wr) (.int .i64 3) (.int .i64 1) 58 (wr.heap.size) (by simp))
          generalize wr.alloc (.cells #[.int .i64 3, .int .i64 1] 58) = v1 at *
          generalize wr.heap.size = g1 at *
          clear hb
          have ⟨c0, c1⟩ := idz_cells IA.out (i := 0) (by omega) 3 1 (upto_at k 0 (by omega))
          have ⟨c2, c3⟩ := idz_cells IA.out (i := 1) (by omega) 3 2 (upto_at k 1 (by omega))
          simp only [Nat.zero_mul, Nat.one_mul, Nat.zero_add, Nat.reduceAdd] at c0 c1 c2 c3
          have f0 := FZ.out.fz 0
          have f1 := FZ.out.fz 1
          have f2 := FZ.out.fz 2
          have f3 := FZ.out.fz 3
          have ⟨pa_0, pa_1, pa_2, pa_3, pa_4⟩ := PA.out
          have ⟨px_0, px_1, px_2, px_3, px_4⟩ := PX.out
          go_region
          go_wp2_with fail
          have ib : Dp.Idz ((((v1.setCell ⟨gr, 0, none⟩ (.int .i64 3)).setCell ⟨gr, 1, none⟩ (.int .i64 2)).setCell ⟨gr, 2, none⟩ (.int .i64 3)).setCell ⟨gr, 3, none⟩ (.int .i64 1)) (some ⟨gr, 0, none⟩) cv (swapped k) := idz_store (idz_store IA.out 0 (by omega) 3 2) 1 (by rw [List.length_set]; omega) 3 1
          clear c0 c1 c2 c3 f0 f1 f2 f3 pa_0 pa_1 pa_2 pa_3 pa_4 px_0 px_1 px_2 px_3 px_4
          replace IA := Lib.hid (ib.kept (Below.refl _ _).drew)
          clear ib
          replace PA := Lib.hid ((((PA.out.far ⟨gr, 0, none⟩ n1 (.int .i64 3)).far ⟨gr, 1, none⟩ n1 (.int .i64 2)).far ⟨gr, 2, none⟩ n1 (.int .i64 3)).far ⟨gr, 3, none⟩ n1 (.int .i64 1)).drew
          have hgl : w.heap.size ≤ gr := by omega
          replace B := Lib.hid ((((B.out.setCell (p := ⟨gr, 0, none⟩) hgl (.int .i64 3)).setCell (p := ⟨gr, 1, none⟩) hgl (.int .i64 2)).setCell (p := ⟨gr, 2, none⟩) hgl (.int .i64 3)).setCell (p := ⟨gr, 3, none⟩) hgl (.int .i64 1)).drew
          clear FZ PX
          generalize ((((v1.setCell ⟨gr, 0, none⟩ (.int .i64 3)).setCell ⟨gr, 1, none⟩ (.int .i64 2)).setCell ⟨gr, 2, none⟩ (.int .i64 3)).setCell ⟨gr, 3, none⟩ (.int .i64 1)).drew = v9 at *
          have HR := Lib.hid (swapped_wrong k (by omega))
          have HP := Lib.hid (put_no 7 _ HR.out)
          have LS : Hid ((swapped k).length ≤ 1048576) := Lib.hid (by rw [swapped_length]; omega)
          replace LN := Lib.hid (swapped_length k)
          refine (At.put_len 7 (by decide) (swapped k) k LN.out ⟨#[]⟩ false HP.out LS.out (some ⟨gr, 0, none⟩) cv v9 IA.out.toIds).mono ?_
          rintro e v10 ⟨rfl, hb⟩
          replace PA := Lib.hid (PA.out.over hb)
          replace IA := Lib.hid (IA.out.kept hb)
          replace B := Lib.hid (B.out.trans (hb.mono B.out.size))
          clear hb
          have ⟨pa_0, pa_1, pa_2, pa_3, pa_4⟩ := PA.out
          go_wp2_with fail
          refine (At.right_len 7 (swapped k) k LN.out false HR.out (some ⟨gr, 0, none⟩) cv v10 IA.out.toIds).mono ?_
          rintro e v11 ⟨rfl, hb⟩
          clear pa_0 pa_1 pa_2 pa_3 pa_4
          replace PA := Lib.hid (PA.out.over hb)
          replace IA := Lib.hid (IA.out.kept hb)
          replace B := Lib.hid (B.out.trans (hb.mono B.out.size))
          clear hb
          go_wp2
          go_ret
          exact ⟨rfl, B.out⟩

theorem laid_met (os : Os) : laidMet Tryd.prog Rows.attrBoundsRow.laid ((World.doorLaid Tryd.prog 24 os).forCall (fun _ _ => 0) ⟨#[], #[.int .u16 0, .bool false], []⟩).memory :=
  laidMet_of_run' 8 (by kernel_rfl) (by kernel_rfl)
theorem reads (os : Os) {H : Type} (enc : TypeId × Value → H) : ∃ places, DataW.whole enc Tryd.prog ((World.doorLaid Tryd.prog 24 os).forCall (fun _ _ => 0) ⟨#[], #[.int .u16 0, .bool false], []⟩).memory Tryd.f8.params.toList Rows.attrBoundsSpec.vars false (#[.int .u16 0, .bool false] : Array Value).toList 8 = some ([.lit (.int .u16 0), .lit (.bool false)], [], places) :=
  ⟨[], by kernel_rfl⟩

set_option maxRecDepth 100000 in
theorem lifted (os : Os) (started : os.Started) (H : Type) (enc : TypeId × Value → H) (F : Stop.Interp) :
    ReturnsInHanded {} Tryd.checked os 8 .any ((OpenSpec.ofChange Rows.attrBoundsSpec).preRow enc Tryd.prog Tryd.f8 Rows.attrBoundsRow.domain false Rows.attrBoundsRow.laid) (((OpenSpec.ofChange Rows.attrBoundsSpec).at F).post enc Tryd.prog Tryd.f8 false true false false) := by
  obtain ⟨places, hx⟩ := reads os enc
  refine returnsInHanded_of_row (C := Tryd.checked) (s := OpenSpec.ofChange Rows.attrBoundsSpec) own started (by kernel_rfl) Tryd.func8
    (witness_row_at (enc := enc) (C := Tryd.checked) false (World.doorLaid Tryd.prog 24 os) #[.int .u16 0, .bool false] rfl (by kernel_rfl) (by kernel_rfl) (by kernel_rfl)
      (OpenSpec.preRow_of_cond 8 hx (by kernel_rfl) (fun k hk => by cases hk) (by kernel_rfl) (laid_met os))) ?_
  intro W base args ds gs before hval0 hW _ _ hsz0 hL _ _
  have hval : ∀ (j : Nat) t v, Tryd.f8.params[j]? = some t → args[j]? = some v → Value.okWide Tryd.prog W .any base t v := hval0
  have hsz : (DataW.weightsEach Tryd.prog (Tryd.f8.params.toList ++ Rows.attrBoundsSpec.plain.varTypes Tryd.prog) (ds ++ gs)).all (· ≤ reachBytes) = true := hsz0
  have hW' := hW
  obtain ⟨p, q, hA0, hV, rfl, hfz, hnd⟩ := hW
  have hA : DataW.TrodAll enc Tryd.prog W 0 (fun _ => true) true Tryd.f8.params.toList args.toList ds p := hA0
  rw [Tryd.params8] at hA hval hsz
  obtain ⟨v0, vs0, d0, ds0, p0, q0, hargs, rfl, rfl, h0, r0⟩ := trodAll_cons hA
  obtain ⟨v1, vs1, d1, ds1, p1, q1, rfl, rfl, rfl, h1, r1⟩ := trodAll_cons r0
  obtain ⟨rfl, rfl, rfl⟩ := trodAll_nil r1
  obtain rfl : args = #[v0, v1] := by cases args; simp_all
  obtain ⟨rfl, rfl⟩ := trodVars_none hV
  obtain ⟨a0, rfl, rfl, rfl, w0⟩ := open_int Tryd.underlying60 (hval 0 60 v0 rfl rfl) h0
  obtain ⟨a1, rfl, rfl, rfl⟩ := open_bool Tryd.underlying4 (hval 1 4 v1 rfl rfl) h1
  clear hA0 hval0
  refine (walk a0 a1 W w0 (Bl.tab_of hL)).mono fun e W' ⟨he, bel⟩ => ?_
  subst he
  exact ⟨_, rfl, _, _, _, [], _, [], hW', trodAll_mk1 (shut_bool Tryd.underlying4 _), (trodAll_cons_mk (shut_int Tryd.underlying60 w0) (trodAll_cons_mk (shut_bool Tryd.underlying4 _) trodAll_mk0)), rfl, bel.frame _, fun h => by cases h⟩

theorem over : Rows.attrBoundsRow.holds Tryd.pinned (OpenSpec.ofChange Rows.attrBoundsSpec) :=
  OpenClaim.holds_of_cond 8 Tryd.f8 rfl rfl rfl rfl rfl rfl rfl ⟨rfl, rfl, rfl, rfl, rfl⟩ rfl rfl rfl rfl rfl (by kernel_rfl) Tryd.func8 (by kernel_rfl)
    (of_decide_eq_true (by kernel_rfl)) (by unfold Func.isWrapper; first | (rw [if_pos (by decide +kernel)]; kernel_rfl) | (rw [if_neg (by decide +kernel)]; exact ⟨rfl, rfl⟩))
    (fun os started H enc _ F => by rw [OpenClaim.pre_eq_preRow]; exact lifted os started H enc F)

/-- No parameter wants a stand-in. -/
theorem plain (f : FuncId) (fn : Func) (hf : Tryd.pinned.checked.prog.funcNamed "comitia/comitialaw09.AttrBounds" = some f) (hfn : Tryd.pinned.checked.prog.funcs[f]? = some fn) :
    false = Tryd.pinned.checked.prog.looks [] ∧ ∀ (j : Nat) t, fn.params[j]? = some t → Tryd.pinned.checked.prog.wantsStandIn t = false := by
  obtain rfl : f = 8 := Option.some.inj ((show Tryd.prog.funcNamed "comitia/comitialaw09.AttrBounds" = some 8 by kernel_rfl).symm.trans hf) |>.symm
  obtain rfl : fn = Tryd.f8 := (Option.some.inj (Tryd.func8.symm.trans hfn)).symm
  refine ⟨by kernel_rfl, fun j t ht => ?_⟩
  rw [Tryd.params8] at ht
  have hm : t ∈ [60, 4] := by simpa using Array.mem_of_getElem? ht
  have hall : ([60, 4].all fun u => !Tryd.prog.wantsStandIn u) = true := by kernel_rfl
  exact (show Tryd.prog.wantsStandIn t = false by simpa using List.all_eq_true.1 hall t hm)

theorem proved : Rows.AttrBoundsCardSaid :=
  Claim7.holds_tied_plain_at .later [] _ _ _ _ over (fun _ h => by cases h) (by kernel_rfl) (fun _ h => by cases h) attrBounds_row_tie rfl ⟨rfl, rfl⟩ (by kernel_rfl) rfl plain (by kernel_rfl)
end Go.Proofs.YtkemljpjfbmjgaaDoor.attrBounds
