/-
  Contract: a set read off bytes, the document's. Conditions: as the theorem says.
-/
import Derived.Test.YtkemljpjfbmjgaaDoorDepsG
import Derived.Test.YtkemljpjfbmjgaaDoorDepsU
import Derived.Deep.DeepCutAuto
namespace Go.Proofs.YtkemljpjfbmjgaaDoor.Dp
open Go.RowKit
set_option maxRecDepth 100000
open Pk (number)
open Bl (Pair below_set2 below_then)

theorem pair_grown {W W' : World} {g : Nat} {u v : Value} {row : Option Nat} (h : Pair W g u v) (hg : W.grownBy W' row) (hne : row ≠ some g) : Pair W' g u v := by
  have hb : W'.heap[g]? = W.heap[g]? := hg.block g h.1 (fun e => hne e.symm)
  have hc : ∀ i, W'.cell? ⟨g, i, none⟩ = W.cell? ⟨g, i, none⟩ := fun i => World.cell?_of_block (w := W) hb
  have hf : ∀ i, W'.frozen? ⟨g, i, none⟩ = W.frozen? ⟨g, i, none⟩ := fun i => World.frozen?_of_block (w := W) hb
  exact ⟨Nat.lt_of_lt_of_le h.1 hg.size, (hc 0).trans h.2.1, (hc 1).trans h.2.2.1, (hf 0).trans h.2.2.2.1, (hf 1).trans h.2.2.2.2⟩
/-- the block of the result, that of the reader so far, and what has been read -/
structure Gb (w : World) (X : Nat) (v : Value) (l : List ID) (s : ByteArray) (b : Bool) (W : World) : Prop where
  rs : Pair W (w.heap.size + 1) (.string ⟨#[]⟩) (.bool false)
  rd : Pair W X (.string s) (.bool b)
  row : W.ownsRow (X + 1) 72 2 v l.length (cellsD l)
  bel : Below w.heap.size w W
  far : w.heap.size + 2 ≤ X
section
variable {w W W' : World} {X : Nat} {v v' : Value} {l l' : List ID} {s s' : ByteArray} {b b' : Bool}
theorem Gb.over (h : Gb w X v l s b W) (hb : Below W.heap.size W W') : Gb w X v l s b W' :=
  ⟨h.rs.over hb, h.rd.over hb, row_over h.row hb, below_then h.bel hb (by have := h.rs.1; omega), h.far⟩
theorem Gb.put (h : Gb w X v l s b W) (s' : ByteArray) (b' : Bool) : Gb w X v l s' b' ((W.setCell ⟨X, 0, none⟩ (.string s')).setCell ⟨X, 1, none⟩ (.bool b')) :=
  ⟨h.rs.far2 X (by have := h.far; omega) _ _, h.rd.put _ _, row_set (row_set h.row fun j hj => by have := (h.row.lt j hj).1; omega) (fun j hj => by have := (h.row.lt j hj).1; omega), below_set2 h.bel (by have := h.far; omega) _ _, h.far⟩
theorem Gb.grown (h : Gb w X v l s b W) (hg : W.grownBy W' v.ownBlock) (ho : W'.ownsRow (X + 1) 72 2 v' l'.length (cellsD l')) : Gb w X v' l' s b W' := by
  have hb : Below (X + 1) W W' := (Below.refl _ _).grown hg (by have := h.rd.1; omega) (fun k hk => (h.row.lt k hk).1)
  have hf := h.far
  exact ⟨h.rs.keep hb (by omega), h.rd.keep hb (by omega), ho, h.bel.trans (hb.mono (by omega)), h.far⟩
end
/-- what it comes by, and what it answers -/
theorem getD_way2 (s : ByteArray) (b : Bool) (l : List ID) (t : ByteArray) (c : Bool) (h : getD s b = (l, t, c)) :
    ∃ (n : Nat) (y0 : ByteArray) (z0 : Bool) (xs : List ID) (y : ByteArray) (z : Bool), number s b 2 = (n, y0, z0) ∧ n < 65536 ∧ y0.size ≤ s.size ∧ readN (min n 401) y0 z0 = (xs, y, z) ∧ xs.length = min n 401 ∧
        ((z = false ∧ xs.length ≤ 400 ∧ setD xs = true ∧ l = xs ∧ t = y ∧ c = false) ∨ ((z = true ∨ (z = false ∧ 400 < xs.length) ∨ (z = false ∧ xs.length ≤ 400 ∧ setD xs = false)) ∧ l = [] ∧ t = ⟨#[]⟩ ∧ c = true)) := by
  obtain ⟨n, y0, z0, h0⟩ := triple (number s b 2)
  have l1 := Pk.number_lt s b 2
  have k1 := Pk.number_size s b 2
  rw [show ((2 : Nat) : Int) = 2 from rfl, h0] at l1
  rw [h0] at k1
  simp only at l1 k1
  obtain ⟨xs, y, z, hx⟩ := triple (readN (min n 401) y0 z0)
  have hlen := readN_length (min n 401) y0 z0
  rw [hx] at hlen
  simp only at hlen
  refine ⟨n, y0, z0, xs, y, z, h0, by omega, k1, hx, hlen, ?_⟩
  unfold getD at h
  rw [h0] at h
  simp only [hx] at h
  by_cases hc : z = false ∧ xs.length ≤ 400 ∧ setD xs = true
  · rw [if_pos hc] at h
    simp only [Prod.mk.injEq] at h
    exact .inl ⟨hc.1, hc.2.1, hc.2.2, h.1.symm, h.2.1.symm, h.2.2.symm⟩
  · rw [if_neg hc] at h
    simp only [Prod.mk.injEq] at h
    refine .inr ⟨?_, h.1.symm, h.2.1.symm, h.2.2.symm⟩
    cases z
    · right
      by_cases hl : xs.length ≤ 400
      · right
        refine ⟨rfl, hl, ?_⟩
        cases hp : setD xs
        · rfl
        · exact absurd ⟨rfl, hl, hp⟩ hc
      · exact .inl ⟨rfl, by omega⟩
    · exact .inl rfl

set_option maxRecDepth 100000 in
set_option maxHeartbeats 1000000 in
theorem refget_any (s : ByteArray) (b : Bool) (l : List ID) (t : ByteArray) (c : Bool) (h : getD s b = (l, t, c)) (hs : s.size ≤ maxLen) (w : World) :
    Calls Tryd.prog 43 #[.agg #[.string s, .bool b]] w fun e w' => ∃ v cv, e = .returned (.tuple #[.slice v l.length cv, .agg #[.string t, .bool c]]) ∧ Idz w' v cv l ∧ Below w.heap.size w w' := by
  obtain ⟨n, y0, z0, xs, y, z, h0, hn, k0, hx, hlen, hend⟩ := getD_way2 s b l t c h
  obtain ⟨i0, hi, hz0, hz1, hz2⟩ := info_parts (P := Tryd.prog) (e := 72) (z := .agg #[.int .i64 0, .int .i64 0]) (size := 2) (bytes := 16) (by kernel_rfl)
  have H0 := Lib.hid h0
  have hy0 : y0.size ≤ maxLen := Nat.le_trans k0 hs
  have HX := Lib.hid hx
  have HE := Lib.hid hend
  obtain ⟨K, hK⟩ : ∃ K, min n 401 = K := ⟨_, rfl⟩
  rw [hK] at HX
  have HLEN := Lib.hid (hlen.trans hK)
  have hK1 : K ≤ n := by omega
  have hK2 : K ≤ 401 := by omega
  have hK3 : n ≤ K ∨ 401 ≤ K := by omega
  clear h h0 k0 hx hend hlen hK
  go_enter Tryd.func43, Tryd.ntmps43
  go_wp2_with fail
  refine (Pk.refnumber_any s b 2 n y0 z0 H0.out hs _).mono ?_
  rintro e w1 ⟨rfl, hb⟩
  obtain ⟨_, g2, g3⟩ := Bl.two hb
  clear hb
  go_wp2_with fail
  have hG0 : Gb w w1.heap.size (.slice none 0 0) [] y0 z0 (w1.alloc (.cells #[.string y0, .bool z0] 52)) :=
    ⟨g2.over (Bl.below_1 _ _), Pair.new _ _ _ _, World.ownsRow_nil _ _ _ _, below_then g3 (Bl.below_1 _ _) g3.size, by have := g2.1; omega⟩
  have HG0 := Lib.hid hG0
  generalize w1.alloc (.cells #[.string y0, .bool z0] 52) = w2 at *
  generalize w1.heap.size = X at *
  clear g2 g3 hG0
  go_loopw [6, 7] (fun v i W => ∃ (k : Nat) (ys : List ID) (u : ByteArray) (a : Bool), k ≤ K ∧ i = .int .u64 (k : Int) ∧ Hid (readN k y0 z0 = (ys, u, a)) ∧ Hid (Gb w X v ys u a W)) (fun _ i _ => K - (intOf i).toNat)
  case atStart => exact ⟨0, [], y0, z0, Nat.zero_le _, rfl, Lib.hid rfl, HG0⟩
  case round =>
    clear HG0
    obtain ⟨k, ys, u, a, hk, rfl, hr, hG⟩ := hrel
    by_cases hlt : k < K
    · obtain ⟨m, y1, z1, e1⟩ := triple (number u a 1)
      obtain ⟨j, y2, z2, e2⟩ := triple (number y1 z1 3)
      have hu : u.size ≤ maxLen := by
        have := readN_size k y0 z0
        rw [hr.out] at this
        exact Nat.le_trans this hy0
      have hu1 : y1.size ≤ maxLen := by
        have := Pk.number_size u a 1
        rw [e1] at this
        exact Nat.le_trans this hu
      have l1 := Pk.number_lt u a 1
      have l2 := Pk.number_lt y1 z1 3
      rw [show ((1 : Nat) : Int) = 1 from rfl, e1] at l1
      rw [show ((3 : Nat) : Int) = 3 from rfl, e2] at l2
      simp only at l1 l2
      have c1 : IntKind.i64.wrap (m : Int) = (m : Int) := Go.IntWalk.i64_in _ (by omega)
      have c2 : IntKind.i64.wrap (j : Int) = (j : Int) := Go.IntWalk.i64_in _ (by omega)
      have hr2 : readN (k + 1) y0 z0 = (ys ++ [((m : Int), (j : Int))], y2, z2) := by
        rw [readN_snoc, hr.out]
        simp only [e1, e2]
      have HR := Lib.hid hr2
      have E1 := Lib.hid e1
      have E2 := Lib.hid e2
      have hys : ys.length = k := by
        have := readN_length k y0 z0
        rwa [hr.out] at this
      have HYS := Lib.hid hys
      have i1 : (k : Int) < (n : Int) := by omega
      have i2 : (k : Int) < 401 := by omega
      have hk4 : ys.length ≤ 401 := by omega
      clear hr2 e1 e2 hr hys l1 l2
      have ⟨A0, A1, A2, A3, A4⟩ := hG.out.rd
      go_wp2_with fail
      refine (Pk.refnumber_any u a 1 m y1 z1 E1.out hu _).mono ?_
      rintro e w3 ⟨rfl, hb⟩
      have hG3 := Lib.hid (hG.out.over hb)
      clear hb A0 A1 A2 A3 A4 hG
      go_wp2_with fail
      have hG4 := Lib.hid (hG3.out.over (Bl.below_1 w3 (.cells #[.string y1, .bool z1] 52)))
      generalize w3.alloc (.cells #[.string y1, .bool z1] 52) = w4 at *
      clear hG3
      refine (Pk.refnumber_any y1 z1 3 j y2 z2 E2.out hu1 _).mono ?_
      rintro e w5 ⟨rfl, hb⟩
      have hG5 := Lib.hid (hG4.out.over hb)
      clear hb hG4
      go_upto_region 8 with fail
      have hG6 := hG5.out.over (Bl.below_1 w5 (.cells #[.string y2, .bool z2] 52))
      have hZ6 := Pair.new w5 (.string y2) (.bool z2) 52
      have hne : ∀ i, u6.ownBlock = some i → i ≠ w5.heap.size := fun i hi => by have := (hG5.out.row.lt i hi).2; omega
      have hzx : X < w5.heap.size := by have := hG5.out.rd.1; exact this
      generalize w5.alloc (.cells #[.string y2, .bool z2] 52) = w6 at *
      generalize w5.heap.size = Z at *
      have HG6 := Lib.hid hG6
      have HZ6 := Lib.hid hZ6
      have HNE := Lib.hid hne
      have hsz6 : X + 1 ≤ w6.heap.size := by have := hG6.rd.1; omega
      clear hG5 hG6 hZ6 hne
      go_wp2_with (at_builtin; refine wpList_append_own _ rfl _ _ 34 rfl (X + 1) 72 i0 (.agg #[.int .i64 0, .int .i64 0]) 2 16 Tryd.underlying34 hi hz0 hz1 hz2 rfl (by decide) _ _ _ rfl (HG6.out.row.alloc _) ⟨w6.heap.size, 0, none⟩ 1 1 [.int .i64 (m : Int), .int .i64 (j : Int)] rfl rfl (news_two _ _ _ _) (by simp [Value.oneCell']) (by unfold maxLen; omega) (by omega) (by simp; omega) ?_)
      intro v' w7 hown hgrow _
      have hG7 : Gb w X v' (ys ++ [((m : Int), (j : Int))]) u a w7 := (HG6.out.over (Bl.below_1 _ _)).grown hgrow (by rw [cellsD_append, List.length_append, List.length_singleton]; exact hown)
      have hZ7 := pair_grown (HZ6.out.alloc _) hgrow (fun e => HNE.out _ e rfl)
      have HG7 := Lib.hid hG7
      have hX7 := hG7.rd
      clear hown hgrow hG7 HG6 HZ6 HNE
      have ⟨A0, A1, A2, A3, A4⟩ := hX7
      have ⟨Z0, Z1, Z2, Z3, Z4⟩ := hZ7
      have hXZ : X ≠ Z := by omega
      have H9 := Lib.hid (HG7.out.put y2 z2)
      go_wp2_with fail
      exact ⟨⟨k + 1, _, y2, z2, by omega, by go_num, HR, H9⟩, by simp [intOf]; omega⟩
    · obtain rfl : k = K := by omega
      obtain ⟨rfl, e2⟩ : ys = xs ∧ (u, a) = (y, z) := by
        have := HX.out.symm.trans hr.out
        simp only [Prod.mk.injEq] at this ⊢
        exact ⟨this.1.symm, this.2.1.symm, this.2.2.symm⟩
      simp only [Prod.mk.injEq] at e2
      obtain ⟨rfl, rfl⟩ := e2
      clear hr HX
      obtain ⟨av, cv, rfl, hid⟩ := Idz.own hG.out.row
      have HI := Lib.hid hid
      have HK3 := Lib.hid hK3
      clear hid
      have ⟨A0, A1, A2, A3, A4⟩ := hG.out.rd
      have ⟨R0, R1, R2, R3, R4⟩ := hG.out.rs
      have hE0 := Lib.hid (fun W (h : Below wr.heap.size wr W) => (below_set2 (k := w.heap.size + 1) (hG.out.over h).bel (Nat.le_succ _) (.string ⟨#[]⟩) (.bool true)))
      have hdone : Hid ((n : Int) ≤ (k : Int) ∨ (401 : Int) ≤ (k : Int)) := Lib.hid (by omega)
      clear hK3
      by_cases hnk : n ≤ k
      case' neg => have hk401 : 401 ≤ k := by have := HK3.out; omega
      all_goals
        rcases HE.out with ⟨rfl, hle, hset, rfl, rfl, rfl⟩ | ⟨hor, rfl, rfl, rfl⟩
        · have HS := Lib.hid hset
          have j1 : ¬ (400 < (l.length : Int)) := by omega
          clear hset HE
          go_wp2_with fail
          refine (refset_any _ true HS.out av cv _ HI.out.toIds).mono ?_
          rintro e w7 ⟨rfl, hb⟩
          have hG7 := hG.out.over hb
          clear hG hb A0 A1 A2 A3 A4 R0 R1 R2 R3 R4 hE0
          have ⟨A0, A1, A2, A3, A4⟩ := hG7.rd
          have ⟨R0, R1, R2, R3, R4⟩ := hG7.rs
          have hE := Lib.hid ((below_set2 (k := w.heap.size + 1) hG7.bel (Nat.le_succ _) (.string t) (.bool false)).drew)
          have hR : Hid (Idz (((w7.setCell ⟨w.heap.size + 1, 0, none⟩ (.string t)).setCell ⟨w.heap.size + 1, 1, none⟩ (.bool false)).drew) av cv l) := Lib.hid (by
            have hrow := row_set (i := 1) (u := .bool false) (row_set (i := 0) (u := .string t) hG7.row (k := w.heap.size + 1) fun j hj => by have := (hG7.row.lt j hj).1; have := hG7.far; omega) (k := w.heap.size + 1) fun j hj => by have := (hG7.row.lt j hj).1; have := hG7.far; omega
            obtain ⟨v2, cv2, e, r⟩ := Idz.own hrow
            simp only [Value.slice.injEq] at e
            obtain ⟨rfl, -, rfl⟩ := e
            exact ⟨⟨r.le, r.capl, r.lies⟩, r.empty⟩)
          clear hG7
          go_wp2
          go_region
          go_wp2
          exact bodyPost_ret (v := .tuple #[.slice av l.length cv, .agg #[.string t, .bool false]]) (by simp [results, Tryd.results43, go_sem, R1, R2]) rfl ⟨av, cv, rfl, hR.out, hE.out⟩
        · rcases hor with rfl | ⟨rfl, hgt⟩ | ⟨rfl, hle, hset⟩
          · have hE := Lib.hid (hE0.out wr (Below.refl _ _))
            clear hG HE hE0 A0
            go_wp2
            exact bodyPost_ret (v := .tuple #[.slice none 0 0, .agg #[.string ⟨#[]⟩, .bool true]]) (by simp [results, Tryd.results43, go_sem, R1, R2]) rfl ⟨none, 0, rfl, ⟨Ids.nil _, fun _ => rfl⟩, hE.out⟩
          · have j1 : (400 : Int) < (ys.length : Int) := by omega
            have hE := Lib.hid (hE0.out wr (Below.refl _ _))
            clear hG HE hE0 A0 hgt
            go_wp2
            exact bodyPost_ret (v := .tuple #[.slice none 0 0, .agg #[.string ⟨#[]⟩, .bool true]]) (by simp [results, Tryd.results43, go_sem, R1, R2]) rfl ⟨none, 0, rfl, ⟨Ids.nil _, fun _ => rfl⟩, hE.out⟩
          · have HS := Lib.hid hset
            have j1 : ¬ ((400 : Int) < (ys.length : Int)) := by omega
            clear hset HE hle
            go_wp2_with fail
            refine (refset_any _ false HS.out av cv _ HI.out.toIds).mono ?_
            rintro e w7 ⟨rfl, hb⟩
            have hE := Lib.hid (hE0.out w7 hb)
            have hG7 := hG.out.over hb
            clear A0 A1 A2 A3 A4 R0 R1 R2 R3 R4
            have ⟨R0, R1, R2, R3, R4⟩ := hG7.rs
            clear hG hG7 hb hE0
            go_wp2
            exact bodyPost_ret (v := .tuple #[.slice none 0 0, .agg #[.string ⟨#[]⟩, .bool true]]) (by simp [results, Tryd.results43, go_sem, R1, R2]) rfl ⟨none, 0, rfl, ⟨Ids.nil _, fun _ => rfl⟩, hE.out⟩
end Go.Proofs.YtkemljpjfbmjgaaDoor.Dp
