/-
  Contracts: a set read off bytes. Conditions: as each theorem says.
-/
import Derived.Test.YtkemljpjfbmjgaaDoorDepsO
import Derived.Test.YtkemljpjfbmjgaaDoorDepsJ
import Derived.Test.YtkemljpjfbmjgaaDoorDepsB
import Derived.Test.YtkemljpjfbmjgaaDoorPair
import Derived.Test.YtkemljpjfbmjgaaDoorPackT
import Derived.Deep.DeepCutAuto
namespace Go.Proofs.YtkemljpjfbmjgaaDoor.Dp
open Go.RowKit
set_option maxRecDepth 100000
open Pk (number scope_ahead)
open Bl (Pair below_set2 below_then)

/-- three blocks: the reader's, those of the two results -/
def Rd (w : World) (y : ByteArray) (z : Bool) (W : World) : Prop :=
  Pair W w.heap.size (.string y) (.bool z) ∧ Pair W (w.heap.size + 1) (.int .i64 0) (.int .i64 0) ∧ Pair W (w.heap.size + 1 + 1) (.string ⟨#[]⟩) (.bool false) ∧ Below w.heap.size w W
section
variable {w W W' : World} {y y' : ByteArray} {z z' : Bool}
theorem Rd.put (h : Rd w y z W) (y' : ByteArray) (z' : Bool) : Rd w y' z' ((W.setCell ⟨w.heap.size, 0, none⟩ (.string y')).setCell ⟨w.heap.size, 1, none⟩ (.bool z')) :=
  ⟨h.1.put _ _, h.2.1.far2 w.heap.size (by simp) _ _, h.2.2.1.far2 w.heap.size (by simp; omega) _ _, below_set2 h.2.2.2 (Nat.le_refl _) _ _⟩
theorem Rd.over (h : Rd w y z W) (hb : Below W.heap.size W W') : Rd w y z W' :=
  ⟨h.1.over hb, h.2.1.over hb, h.2.2.1.over hb, below_then h.2.2.2 hb (Nat.le_of_lt h.1.1)⟩
theorem Rd.fin (h : Rd w y z W) (a b c d : Value) : Below w.heap.size w ((((W.setCell ⟨w.heap.size + 1, 0, none⟩ a).setCell ⟨w.heap.size + 1, 1, none⟩ b).setCell ⟨w.heap.size + 1 + 1, 0, none⟩ c).setCell ⟨w.heap.size + 1 + 1, 1, none⟩ d) :=
  below_set2 (below_set2 h.2.2.2 (Nat.le_succ _) _ _) (by omega) _ _
end

set_option maxHeartbeats 1000000 in
theorem read_any (s : ByteArray) (b : Bool) (m n : Nat) (y1 y2 : ByteArray) (z1 z2 : Bool) (h1 : number s b 1 = (m, y1, z1)) (h2 : number y1 z1 3 = (n, y2, z2)) (hs : s.size ≤ maxLen) (w : World) :
    Calls Tryd.prog 58 #[.agg #[.string s, .bool b]] w fun e w' => e = .returned (.tuple #[.agg #[.int .i64 m, .int .i64 n], .agg #[.string y2, .bool z2]]) ∧ Below w.heap.size w w' := by
  have l1 := Pk.number_lt s b 1
  have l2 := Pk.number_lt y1 z1 3
  have k1 := Pk.number_size s b 1
  rw [show ((1 : Nat) : Int) = 1 from rfl, h1] at l1
  rw [show ((3 : Nat) : Int) = 3 from rfl, h2] at l2
  rw [h1] at k1
  simp only at l1 l2 k1
  have H1 := Lib.hid h1
  have H2 := Lib.hid h2
  have hy1 : y1.size ≤ maxLen := Nat.le_trans k1 hs
  have c1 : IntKind.i64.wrap (m : Int) = (m : Int) := Go.IntWalk.i64_in _ (by omega)
  have c2 : IntKind.i64.wrap (n : Int) = (n : Int) := Go.IntWalk.i64_in _ (by omega)
  clear h1 h2 k1
  go_enter Tryd.func58, Tryd.ntmps58
  go_wp2_with fail
  refine (Pk.number_any s b 1 m y1 z1 H1.out hs _).mono ?_
  rintro e w1 ⟨rfl, hb⟩
  have hG : Rd w s b w1 := Bl.three hb
  clear hb
  have ⟨A0, A1, A2, A3, A4⟩ := hG.1
  go_wp2_with fail
  have hG' := hG.put y1 z1
  clear A0 A1 A2 A3 A4 hG
  generalize (w1.setCell ⟨w.heap.size, 0, none⟩ (.string y1)).setCell ⟨w.heap.size, 1, none⟩ (.bool z1) = W at *
  refine (Pk.number_any y1 z1 3 n y2 z2 H2.out hy1 _).mono ?_
  rintro e w2 ⟨rfl, hb⟩
  have hG := hG'.over hb
  clear hb hG'
  have ⟨A0, A1, A2, A3, A4⟩ := hG.1
  go_wp2_with fail
  have hG' := hG.put y2 z2
  clear A0 A1 A2 A3 A4 hG
  generalize (w2.setCell ⟨w.heap.size, 0, none⟩ (.string y2)).setCell ⟨w.heap.size, 1, none⟩ (.bool z2) = W3 at *
  have ⟨A0, A1, A2, A3, A4⟩ := hG'.1
  have ⟨D0, D1, D2, D3, D4⟩ := hG'.2.1
  have ⟨R0, R1, R2, R3, R4⟩ := hG'.2.2.1
  go_region
  go_wp2
  have hE := (hG'.fin (.int .i64 (m : Int)) (.int .i64 (n : Int)) (.string y2) (.bool z2)).drew
  exact bodyPost_ret (v := .tuple #[.agg #[.int .i64 (m : Int), .int .i64 (n : Int)], .agg #[.string y2, .bool z2]]) (by simp [results, Tryd.results58, go_sem, D1, D2, R1, R2]) rfl ⟨rfl, hE⟩

theorem row_set {W : World} {B : Nat} {t : TypeId} {m k i : Nat} {v u : Value} {n : Nat} {xs : List Value} (h : W.ownsRow B t m v n xs) (hk : ∀ j, v.ownBlock = some j → j ≠ k) : (W.setCell ⟨k, i, none⟩ u).ownsRow B t m v n xs := by
  refine ⟨h.1, ?_⟩
  rcases h.2 with h2 | ⟨g, cap, cur, rfl, hB, hg, hr⟩
  · exact .inl h2
  · refine .inr ⟨g, cap, cur, rfl, hB, ?_, hr⟩
    have : k ≠ g := fun e => hk g rfl e.symm
    simp [World.setCell, Array.getElem?_modify, this, hg]
/-- the reader's block, that of the result, and what has been read -/
structure Ga (w : World) (v : Value) (l : List ID) (s : ByteArray) (b : Bool) (W : World) : Prop where
  rd : Pair W w.heap.size (.string s) (.bool b)
  rs : Pair W (w.heap.size + 1) (.string ⟨#[]⟩) (.bool false)
  row : W.ownsRow (w.heap.size + 2) 58 2 v l.length (cellsD l)
  bel : Below w.heap.size w W
section
variable {w W W' : World} {v v' : Value} {l l' : List ID} {s s' : ByteArray} {b b' : Bool}
theorem Ga.room (h : Ga w v l s b W) : w.heap.size + 2 ≤ W.heap.size := by have := h.rs.1; omega
theorem Ga.over (h : Ga w v l s b W) (hb : Below W.heap.size W W') : Ga w v l s b W' :=
  ⟨h.rd.over hb, h.rs.over hb, row_over h.row hb, below_then h.bel hb (Nat.le_of_lt h.rd.1)⟩
theorem Ga.put (h : Ga w v l s b W) (s' : ByteArray) (b' : Bool) : Ga w v l s' b' ((W.setCell ⟨w.heap.size, 0, none⟩ (.string s')).setCell ⟨w.heap.size, 1, none⟩ (.bool b')) :=
  ⟨h.rd.put _ _, h.rs.far2 w.heap.size (by simp) _ _, row_set (row_set h.row fun j hj => by have := (h.row.lt j hj).1; omega) (fun j hj => by have := (h.row.lt j hj).1; omega), below_set2 h.bel (Nat.le_refl _) _ _⟩
theorem Ga.aside (h : Ga w v l s b W) (k : Nat) (hk : w.heap.size + 2 ≤ k) (hne : ∀ j, v.ownBlock = some j → j ≠ k) (x y : Value) : Ga w v l s b ((W.setCell ⟨k, 0, none⟩ x).setCell ⟨k, 1, none⟩ y) :=
  ⟨h.rd.far2 k (by omega) _ _, h.rs.far2 k (by omega) _ _, row_set (row_set h.row hne) hne, below_set2 h.bel (by omega) _ _⟩
theorem Ga.grown (h : Ga w v l s b W) (hg : W.grownBy W' v.ownBlock) (ho : W'.ownsRow (w.heap.size + 2) 58 2 v' l'.length (cellsD l')) : Ga w v' l' s b W' := by
  have hb : Below (w.heap.size + 2) W W' := (Below.refl _ _).grown hg h.room (fun k hk => (h.row.lt k hk).1)
  exact ⟨h.rd.keep hb (by omega), h.rs.keep hb (by omega), ho, h.bel.trans (hb.mono (by omega))⟩
end

/-- what Get comes by, and what it answers -/
theorem getD_way (s : ByteArray) (b : Bool) (l : List ID) (t : ByteArray) (c : Bool) (h : getD s b = (l, t, c)) :
    ∃ (n : Nat) (y0 : ByteArray) (z0 : Bool), number s b 2 = (n, y0, z0) ∧ n < 65536 ∧ y0.size ≤ s.size ∧
      ((400 < n ∧ l = [] ∧ t = ⟨#[]⟩ ∧ c = true) ∨ (n ≤ 400 ∧ ∃ xs y z, readN n y0 z0 = (xs, y, z) ∧ xs.length = n ∧
        ((z = false ∧ setD xs = true ∧ l = xs ∧ t = y ∧ c = false) ∨ ((z = true ∨ (z = false ∧ setD xs = false)) ∧ l = [] ∧ t = ⟨#[]⟩ ∧ c = true)))) := by
  obtain ⟨n, y0, z0, h0⟩ := triple (number s b 2)
  have l1 := Pk.number_lt s b 2
  have k1 := Pk.number_size s b 2
  rw [show ((2 : Nat) : Int) = 2 from rfl, h0] at l1
  rw [h0] at k1
  simp only at l1 k1
  refine ⟨n, y0, z0, h0, by omega, k1, ?_⟩
  unfold getD at h
  rw [h0] at h
  simp only at h
  have hlen := readN_length (min n 401) y0 z0
  by_cases hn : n ≤ 400
  · right
    refine ⟨hn, ?_⟩
    rw [Nat.min_eq_left (by omega)] at h hlen
    obtain ⟨xs, y, z, hx⟩ := triple (readN n y0 z0)
    rw [hx] at h hlen
    simp only at h hlen
    refine ⟨xs, y, z, hx, hlen, ?_⟩
    by_cases hc : z = false ∧ xs.length ≤ 400 ∧ setD xs = true
    · rw [if_pos hc] at h
      simp only [Prod.mk.injEq] at h
      exact .inl ⟨hc.1, hc.2.2, h.1.symm, h.2.1.symm, h.2.2.symm⟩
    · rw [if_neg hc] at h
      simp only [Prod.mk.injEq] at h
      refine .inr ⟨?_, h.1.symm, h.2.1.symm, h.2.2.symm⟩
      cases z
      · right
        refine ⟨rfl, ?_⟩
        cases hp : setD xs
        · rfl
        · exact absurd ⟨rfl, by omega, hp⟩ hc
      · exact .inl rfl
  · left
    rw [Nat.min_eq_right (by omega)] at h hlen
    rw [if_neg (by rintro ⟨_, h2, _⟩; omega)] at h
    simp only [Prod.mk.injEq] at h
    exact ⟨by omega, h.1.symm, h.2.1.symm, h.2.2.symm⟩

set_option maxRecDepth 100000 in
set_option maxHeartbeats 1000000 in
theorem get_any (s : ByteArray) (b : Bool) (l : List ID) (t : ByteArray) (c : Bool) (h : getD s b = (l, t, c)) (hs : s.size ≤ maxLen) (w : World) :
    Calls Tryd.prog 41 #[.agg #[.string s, .bool b]] w fun e w' => ∃ v cv, e = .returned (.tuple #[.slice v l.length cv, .agg #[.string t, .bool c]]) ∧ Idz w' v cv l ∧ Below w.heap.size w w' := by
  obtain ⟨n, y0, z0, h0, hn, k0, hway⟩ := getD_way s b l t c h
  obtain ⟨i0, hi, hz0, hz1, hz2⟩ := info_parts (P := Tryd.prog) (e := 58) (z := .agg #[.int .i64 0, .int .i64 0]) (size := 2) (bytes := 16) (by kernel_rfl)
  have H0 := Lib.hid h0
  have hy0 : y0.size ≤ maxLen := Nat.le_trans k0 hs
  clear h h0 k0
  have fin : ∀ W W2 : World, Pair W (w.heap.size + 1) (.string ⟨#[]⟩) (.bool false) → Below w.heap.size w W → Below w.heap.size w ((W.setCell ⟨w.heap.size + 1, 0, none⟩ (.string ⟨#[]⟩)).setCell ⟨w.heap.size + 1, 1, none⟩ (.bool true)) := fun W _ _ hb => below_set2 hb (Nat.le_succ _) _ _
  have FIN := Lib.hid fin
  clear fin
  go_enter Tryd.func41, Tryd.ntmps41
  go_wp2
  refine scope_ahead 0 rfl ?_
  go_wp2_with fail
  refine (Pk.number_any s b 2 n y0 z0 H0.out hs _).mono ?_
  rintro e w1 ⟨rfl, hb⟩
  have hG : Ga w (.slice none 0 0) [] s b w1 := by
    obtain ⟨g1, g2, g3⟩ := Bl.two hb
    exact ⟨g1, g2, World.ownsRow_nil _ _ _ _, g3⟩
  clear hb
  have ⟨A0, A1, A2, A3, A4⟩ := hG.rd
  rcases hway with ⟨hbig, rfl, rfl, rfl⟩ | ⟨hle, xs, y, z, hx, hlen, hend⟩
  · go_wp2_with fail
    have hG' := hG.put y0 z0
    clear A0 A1 A2 A3 A4 hG
    generalize (w1.setCell ⟨w.heap.size, 0, none⟩ (.string y0)).setCell ⟨w.heap.size, 1, none⟩ (.bool z0) = W at *
    have ⟨R0, R1, R2, R3, R4⟩ := hG'.rs
    go_step3
    refine ⟨rfl, ?_⟩
    go_wp2
    rw [Exit.noGoto_ret]
    exact bodyPost_ret (v := .tuple #[.slice none 0 0, .agg #[.string ⟨#[]⟩, .bool true]]) (by simp [results, Tryd.results41, go_sem, R1, R2]) rfl ⟨none, 0, rfl, ⟨Ids.nil _, fun _ => rfl⟩, FIN.out _ w hG'.rs hG'.bel⟩
  · go_wp2_with fail
    have hG' := Lib.hid (hG.put y0 z0)
    clear A0 A1 A2 A3 A4 hG
    generalize (w1.setCell ⟨w.heap.size, 0, none⟩ (.string y0)).setCell ⟨w.heap.size, 1, none⟩ (.bool z0) = W at *
    have HX := Lib.hid hx
    have HE := Lib.hid hend
    have HLEN := Lib.hid hlen
    clear hx hend hlen
    go_loopw [4, 15] (fun v i W => ∃ (k : Nat) (ys : List ID) (u : ByteArray) (a : Bool), k ≤ n ∧ i = .int .u64 (k : Int) ∧ Hid (readN k y0 z0 = (ys, u, a)) ∧ Hid (Ga w v ys u a W)) (fun _ i _ => n - (intOf i).toNat)
    case atStart => exact ⟨0, [], y0, z0, Nat.zero_le _, rfl, Lib.hid rfl, hG'⟩
    case round =>
      clear hG'
      obtain ⟨k, ys, u, a, hk, rfl, hr, hG⟩ := hrel

      by_cases hlt : k < n
      · obtain ⟨m, y1, z1, e1⟩ := triple (number u a 1)
        obtain ⟨j, y2, z2, e2⟩ := triple (number y1 z1 3)
        have hu : u.size ≤ maxLen := by
          have := readN_size k y0 z0
          rw [hr.out] at this
          exact Nat.le_trans this hy0
        have hr2 : readN (k + 1) y0 z0 = (ys ++ [((m : Int), (j : Int))], y2, z2) := by
          rw [readN_snoc, hr.out]
          simp only [e1, e2]
        have HR := Lib.hid hr2
        have E1 := Lib.hid e1
        have E2 := Lib.hid e2
        have hys : ys.length = k := by
          have := readN_length k y0 z0
          rwa [hr.out] at this
        clear hr2 e1 e2 hr
        have ⟨A0, A1, A2, A3, A4⟩ := hG.out.rd
        go_wp2_with fail
        refine (read_any u a m j y1 y2 z1 z2 E1.out E2.out hu _).mono ?_
        rintro e w2 ⟨rfl, hb⟩
        have hG2 := (hG.out.over (Bl.below_1 _ _)).over hb
        have hI := (Pair.new wr (.int .i64 0) (.int .i64 0) 58).over hb
        have hne : ∀ i, u4.ownBlock = some i → i ≠ wr.heap.size := fun i hi => by have := (hG.out.row.lt i hi).2; omega
        have hroom := hG.out.room
        clear hb A0 A1 A2 A3 A4 hG
        have ⟨A0, A1, A2, A3, A4⟩ := hG2.rd
        have ⟨N0, N1, N2, N3, N4⟩ := hI
        have q1 : wr.heap.size ≠ w.heap.size := by omega
        have q2 : w.heap.size ≠ wr.heap.size := by omega
        have HG2 := Lib.hid hG2
        have HNE := Lib.hid hne
        clear hG2 hne
        go_upto_region 8 with fail
        have hG5 := (HG2.out.aside wr.heap.size hroom HNE.out (.int .i64 (m : Int)) (.int .i64 (j : Int))).put y2 z2
        have hI5 := Pair.far2 (Pair.put (show Pair w2 wr.heap.size (.int .i64 0) (.int .i64 0) from ⟨N0, N1, N2, N3, N4⟩) (.int .i64 (m : Int)) (.int .i64 (j : Int))) w.heap.size q2 (.string y2) (.bool z2)
        generalize ((((w2.setCell ⟨wr.heap.size, 0, none⟩ (.int .i64 (m : Int))).setCell ⟨wr.heap.size, 1, none⟩ (.int .i64 (j : Int))).setCell ⟨w.heap.size, 0, none⟩ (.string y2)).setCell ⟨w.heap.size, 1, none⟩ (.bool z2)) = W5 at *
        clear HG2 HNE A0 A1 A2 A3 A4 N0 N1 N2 N3 N4
        have ⟨M0, M1, M2, M3, M4⟩ := hI5
        have HG5 := Lib.hid hG5
        have hsz5 := hG5.room
        clear hI5 hG5
        go_wp2_with (at_builtin; refine wpList_append_own _ rfl _ _ 23 rfl (w.heap.size + 2) 58 i0 (.agg #[.int .i64 0, .int .i64 0]) 2 16 Tryd.underlying23 hi hz0 hz1 hz2 rfl (by decide) _ _ _ rfl (HG5.out.row.alloc _) ⟨W5.heap.size, 0, none⟩ 1 1 [.int .i64 (m : Int), .int .i64 (j : Int)] rfl rfl (news_two _ _ _ _) (by simp [Value.oneCell']) (by unfold maxLen; omega) (by omega) (by simp; omega) ?_)
        intro v' w6 hown hgrow _
        have hG6 : Ga w v' (ys ++ [((m : Int), (j : Int))]) y2 z2 w6 := (HG5.out.over (Bl.below_1 _ _)).grown hgrow (by rw [cellsD_append, List.length_append, List.length_singleton, hys]; exact hown)
        have HG6 := Lib.hid hG6
        clear hown hgrow hG6 HG5
        go_wp2
        exact ⟨⟨k + 1, _, _, _, by omega, by go_num, HR, HG6⟩, by simp [intOf]; omega⟩
      · obtain rfl : k = n := by omega
        obtain ⟨rfl, e2⟩ : ys = xs ∧ (u, a) = (y, z) := by
          have := HX.out.symm.trans hr.out
          simp only [Prod.mk.injEq] at this ⊢
          exact ⟨this.1.symm, this.2.1.symm, this.2.2.symm⟩
        simp only [Prod.mk.injEq] at e2
        obtain ⟨rfl, rfl⟩ := e2
        clear hr HX
        obtain ⟨av, cv, rfl, hid⟩ := Idz.own hG.out.row
        have HI := Lib.hid hid
        clear hid
        have ⟨A0, A1, A2, A3, A4⟩ := hG.out.rd
        rcases HE.out with ⟨rfl, hset, rfl, rfl, rfl⟩ | ⟨hor, rfl, rfl, rfl⟩
        · have HS := Lib.hid hset
          clear hset HE
          go_wp2_with fail
          refine (set_any _ true HS.out av cv wr HI.out.toIds).mono ?_
          rintro e w7 ⟨rfl, hb⟩
          have hG7 := hG.out.over hb
          clear hG hb HI A0 A1 A2 A3 A4
          have ⟨A0, A1, A2, A3, A4⟩ := hG7.rd
          have ⟨R0, R1, R2, R3, R4⟩ := hG7.rs
          have hE := Lib.hid ((below_set2 (k := w.heap.size + 1) hG7.bel (Nat.le_succ _) (.string t) (.bool false)).drew)
          have hR : Hid (Idz (((w7.setCell ⟨w.heap.size + 1, 0, none⟩ (.string t)).setCell ⟨w.heap.size + 1, 1, none⟩ (.bool false)).drew) av cv l) := Lib.hid (by
            have hrow := row_set (i := 1) (u := .bool false) (row_set (i := 0) (u := .string t) hG7.row (k := w.heap.size + 1) fun j hj => by have := (hG7.row.lt j hj).1; omega) (k := w.heap.size + 1) fun j hj => by have := (hG7.row.lt j hj).1; omega
            obtain ⟨v2, cv2, e, r⟩ := Idz.own hrow
            simp only [Value.slice.injEq] at e
            obtain ⟨rfl, -, rfl⟩ := e
            exact ⟨⟨r.le, r.capl, r.lies⟩, r.empty⟩)
          clear hG7
          go_wp2
          go_region
          go_wp2
          simp only [Exit.jump]
          exact bodyPost_ret (v := .tuple #[.slice av l.length cv, .agg #[.string t, .bool false]]) (by simp [results, Tryd.results41, go_sem, R1, R2]) rfl ⟨av, cv, rfl, hR.out, hE.out⟩
        · have HF : Hid (∀ W, Pair W (w.heap.size + 1) (.string ⟨#[]⟩) (.bool false) → Below w.heap.size w W → Idz ((W.setCell ⟨w.heap.size + 1, 0, none⟩ (.string ⟨#[]⟩)).setCell ⟨w.heap.size + 1, 1, none⟩ (.bool true)) none 0 [] ∧ Below w.heap.size w ((W.setCell ⟨w.heap.size + 1, 0, none⟩ (.string ⟨#[]⟩)).setCell ⟨w.heap.size + 1, 1, none⟩ (.bool true))) :=
            Lib.hid fun W h1 h2 => ⟨⟨Ids.nil _, fun _ => rfl⟩, FIN.out W w h1 h2⟩
          rcases hor with rfl | ⟨rfl, hset⟩
          · have hp := Lib.hid hG.out.rs
            have hbl := Lib.hid hG.out.bel
            have ⟨R0, R1, R2, R3, R4⟩ := hG.out.rs
            clear hG HE
            go_wp2_with fail
            go_step3
            refine ⟨rfl, ?_⟩
            go_wp2
            rw [Exit.noGoto_ret]
            exact bodyPost_ret (v := .tuple #[.slice none 0 0, .agg #[.string ⟨#[]⟩, .bool true]]) (by simp [results, Tryd.results41, go_sem, R1, R2]) rfl ⟨none, 0, rfl, HF.out _ hp.out hbl.out⟩
          · have HS := Lib.hid hset
            clear hset HE
            go_wp2_with fail
            refine (set_any _ false HS.out av cv wr HI.out.toIds).mono ?_
            rintro e w7 ⟨rfl, hb⟩
            have hG7 := hG.out.over hb
            clear hG hb HI A0 A1 A2 A3 A4
            have hp := Lib.hid hG7.rs
            have hbl := Lib.hid hG7.bel
            have ⟨R0, R1, R2, R3, R4⟩ := hG7.rs
            clear hG7
            go_wp2_with fail
            go_step3
            refine ⟨rfl, ?_⟩
            go_wp2
            rw [Exit.noGoto_ret]
            exact bodyPost_ret (v := .tuple #[.slice none 0 0, .agg #[.string ⟨#[]⟩, .bool true]]) (by simp [results, Tryd.results41, go_sem, R1, R2]) rfl ⟨none, 0, rfl, HF.out _ hp.out hbl.out⟩
end Go.Proofs.YtkemljpjfbmjgaaDoor.Dp
