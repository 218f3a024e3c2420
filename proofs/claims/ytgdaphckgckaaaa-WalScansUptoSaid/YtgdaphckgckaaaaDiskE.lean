/-
  What a cut of a disk leaves in memory: a disk of the first bytes. Conditions: as each theorem says.
-/
import Derived.Test.YtgdaphckgckaaaaDiskI
namespace Go.Proofs.Ytgdaphckgckaaaa.Dk
open Go.RowKit

theorem own_cut {w : World} {B : Nat} {e : TypeId} {ao : Option Addr} {n m cap : Nat} {xs : List Value} (h : w.ownsRow B e 1 (.slice ao n cap) n xs) (hm : m ≤ n) : w.ownsRow B e 1 (.slice ao m cap) m (xs.take m) := by
  have hl := h.1
  refine ⟨by rw [List.length_take]; omega, ?_⟩
  rcases h.2 with ⟨hv, h0⟩ | ⟨g, c, cur, hv, hb, hg, hn, hc, hs, ht⟩
  · simp only [Value.slice.injEq] at hv
    obtain ⟨rfl, _, rfl⟩ := hv
    exact .inl ⟨by rw [show m = 0 by omega], by omega⟩
  · simp only [Value.slice.injEq] at hv
    obtain ⟨rfl, _, rfl⟩ := hv
    refine .inr ⟨g, cap, cur, rfl, hb, hg, by omega, hc, hs, ?_⟩
    rw [← ht, List.take_take, Nat.min_eq_left (by omega), Nat.mul_one]

/-- the first t places of the list of pieces are as they were; no other memory but that list has turned -/
def Dropped (B : Nat) (v : Value) (n : Nat) (vs : List Value) (w : World) (t : Nat) (W : World) : Prop :=
  w.grownBy W v.ownBlock ∧ ∃ vs', W.ownsRow B 59 1 v n vs' ∧ ∀ i, i < t → vs'[i]? = vs[i]?

theorem Dropped.start {B : Nat} {v : Value} {n : Nat} {vs : List Value} {w : World} (h : w.ownsRow B 59 1 v n vs) : Dropped B v n vs w n w :=
  ⟨⟨rfl, rfl, rfl, Nat.le_refl _, fun _ _ _ => rfl⟩, vs, h, fun _ _ => rfl⟩

theorem Dropped.step {B p n cap j : Nat} {vs : List Value} {w W : World} {t : Nat} (h : Dropped B (.slice (some ⟨p, 0, none⟩) n cap) n vs w t W) (hj : j < t) :
    Dropped B (.slice (some ⟨p, 0, none⟩) n cap) n vs w j (W.setCell ⟨p, j, none⟩ (.slice none 0 0)) := by
  obtain ⟨hg, vs', hr, he⟩ := h
  have hs := hr.stored j (.slice none 0 0)
  refine ⟨grown_trans hg hs.2, _, hs.1, fun i hi => ?_⟩
  rw [List.getElem?_set_ne (by omega)]
  exact he i (by omega)

theorem Dropped.size {B n : Nat} {v : Value} {vs : List Value} {w W : World} {t : Nat} (h : Dropped B v n vs w t W) : w.heap.size ≤ W.heap.size := h.1.size

theorem Disk.row_ne {B a m : Nat} {l : List UInt8} {sy ro : Nat} {h : Bool} {v : Value} {vs : List Value} {w : World} (D : Disk B a m l sy ro h v vs w) : some a ≠ v.ownBlock := fun e =>
  own_ne D.row D.head (by decide) e.symm

theorem Disk.head_of {B a m : Nat} {l : List UInt8} {sy ro : Nat} {h : Bool} {v : Value} {vs : List Value} {w W : World} {t : Nat} (D : Disk B a m l sy ro h v vs w) (k : Dropped B v m vs w t W) : Head W a v l.length sy ro h :=
  D.head.kept k.1 D.row_ne

theorem Disk.pieces_of {B a m : Nat} {l : List UInt8} {sy ro : Nat} {h : Bool} {v : Value} {vs : List Value} {w W : World} {t : Nat} (D : Disk B a m l sy ro h v vs w) (k : Dropped B v m vs w t W) : Pieces B m l vs W :=
  D.pieces.kept_other k.1 fun b hb => by
    obtain ⟨_, cs, h1⟩ := own_block D.row hb
    exact ⟨cs, 59, (0, 0), h1, by decide⟩

/-- what the walk reads at a place -/
theorem Disk.place {B a m : Nat} {l : List UInt8} {sy ro : Nat} {h : Bool} {ao : Option Addr} {cap : Nat} {vs : List Value} {w W : World} {t : Nat} (D : Disk B a m l sy ro h (.slice ao m cap) vs w)
    (k : Dropped B (.slice ao m cap) m vs w t W) (j : Nat) (hj : j < t) (ht : t ≤ m) (hne : chunk l j ≠ []) :
    ∃ p g c, ao = some ⟨p, 0, none⟩ ∧ p ≠ a ∧ m ≤ cap ∧ cap ≤ maxLen ∧ (chunk l j).length ≤ c ∧ c ≤ maxLen ∧ vs[j]? = some (.slice (some ⟨g, 0, none⟩) (chunk l j).length c) ∧
      W.cell? ⟨p, j, none⟩ = some (.slice (some ⟨g, 0, none⟩) (chunk l j).length c) ∧ W.frozen? ⟨p, j, none⟩ = false := by
  obtain ⟨u, hu, hown⟩ := D.pieces.each j (by omega)
  obtain ⟨hg, vs', hr, he⟩ := k
  rcases hown.2 with ⟨_, h0⟩ | ⟨g, c, cur, rfl, hbg, hgg, hlc, hcm, _⟩
  · exact absurd (List.eq_nil_of_length_eq_zero h0) hne
  · have hrow := D.row_ne
    have hr' := hr
    rcases hr.2 with ⟨_, h0⟩ | ⟨p, cap', cur', hv, hbp, hp, hmc, hcm', _⟩
    · omega
    · simp only [Value.slice.injEq] at hv
      obtain ⟨rfl, _, rfl⟩ := hv
      refine ⟨p, g, c, rfl, fun e => hrow (by rw [e]; rfl), hmc, hcm', hlc, hcm, hu, ?_, hr'.frozenAt j⟩
      rw [hr'.cellAt j (by omega), he j hj, hu]

/-- THE END of a cut that leaves at least a byte -/
theorem Disk.left {B a m : Nat} {l : List UInt8} {sy ro : Nat} {h : Bool} {p g c cap : Nat} {vs : List Value} {w W : World} (D : Disk B a m l sy ro h (.slice (some ⟨p, 0, none⟩) m cap) vs w)
    (j size : Nat) (k : Dropped B (.slice (some ⟨p, 0, none⟩) m cap) m vs w (j + 1) W) (hj : j + 1 ≤ m) (h1 : 4096 * j < size) (h2 : size ≤ 4096 * (j + 1)) (h3 : size ≤ l.length)
    (hu : vs[j]? = some (.slice (some ⟨g, 0, none⟩) (chunk l j).length c)) :
    DiskAt B a (l.take size) size ro false (((((W.setCell ⟨a, 0, none⟩ (.slice (some ⟨p, 0, none⟩) (j + 1 : Nat) cap)).setCell ⟨p, j, none⟩ (.slice (some ⟨g, 0, none⟩) (size - 4096 * j) c)).setCell ⟨a, 1, none⟩ (.int .i64 size)).setCell ⟨a, 2, none⟩ (.int .i64 size)).setCell ⟨a, 4, none⟩ (.bool false)).drew ∧
    Far B w (((((W.setCell ⟨a, 0, none⟩ (.slice (some ⟨p, 0, none⟩) (j + 1 : Nat) cap)).setCell ⟨p, j, none⟩ (.slice (some ⟨g, 0, none⟩) (size - 4096 * j) c)).setCell ⟨a, 1, none⟩ (.int .i64 size)).setCell ⟨a, 2, none⟩ (.int .i64 size)).setCell ⟨a, 4, none⟩ (.bool false)).drew := by
  have hH := D.head_of k
  have hP := D.pieces_of k
  have hpa : p ≠ a := fun e => D.row_ne (by rw [e]; rfl)
  obtain ⟨hg, vs', hr, he⟩ := k
  have hlen : (l.take size).length = size := by rw [List.length_take]; omega
  have hcl := chunk_length l j
  have hpc : pcs (l.take size).length = j + 1 := by rw [hlen]; unfold pcs; omega
  -- the list of pieces
  have g0 := Lib.grownBy_setCell W a 0 (.slice (some ⟨p, 0, none⟩) (j + 1 : Nat) cap)
  have H0 := hH.set0 (.slice (some ⟨p, 0, none⟩) (j + 1 : Nat) cap)
  have hra : ∀ {x : World} {vv : Value} {nn : Nat} {xx : List Value}, x.ownsRow B 59 1 vv nn xx → (∃ cs fz, x.heap[a]? = some (.cells cs 75 fz)) → vv.ownBlock = none ∨ vv.ownBlock ≠ some a := fun hx ⟨cs, fz, hc⟩ => .inr (own_ne hx hc (by decide))
  have r0 := (hr.kept g0 (hra hr ⟨_, _, hH⟩))
  have P0 := hP.kept_other g0 fun b hb => by obtain rfl := Option.some.inj hb; exact ⟨_, 75, _, hH, by decide⟩
  have r1 := own_cut r0 hj
  have hs := r1.stored j (.slice (some ⟨g, 0, none⟩) (size - 4096 * j) c)
  have hpb : ∃ cs, (W.setCell ⟨a, 0, none⟩ (.slice (some ⟨p, 0, none⟩) (j + 1 : Nat) cap)).heap[p]? = some (.cells cs 59 (0, 0)) := (own_block r1 (k := p) rfl).2
  have P1 := P0.kept_other hs.2 fun b hb => by obtain rfl := Option.some.inj hb; obtain ⟨cs, hcs⟩ := hpb; exact ⟨_, 59, _, hcs, by decide⟩
  have H1 := H0.kept hs.2 (by simp; exact fun e => hpa e.symm)
  generalize hW2 : (W.setCell ⟨a, 0, none⟩ (.slice (some ⟨p, 0, none⟩) (j + 1 : Nat) cap)).setCell ⟨p, j, none⟩ (.slice (some ⟨g, 0, none⟩) (size - 4096 * j) c) = W2 at *
  have g1 := Lib.grownBy_setCell W2 a 1 (.int .i64 size)
  have H2 := H1.set1 size
  have r2 := hs.1.kept g1 (hra hs.1 ⟨_, _, H1⟩)
  have P2 := P1.kept_other g1 fun b hb => by obtain rfl := Option.some.inj hb; exact ⟨_, 75, _, H1, by decide⟩
  generalize W2.setCell ⟨a, 1, none⟩ (.int .i64 size) = W3 at *
  have g2 := Lib.grownBy_setCell W3 a 2 (.int .i64 size)
  have H3 := H2.set2 size
  have r3 := r2.kept g2 (hra r2 ⟨_, _, H2⟩)
  have P3 := P2.kept_other g2 fun b hb => by obtain rfl := Option.some.inj hb; exact ⟨_, 75, _, H2, by decide⟩
  generalize W3.setCell ⟨a, 2, none⟩ (.int .i64 size) = W4 at *
  have g3 := Lib.grownBy_setCell W4 a 4 (.bool false)
  have H4 := H3.set4 false
  have r4 := r3.kept g3 (hra r3 ⟨_, _, H3⟩)
  have P4 := P3.kept_other g3 fun b hb => by obtain rfl := Option.some.inj hb; exact ⟨_, 75, _, H3, by decide⟩
  generalize W4.setCell ⟨a, 4, none⟩ (.bool false) = W5 at *
  have hB0 := D.heap
  have s0 := hg.size
  have s1 := g0.size
  have s2 := hs.2.size
  have s3 := g1.size
  have s4 := g2.size
  have s5 := g3.size
  have F : Far B w W5 := by
    refine (((((Far.of_grown hg hB0 ?_).trans (Far.of_grown g0 (by omega) ?_)).trans (Far.of_grown hs.2 (by omega) ?_)).trans (Far.of_grown g1 (by omega) ?_)).trans (Far.of_grown g2 (by omega) ?_)).trans (Far.of_grown g3 (by omega) ?_)
    · intro b hb
      obtain ⟨h5, cs, h6⟩ := own_block D.row hb
      exact ⟨h5, cs, 59, _, h6, .inr (.inl rfl)⟩
    · intro b hb; obtain rfl := Option.some.inj hb; exact ⟨D.base, _, 75, _, hH, .inr (.inr rfl)⟩
    · intro b hb; obtain rfl := Option.some.inj hb; obtain ⟨cs, hcs⟩ := hpb; exact ⟨(own_block r1 (k := p) rfl).1, _, 59, _, hcs, .inr (.inl rfl)⟩
    · intro b hb; obtain rfl := Option.some.inj hb; exact ⟨D.base, _, 75, _, H1, .inr (.inr rfl)⟩
    · intro b hb; obtain rfl := Option.some.inj hb; exact ⟨D.base, _, 75, _, H2, .inr (.inr rfl)⟩
    · intro b hb; obtain rfl := Option.some.inj hb; exact ⟨D.base, _, 75, _, H3, .inr (.inr rfl)⟩
  have hvs : ∀ i, i ≤ j → ((vs'.take (j + 1)).set j (.slice (some ⟨g, 0, none⟩) (size - 4096 * j) c))[i]? = if i = j then some (.slice (some ⟨g, 0, none⟩) (size - 4096 * j) c) else vs[i]? := by
    intro i hi
    have hl' : (vs'.take (j + 1)).length = j + 1 := by have := r1.1; omega
    by_cases e : i = j
    · subst e
      rw [List.getElem?_set_self (by omega), if_pos rfl]
    · rw [List.getElem?_set_ne (by omega), if_neg e, List.getElem?_take, if_pos (by omega)]
      exact he i (by omega)
  refine ⟨⟨.slice (some ⟨p, 0, none⟩) (j + 1 : Nat) cap, (vs'.take (j + 1)).set j (.slice (some ⟨g, 0, none⟩) (size - 4096 * j) c), D.base, by show B ≤ W5.heap.size; omega, ?_, ?_, ?_, by rw [hlen]; exact Nat.le_refl _, by rw [hlen]; have := D.len_le; omega, D.ro_le, D.ro_pos⟩, F.trans (Far.of_grown (grown_drew (row := none)) (by omega) fun b hb => by cases hb)⟩
  · rw [hlen]; exact H4
  · rw [hpc]; exact r4
  · rw [hpc]
    refine ⟨fun i hi => ?_, fun i i' u u' hi hi' hne hq hq' => ?_⟩
    · rw [hvs i (by omega)]
      by_cases e : i = j
      · subst e
        rw [if_pos rfl]
        refine ⟨_, rfl, ?_⟩
        obtain ⟨u, hu', ho⟩ := P4.each i (by omega)
        rw [hu] at hu'
        obtain rfl := Option.some.inj hu'
        have ho' := own_cut ho (m := size - 4096 * i) (by omega)
        have e1 : chunk (l.take size) i = (chunk l i).take (size - 4096 * i) := chunk_take l size i
        have e2 : ((chunk l i).take (size - 4096 * i)).length = size - 4096 * i := by rw [List.length_take]; omega
        rw [e1, e2, Lib.byteCells, ← List.map_take] at *
        exact ho'
      · rw [if_neg e, chunk_take_lt l size i (by omega)]
        exact P4.each i (by omega)
    · rw [hvs i (by omega)] at hq
      rw [hvs i' (by omega)] at hq'
      -- the piece that is cut lies where it lay
      have base : ∀ x y : Nat, x ≤ j → ∀ u, (if x = j then some (.slice (some ⟨g, 0, none⟩) (size - 4096 * j) c) else vs[x]?) = some u → ∃ u0, vs[x]? = some u0 ∧ u0.ownBlock = u.ownBlock := by
        intro x _ hx u hxu
        by_cases e : x = j
        · rw [if_pos e] at hxu
          obtain rfl := Option.some.inj hxu
          exact ⟨.slice (some ⟨g, 0, none⟩) (chunk l j).length c, by rw [e]; exact hu, rfl⟩
        · rw [if_neg e] at hxu
          exact ⟨u, hxu, rfl⟩
      obtain ⟨u0, q0, q1⟩ := base i 0 (by omega) u hq
      obtain ⟨u1, q2, q3⟩ := base i' 0 (by omega) u' hq'
      rw [← q1, ← q3]
      exact D.pieces.apart i i' u0 u1 (by omega) (by omega) hne q0 q2

/-- .. that leaves nothing -/
theorem Disk.emptied {B a m : Nat} {l : List UInt8} {sy ro : Nat} {h : Bool} {ao : Option Addr} {cap : Nat} {vs : List Value} {w W : World} (D : Disk B a m l sy ro h (.slice ao m cap) vs w)
    (k : Dropped B (.slice ao m cap) m vs w 0 W) :
    DiskAt B a [] 0 ro false ((((W.setCell ⟨a, 0, none⟩ (.slice ao 0 cap)).setCell ⟨a, 1, none⟩ (.int .i64 0)).setCell ⟨a, 2, none⟩ (.int .i64 0)).setCell ⟨a, 4, none⟩ (.bool false)) ∧
    Far B w ((((W.setCell ⟨a, 0, none⟩ (.slice ao 0 cap)).setCell ⟨a, 1, none⟩ (.int .i64 0)).setCell ⟨a, 2, none⟩ (.int .i64 0)).setCell ⟨a, 4, none⟩ (.bool false)) := by
  have hH := D.head_of k
  obtain ⟨hg, vs', hr, he⟩ := k
  have g0 := Lib.grownBy_setCell W a 0 (.slice ao 0 cap)
  have H0 := hH.set0 (.slice ao 0 cap)
  have hra : ∀ {x : World} {vv : Value} {nn : Nat} {xx : List Value}, x.ownsRow B 59 1 vv nn xx → (∃ cs fz, x.heap[a]? = some (.cells cs 75 fz)) → vv.ownBlock = none ∨ vv.ownBlock ≠ some a := fun hx ⟨cs, fz, hc⟩ => .inr (own_ne hx hc (by decide))
  have r0 := own_cut (hr.kept g0 (hra hr ⟨_, _, hH⟩)) (Nat.zero_le _)
  have s0 := hg.size
  have s1 := g0.size
  generalize W.setCell ⟨a, 0, none⟩ (.slice ao 0 cap) = W2 at *
  have g1 := Lib.grownBy_setCell W2 a 1 (.int .i64 ((0 : Nat) : Int))
  have H2 := H0.set1 0
  have r2 := r0.kept g1 (hra r0 ⟨_, _, H0⟩)
  have s2 := g1.size
  have e0 : (.int .i64 ((0 : Nat) : Int) : Value) = .int .i64 0 := rfl
  rw [e0] at *
  generalize W2.setCell ⟨a, 1, none⟩ (.int .i64 0) = W3 at *
  have g2 := Lib.grownBy_setCell W3 a 2 (.int .i64 0)
  have H3 := H2.set2 0
  have r3 := r2.kept g2 (hra r2 ⟨_, _, H2⟩)
  have s3 := g2.size
  rw [e0] at *
  generalize W3.setCell ⟨a, 2, none⟩ (.int .i64 0) = W4 at *
  have g3 := Lib.grownBy_setCell W4 a 4 (.bool false)
  have H4 := H3.set4 false
  have r4 := r3.kept g3 (hra r3 ⟨_, _, H3⟩)
  have s4 := g3.size
  generalize W4.setCell ⟨a, 4, none⟩ (.bool false) = W5 at *
  have hB0 := D.heap
  refine ⟨⟨_, _, D.base, by omega, H4, r4, ⟨fun i hi => absurd hi (Nat.not_lt_zero i), fun i j u u' hi => absurd hi (Nat.not_lt_zero i)⟩, Nat.le_refl _, Nat.zero_le _, D.ro_le, D.ro_pos⟩, ?_⟩
  refine ((((Far.of_grown hg hB0 ?_).trans (Far.of_grown g0 (by omega) ?_)).trans (Far.of_grown g1 (by omega) ?_)).trans (Far.of_grown g2 (by omega) ?_)).trans (Far.of_grown g3 (by omega) ?_)
  · intro b hb
    obtain ⟨h5, cs, h6⟩ := own_block D.row hb
    exact ⟨h5, cs, 59, _, h6, .inr (.inl rfl)⟩
  · intro b hb; obtain rfl := Option.some.inj hb; exact ⟨D.base, _, 75, _, hH, .inr (.inr rfl)⟩
  · intro b hb; obtain rfl := Option.some.inj hb; exact ⟨D.base, _, 75, _, H0, .inr (.inr rfl)⟩
  · intro b hb; obtain rfl := Option.some.inj hb; exact ⟨D.base, _, 75, _, H2, .inr (.inr rfl)⟩
  · intro b hb; obtain rfl := Option.some.inj hb; exact ⟨D.base, _, 75, _, H3, .inr (.inr rfl)⟩

end Go.Proofs.Ytgdaphckgckaaaa.Dk
