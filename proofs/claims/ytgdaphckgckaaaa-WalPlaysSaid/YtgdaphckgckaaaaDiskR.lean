/-
  Contracts of the document's own answer: its disk in a block of its own. Conditions: as each theorem says.
-/
import Derived.Test.YtgdaphckgckaaaaDiskT
import Derived.RegionTactic
namespace Go.Proofs.Ytgdaphckgckaaaa.Dk
open Go.RowKit
set_option maxRecDepth 100000

/-- block x is the answer's disk -/
def Ref (w : World) (x : Nat) (s : ByteArray) (sy ro : Nat) (h : Bool) : Prop :=
  w.heap[x]? = some (.cells #[.string s, .int .i64 sy, .int .i64 ro, .bool h] 56 (0, 0))

section
variable {w w' : World} {x : Nat} {s : ByteArray} {sy ro : Nat} {h : Bool}
theorem Ref.lt (k : Ref w x s sy ro h) : x < w.heap.size := heap_lt k
theorem Ref.cells (k : Ref w x s sy ro h) : w.cell? ⟨x, 0, none⟩ = some (.string s) ∧ w.cell? ⟨x, 1, none⟩ = some (.int .i64 sy) ∧ w.cell? ⟨x, 2, none⟩ = some (.int .i64 ro) ∧ w.cell? ⟨x, 3, none⟩ = some (.bool h) := by
  refine ⟨?_, ?_, ?_, ?_⟩ <;> (rw [Lib.cell_of_heap k]; rfl)
theorem Ref.free (k : Ref w x s sy ro h) (i : Nat) : w.frozen? ⟨x, i, none⟩ = false := Lib.frozen_of_heap k i
theorem Ref.far {B : Nat} (k : Ref w x s sy ro h) (hF : Far B w w') : Ref w' x s sy ro h := hF.kept x _ 56 _ k (by decide) (by decide) (by decide)
theorem Ref.below (k : Ref w x s sy ro h) (hb : Below w.heap.size w w') : Ref w' x s sy ro h := (hb.block x k.lt).trans k
theorem Ref.drew (k : Ref w x s sy ro h) : Ref w.drew x s sy ro h := k
theorem Ref.set0 (k : Ref w x s sy ro h) (u : ByteArray) : Ref (w.setCell ⟨x, 0, none⟩ (.string u)) x u sy ro h := Lib.heap_setCell_same (i := 0) k _
theorem Ref.set1 (k : Ref w x s sy ro h) (u : Nat) : Ref (w.setCell ⟨x, 1, none⟩ (.int .i64 u)) x s u ro h := Lib.heap_setCell_same (i := 1) k _
theorem Ref.set2 (k : Ref w x s sy ro h) (u : Nat) : Ref (w.setCell ⟨x, 2, none⟩ (.int .i64 u)) x s sy u h := Lib.heap_setCell_same (i := 2) k _
theorem Ref.set3 (k : Ref w x s sy ro h) (u : Bool) : Ref (w.setCell ⟨x, 3, none⟩ (.bool u)) x s sy ro u := Lib.heap_setCell_same (i := 3) k _
theorem grown_refl (w : World) (row : Option Nat) : w.grownBy w row := ⟨rfl, rfl, rfl, Nat.le_refl _, fun _ _ _ => rfl⟩

theorem ref_new_yes (ro : Nat) (h1 : 1 ≤ ro) (h2 : ro ≤ 16777216) (w : World) :
    Calls Try.prog 17 #[.int .i64 (ro : Int)] w fun e w' => e = .returned (.pointer (some ⟨w.heap.size, 0, none⟩)) ∧ Ref w' w.heap.size ⟨#[]⟩ 0 ro false ∧ Below w.heap.size w w' := by
  go_enter Try.func17, Try.ntmps17
  go_wp2
  go_ret
  exact ⟨rfl, heap_alloc_new w _, (Below.refl _ _).alloc (Nat.le_refl _) _⟩

theorem ref_new_no (ro : Int) (hn : ¬ (1 ≤ ro ∧ ro ≤ 16777216)) (w : World) :
    Calls Try.prog 17 #[.int .i64 ro] w fun e w' => e = .returned (.pointer none) ∧ w = w' := by
  by_cases h1 : 1 ≤ ro
  · have h2 : 16777216 < ro := by omega
    clear hn
    go_enter Try.func17, Try.ntmps17
    go_wp2
    go_ret
    exact ⟨rfl, rfl⟩
  · have h2 : ro < 1 := by omega
    clear hn
    go_enter Try.func17, Try.ntmps17
    go_wp2
    go_ret
    exact ⟨rfl, rfl⟩

theorem ref_sync (k : Ref w x s sy ro h) : Calls Try.prog 43 #[.pointer (some ⟨x, 0, none⟩)] w fun e w' => e = .returned (.tuple #[]) ∧ Ref w' x s (syncs h s.size sy) ro h ∧ w.grownBy w' (some x) := by
  obtain ⟨c0, c1, c2, c3⟩ := k.cells
  have f1 := k.free 1
  cases h with
  | true =>
    go_enter Try.func43, Try.ntmps43
    go_wp2
    go_end0
    exact ⟨rfl, k, grown_refl _ _⟩
  | false =>
    go_enter Try.func43, Try.ntmps43
    go_wp2
    go_end0
    exact ⟨rfl, k.set1 s.size, Lib.grownBy_setCell _ _ _ _⟩

theorem ref_append_full (k : Ref w x s sy ro h) (hs : s.size ≤ 16777216) (t : ByteArray) (ht : t.size ≤ 140737488351232) (hro : ro < s.size + t.size) : Calls Try.prog 19 #[.pointer (some ⟨x, 0, none⟩), .string t] w fun e w' => e = .returned (.int .i64 4) ∧ Ref w' x s sy ro h ∧ w.grownBy w' (some x) := by
  obtain ⟨c0, c1, c2, c3⟩ := k.cells
  have h1 : (ro : Int) < (s.size : Int) + (t.size : Int) := by omega
  go_enter Try.func19, Try.ntmps19
  go_wp2
  go_region
  go_wp2
  go_ret
  exact ⟨rfl, k, grown_drew⟩

theorem ref_append_fits (k : Ref w x s sy ro h) (hr : ro ≤ 16777216) (t : ByteArray) (hro : s.size + t.size ≤ ro) : Calls Try.prog 19 #[.pointer (some ⟨x, 0, none⟩), .string t] w fun e w' => e = .returned (.int .i64 0) ∧ Ref w' x (s ++ t) sy ro h ∧ w.grownBy w' (some x) := by
  obtain ⟨c0, c1, c2, c3⟩ := k.cells
  have f0 := k.free 0
  have h1 : (s.size : Int) + (t.size : Int) ≤ (ro : Int) := by omega
  have h2 : s.size + t.size ≤ 9223372036854775807 := by omega
  go_enter Try.func19, Try.ntmps19
  go_wp2
  go_region
  go_wp2
  go_ret
  exact ⟨rfl, k.set0 (s ++ t), grown_trans (Lib.grownBy_setCell w x 0 (.string (s ++ t))) grown_drew⟩

theorem ref_cut_yes (k : Ref w x s sy ro h) (hs : s.size ≤ 16777216) (size : Nat) (hz : size ≤ s.size) : Calls Try.prog 41 #[.pointer (some ⟨x, 0, none⟩), .int .i64 (size : Int)] w fun e w' => e = .returned (.int .i64 0) ∧ Ref w' x (s.extract 0 size) size ro false ∧ w.grownBy w' (some x) := by
  obtain ⟨c0, c1, c2, c3⟩ := k.cells
  have f0 := k.free 0
  have f1 := k.free 1
  have f3 := k.free 3
  have h1 : (size : Int) ≤ (s.size : Int) := by omega
  have h0 : (0 : Int) ≤ (size : Int) := by omega
  obtain ⟨u, hu⟩ : ∃ u, s.extract 0 size = u := ⟨_, rfl⟩
  have hus : u.size = size := by rw [← hu, ByteArray.size_extract]; omega
  rw [hu]
  have k1 := k.set0 u
  have g1 := Lib.grownBy_setCell w x 0 (.string u)
  have k2 := k1.set3 false
  have g2 := Lib.grownBy_setCell (w.setCell ⟨x, 0, none⟩ (.string u)) x 3 (.bool false)
  have HU := Lib.hid hus
  clear hus
  go_enter Try.func41, Try.ntmps41
  go_wp2_with fail
  refine (ref_sync k2).mono ?_
  rintro e w1 ⟨rfl, k3, g3⟩
  go_wp2
  go_ret
  refine ⟨rfl, ?_, grown_trans (grown_trans g1 g2) g3⟩
  rw [syncs, if_neg (by decide), HU.out] at k3
  exact k3

theorem ref_cut_no (k : Ref w x s sy ro h) (size : Int) (hz : size < 0 ∨ (s.size : Int) < size) : Calls Try.prog 41 #[.pointer (some ⟨x, 0, none⟩), .int .i64 size] w fun e w' => e = .returned (.int .i64 1) ∧ w = w' := by
  obtain ⟨c0, c1, c2, c3⟩ := k.cells
  by_cases h0 : size < 0
  · clear hz
    go_enter Try.func41, Try.ntmps41
    go_wp2
    go_ret
    exact ⟨rfl, rfl⟩
  · have h1 : (s.size : Int) < size := by omega
    clear hz
    go_enter Try.func41, Try.ntmps41
    go_wp2
    go_ret
    exact ⟨rfl, rfl⟩

theorem ref_crash (k : Ref w x s sy ro h) (hs : s.size ≤ 16777216) (hsy : sy ≤ s.size) (keep : Int) : Calls Try.prog 25 #[.pointer (some ⟨x, 0, none⟩), .int .i64 keep] w fun e w' => e = .returned (.tuple #[]) ∧ Ref w' x (s.extract 0 (leaves s.size sy keep)) (leaves s.size sy keep) ro false ∧ w.grownBy w' (some x) := by
  obtain ⟨c0, c1, c2, c3⟩ := k.cells
  have f0 := k.free 0
  have f1 := k.free 1
  have f3 := k.free 3
  obtain ⟨p, hp⟩ : ∃ p : Int, (if ((s.size : Int) - (sy : Int)) < keep then ((s.size : Int) - (sy : Int)) else keep) = p := ⟨_, rfl⟩
  obtain ⟨q, hq⟩ : ∃ q : Nat, p.toNat = q := ⟨_, rfl⟩
  have hmn : ∀ W, (Builtin.min_ #[3, 3] 3 #[.int .i64 keep, .int .i64 ((s.size : Int) - (sy : Int))]).run Try.prog W = .ok (.int .i64 p) W := by
    intro W; rw [run_min_int2, hp]
  have hmx : ∀ W, (Builtin.max_ #[3, 3] 3 #[.int .i64 p, .int .i64 0]).run Try.prog W = .ok (.int .i64 (q : Int)) W := by
    intro W
    rw [run_max_int2]
    have : (if (0 : Int) > p then 0 else p) = (q : Int) := by split <;> omega
    rw [this]
  have hlv : leaves s.size sy keep = sy + q := by
    rw [leaves, ← hq, ← hp]
    split <;> omega
  have hqs : sy + q ≤ s.size := by rw [← hlv, leaves]; omega
  rw [hlv]
  clear hp hq hlv
  have h0 : (0 : Int) ≤ (sy : Int) + (q : Int) := by omega
  have h1 : (sy : Int) + (q : Int) ≤ (s.size : Int) := by omega
  have ht : ((sy : Int) + (q : Int)).toNat = sy + q := by omega
  obtain ⟨u, hu⟩ : ∃ u, s.extract 0 (sy + q) = u := ⟨_, rfl⟩
  have hus : u.size = sy + q := by rw [← hu, ByteArray.size_extract]; omega
  rw [hu]
  have k0 : Ref w.drew.drew x s sy ro h := k
  have k1 := k0.set0 u
  have g1 := Lib.grownBy_setCell w.drew.drew x 0 (.string u)
  have k2 := k1.set3 false
  have g2 := Lib.grownBy_setCell (w.drew.drew.setCell ⟨x, 0, none⟩ (.string u)) x 3 (.bool false)
  have g0 : w.grownBy w.drew.drew (some x) := grown_trans grown_drew grown_drew
  have HU := Lib.hid hus
  clear hus
  go_enter Try.func25, Try.ntmps25
  go_wp2
  go_region
  go_wp2
  go_region
  go_wp2_with fail
  refine (ref_sync k2).mono ?_
  rintro e w1 ⟨rfl, k3, g3⟩
  go_wp2
  go_end0
  refine ⟨rfl, ?_, grown_trans (grown_trans g0 (grown_trans g1 g2)) g3⟩
  rw [syncs, if_neg (by decide), HU.out] at k3
  exact k3
end

/-- the program's disk, and the document's, hold the same; what was there at the law's start is as it was -/
def Pair (w : World) (B g x : Nat) (s : ByteArray) (sy ro : Nat) (h : Bool) (W : World) : Prop :=
  DiskAt g g s.data.toList sy ro h W ∧ Ref W x s sy ro h ∧ Below B w W ∧ B ≤ g ∧ B ≤ x

section
variable {w W W1 W2 : World} {B g x sy sy' ro ro' : Nat} {s s' : ByteArray} {h h' : Bool} {l : List UInt8}

theorem Pair.below (P : Pair w B g x s sy ro h W) (hb : Below W.heap.size W W1) : Pair w B g x s sy ro h W1 :=
  ⟨P.1.below hb, P.2.1.below hb, P.2.2.1.trans (hb.mono (Nat.le_trans P.2.2.2.1 P.1.heap)), P.2.2.2⟩
theorem Pair.drew (P : Pair w B g x s sy ro h W) : Pair w B g x s sy ro h W.drew := P.below (Below.refl _ _).drew
theorem Pair.size_le (P : Pair w B g x s sy ro h W) : s.size ≤ 16777216 := by
  have h1 := P.1.len_le
  rw [data_length] at h1
  exact Nat.le_trans h1 P.1.ro_le
theorem Pair.len_le (P : Pair w B g x s sy ro h W) : s.size ≤ ro := by
  have h1 := P.1.len_le
  rw [data_length] at h1
  exact h1
theorem Pair.sy_le (P : Pair w B g x s sy ro h W) : sy ≤ s.size := by
  have h1 := P.1.sy_le
  rw [data_length] at h1
  exact h1

theorem Pair.three (P : Pair w B g x s sy ro h W) : W.cell? ⟨x, 0, none⟩ = some (.string s) ∧ W.cell? ⟨x, 1, none⟩ = some (.int .i64 sy) ∧ W.cell? ⟨x, 2, none⟩ = some (.int .i64 ro) := ⟨P.2.1.cells.1, P.2.1.cells.2.1, P.2.1.cells.2.2.1⟩

/-- the disk's deed is done -/
theorem Pair.half (P : Pair w B g x s sy ro h W) (hF : Far g W W1) : Ref W1 x s sy ro h ∧ Below B w W1 ∧ B ≤ g ∧ B ≤ x :=
  ⟨P.2.1.far hF, P.2.2.1.trans (hF.below.mono P.2.2.2.1), P.2.2.2⟩

/-- .. and the document's -/
theorem Pair.whole {s0 : ByteArray} {sy0 ro0 : Nat} {h0 : Bool} (H : Ref W1 x s0 sy0 ro0 h0 ∧ Below B w W1 ∧ B ≤ g ∧ B ≤ x) (hD : DiskAt g g l sy' ro' h' W1) (R : Ref W2 x s' sy' ro' h') (hg : W1.grownBy W2 (some x)) (hl : l = s'.data.toList) : Pair w B g x s' sy' ro' h' W2 := by
  subst hl
  refine ⟨hD.kept hg (fun k hk => by obtain rfl := Option.some.inj hk; exact ⟨_, 56, _, H.1, by decide, by decide, by decide⟩), R, ?_, H.2.2⟩
  exact H.2.1.grown hg (Nat.le_trans H.2.2.1 hD.heap) (fun k hk => by obtain rfl := Option.some.inj hk; exact H.2.2.2)
end
end Go.Proofs.Ytgdaphckgckaaaa.Dk
