/-
  Contracts of package disk, each said of a disk in memory: New, Append, Sync, Hold, Crash, Cut, Grow, Bytes, Synced, Room. Conditions: a disk as DiskAt says.
-/
import Derived.Test.YtgdaphckgckaaaaDiskP
import Derived.Test.YtgdaphckgckaaaaDiskW
import Derived.Test.YtgdaphckgckaaaaDiskB
namespace Go.Proofs.Ytgdaphckgckaaaa.Dk
open Go.RowKit

section
variable {B a : Nat} {l : List UInt8} {sy ro : Nat} {h : Bool} {w w' : World}

/-- a disk is kept while blocks turn that are no part of it -/
theorem DiskAt.kept {row : Option Nat} (D : DiskAt B a l sy ro h w) (hg : w.grownBy w' row) (hr : ∀ k, row = some k → ∃ cs t fz, w.heap[k]? = some (.cells cs t fz) ∧ t ≠ 5 ∧ t ≠ 59 ∧ t ≠ 75) : DiskAt B a l sy ro h w' := by
  obtain ⟨v, vs, D⟩ := D
  refine ⟨v, vs, D.base, Nat.le_trans D.heap hg.size, ?_, ?_, ?_, D.sy_le, D.len_le, D.ro_le, D.ro_pos⟩
  · refine D.head.kept hg fun e => ?_
    obtain ⟨cs, t, fz, h1, _, _, h2⟩ := hr a e.symm
    have h3 := D.head
    unfold Head at h3
    rw [h1] at h3
    simp only [Option.some.injEq, Obj.cells.injEq] at h3
    exact h2 h3.2.1
  · refine D.row.kept hg ?_
    rcases ho : v.ownBlock with _ | g
    · exact .inl rfl
    · right
      intro e
      obtain ⟨cs, t, fz, h1, _, h2, _⟩ := hr g e.symm
      exact own_ne D.row h1 h2 ho
  · exact D.pieces.kept_other hg fun k hk => by obtain ⟨cs, t, fz, h1, h2, _⟩ := hr k hk; exact ⟨cs, t, fz, h1, h2⟩

theorem DiskAt.below (D : DiskAt B a l sy ro h w) (hb : Below w.heap.size w w') : DiskAt B a l sy ro h w' := D.kept (grown_of_below hb) (fun _ e => by cases e)

theorem DiskAt.heap (D : DiskAt B a l sy ro h w) : B ≤ w.heap.size := by obtain ⟨v, vs, D⟩ := D; exact D.heap
theorem DiskAt.len_le (D : DiskAt B a l sy ro h w) : l.length ≤ ro := by obtain ⟨v, vs, D⟩ := D; exact D.len_le
theorem DiskAt.sy_le (D : DiskAt B a l sy ro h w) : sy ≤ l.length := by obtain ⟨v, vs, D⟩ := D; exact D.sy_le
theorem DiskAt.ro_le (D : DiskAt B a l sy ro h w) : ro ≤ 16777216 := by obtain ⟨v, vs, D⟩ := D; exact D.ro_le
theorem DiskAt.ro_pos (D : DiskAt B a l sy ro h w) : 1 ≤ ro := by obtain ⟨v, vs, D⟩ := D; exact D.ro_pos

/-- a store into the struct, not of the list of pieces -/
theorem Disk.store {v : Value} {vs : List Value} (D : Disk B a (pcs l.length) l sy ro h v vs w) (i : Nat) (u : Value) {sy' ro' : Nat} {h' : Bool} (hH : Head (w.setCell ⟨a, i, none⟩ u) a v l.length sy' ro' h')
    (h1 : sy' ≤ l.length) (h2 : l.length ≤ ro') (h3 : ro' ≤ 16777216) (h4 : 1 ≤ ro') : DiskAt B a l sy' ro' h' (w.setCell ⟨a, i, none⟩ u) ∧ Far B w (w.setCell ⟨a, i, none⟩ u) := by
  have g := Lib.grownBy_setCell w a i u
  refine ⟨⟨v, vs, D.base, Nat.le_trans D.heap g.size, hH, D.row.kept g (.inr (own_ne D.row D.head (by decide))), D.pieces.kept_other g (fun b hb => by obtain rfl := Option.some.inj hb; exact ⟨_, 75, _, D.head, by decide⟩), h1, h2, h3, h4⟩, ?_⟩
  exact Far.of_grown g D.heap fun b hb => by obtain rfl := Option.some.inj hb; exact ⟨D.base, _, 75, _, D.head, .inr (.inr rfl)⟩

/-- what is synced behind a Sync -/
def syncs (h : Bool) (n sy : Nat) : Nat := if h then sy else n

theorem sync_any (D : DiskAt B a l sy ro h w) : Calls Try.prog 42 #[.pointer (some ⟨a, 0, none⟩)] w fun e w' => e = .returned (.int .i64 0) ∧ DiskAt B a l (syncs h l.length sy) ro h w' ∧ Far B w w' := by
  obtain ⟨v, vs, D⟩ := D
  cases h with
  | true =>
    refine (sync_held a _ sy ro v w D.head).mono ?_
    rintro e w' ⟨rfl, rfl⟩
    exact ⟨rfl, ⟨v, vs, D⟩, Far.refl B w⟩
  | false =>
    refine (sync_free a _ sy ro v w D.head).mono ?_
    rintro e w' ⟨rfl, rfl⟩
    exact ⟨rfl, D.store 2 _ (D.head.set2 l.length) (Nat.le_refl _) D.len_le D.ro_le D.ro_pos⟩

/-- the room behind a Grow, and its error -/
def grows (ro : Nat) (more : Int) : Nat := if 0 ≤ more ∧ more ≤ 16777216 - (ro : Int) then ro + more.toNat else ro
def growsE (ro : Nat) (more : Int) : Int := if 0 ≤ more ∧ more ≤ 16777216 - (ro : Int) then 0 else 1

theorem cut_yes (D : DiskAt B a l sy ro h w) (size : Nat) (hs : size ≤ l.length) :
    Calls Try.prog 40 #[.pointer (some ⟨a, 0, none⟩), .int .i64 (size : Int)] w fun e w' => e = .returned (.int .i64 0) ∧ DiskAt B a (l.take size) size ro false w' ∧ Far B w w' := by
  have hD := D
  obtain ⟨v, vs, D⟩ := D
  obtain ⟨c0, c1, c2, c3, c4⟩ := D.head.cells
  have hs1 : (size : Int) ≤ (l.length : Int) := by omega
  go_enter Try.func40, Try.ntmps40
  go_wp2_with fail
  refine (leave_any hD size hs).mono ?_
  rintro e w1 ⟨rfl, hD1, hF1⟩
  go_wp2
  go_ret
  exact ⟨rfl, hD1, hF1⟩

theorem cut_no (D : DiskAt B a l sy ro h w) (size : Int) (hs : size < 0 ∨ (l.length : Int) < size) :
    Calls Try.prog 40 #[.pointer (some ⟨a, 0, none⟩), .int .i64 size] w fun e w' => e = .returned (.int .i64 1) ∧ w = w' := by
  obtain ⟨v, vs, D⟩ := D
  obtain ⟨c0, c1, c2, c3, c4⟩ := D.head.cells
  by_cases h0 : size < 0
  · clear hs
    go_enter Try.func40, Try.ntmps40
    go_wp2
    go_ret
    exact ⟨rfl, rfl⟩
  · have h1 : (l.length : Int) < size := by omega
    clear hs
    go_enter Try.func40, Try.ntmps40
    go_wp2
    go_ret
    exact ⟨rfl, rfl⟩

/-- how many bytes a crash leaves -/
def leaves (n sy : Nat) (keep : Int) : Nat := sy + min keep.toNat (n - sy)

theorem crash_any (D : DiskAt B a l sy ro h w) (keep : Int) :
    Calls Try.prog 24 #[.pointer (some ⟨a, 0, none⟩), .int .i64 keep] w fun e w' => e = .returned (.tuple #[]) ∧ DiskAt B a (l.take (leaves l.length sy keep)) (leaves l.length sy keep) ro false w' ∧ Far B w w' := by
  have hD := D.drew
  obtain ⟨v, vs, D⟩ := D
  obtain ⟨c0, c1, c2, c3, c4⟩ := D.head.cells
  have hsy := D.sy_le
  have hro := D.ro_le
  have hle := D.len_le
  obtain ⟨x, hx⟩ : ∃ x, keep.toNat = x := ⟨_, rfl⟩
  obtain ⟨q, hq⟩ : ∃ q, min x (l.length - sy) = q := ⟨_, rfl⟩
  have hmax : ∀ W', (Builtin.max_ #[3, 3] 3 #[.int .i64 keep, .int .i64 0]).run Try.prog W' = .ok (.int .i64 (x : Int)) W' := by
    intro W'
    rw [run_max_int2]
    have : (if (0 : Int) > keep then 0 else keep) = (x : Int) := by split <;> omega
    rw [this]
  have hmin : ∀ W', (Builtin.min_ #[3, 3] 3 #[.int .i64 (x : Int), .int .i64 ((l.length : Int) - (sy : Int))]).run Try.prog W' = .ok (.int .i64 (q : Int)) W' := by
    intro W'
    rw [run_min_int2]
    have : (if ((l.length : Int) - (sy : Int)) < (x : Int) then ((l.length : Int) - (sy : Int)) else (x : Int)) = (q : Int) := by split <;> omega
    rw [this]
  have hlv : leaves l.length sy keep = sy + q := by rw [leaves, hx, hq]
  have hqs : sy + q ≤ l.length := by omega
  rw [hlv]
  clear hx hq hlv
  have hcast : ((sy : Int) + (q : Int)) = ((sy + q : Nat) : Int) := by omega
  have HC := Lib.hid hcast
  clear hcast
  go_enter Try.func24, Try.ntmps24
  go_wp2
  go_region
  go_wp2_with fail
  rw [HC.out]
  refine (leave_any hD (sy + q) hqs).mono ?_
  rintro e w1 ⟨rfl, hD1, hF1⟩
  go_wp2
  go_end0
  exact ⟨rfl, hD1, (Far.drew B w).trans hF1⟩
end
end Go.Proofs.Ytgdaphckgckaaaa.Dk
