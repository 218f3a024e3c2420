/-
  The program's log and disk, and the document's, that hold the same; what is done to the one, then to the other. Conditions: as each theorem says.
-/
import Derived.Test.YtgdaphckgckaaaaWalR
import Derived.Test.YtgdaphckgckaaaaDiskT
namespace Go.Proofs.Ytgdaphckgckaaaa.Wl
open Go.RowKit
open Dk (DiskAt Far Ref)

/-- the document's side, and what else is kept, while the program's is done -/
structure Half (w : World) (B x y : Nat) (v u : Value) (rs : List ByteArray) (n : Nat) (s : ByteArray) (sy ro : Nat) (W : World) : Prop where
  ref : Ref W x s sy ro false
  rlog : RefLog W y x u n
  row : W.ownsRow B 9 1 u rs.length (strs rs)
  apart : Apart v u
  below : Below B w W
  bx : B ≤ x
  by' : B ≤ y

/-- both hold the same; what was there at the law's start is as it was -/
structure Two (w : World) (B g x a y : Nat) (v u : Value) (rs : List ByteArray) (n : Nat) (s : ByteArray) (sy ro : Nat) (W : World) : Prop where
  disk : DiskAt g g s.data.toList sy ro false W
  log : LogIn B a g v rs n W
  half : Half w B x y v u rs n s sy ro W
  bg : B ≤ g

/-- a deed, in a block of its own -/
def Deed (W : World) (d : Nat) (c : Int) (t : ByteArray) (n : Int) : Prop := W.heap[d]? = some (.cells #[.int .u8 c, .string t, .int .u8 n] 47 (0, 0))

section
variable {w W W1 W2 : World} {B C g x a y n n' sy sy' ro d : Nat} {v v' u u' : Value} {rs rs' : List ByteArray} {s s' : ByteArray} {c m : Int} {t : ByteArray}

theorem Deed.cells (k : Deed W d c t m) : W.cell? ⟨d, 0, none⟩ = some (.int .u8 c) ∧ W.cell? ⟨d, 1, none⟩ = some (.string t) ∧ W.cell? ⟨d, 2, none⟩ = some (.int .u8 m) := by
  refine ⟨?_, ?_, ?_⟩ <;> (rw [Lib.cell_of_heap k]; rfl)
theorem Deed.below (k : Deed W d c t m) (hb : Below W.heap.size W W1) : Deed W1 d c t m := (hb.block d (Dk.heap_lt k)).trans k
theorem Deed.far (k : Deed W d c t m) (hF : Far g W W1) : Deed W1 d c t m := hF.kept d _ 47 _ k (by decide) (by decide) (by decide)
theorem Deed.farL (k : Deed W d c t m) (L : LogIn B a g v rs n W) (hF : FarL C a v W W1) : Deed W1 d c t m := by
  refine hF.kept d _ 47 _ k (by decide) (by decide) (by decide) (fun e => ?_) (fun e => Dk.own_ne L.row k (by decide) e.symm)
  subst e
  have h := L.head
  unfold LogHead at h
  unfold Deed at k
  rw [h] at k
  simp at k
theorem Deed.turned (k : Deed W d c t m) (R : Ref W x s sy ro false) (K : RefLog W y x u n) (hT : Turned x y W W1) : Deed W1 d c t m := by
  obtain ⟨Wm, h1, h2⟩ := hT
  refine (h2.block d (Nat.lt_of_lt_of_le (Dk.heap_lt k) h1.size) fun e => ?_).trans ((h1.block d (Dk.heap_lt k) fun e => ?_).trans k)
  · obtain rfl := Option.some.inj e
    unfold RefLog at K
    unfold Deed at k
    rw [K] at k
    simp at k
  · obtain rfl := Option.some.inj e
    unfold Dk.Ref at R
    unfold Deed at k
    rw [R] at k
    simp at k

theorem Two.below (T : Two w B g x a y v u rs n s sy ro W) (hb : Below W.heap.size W W1) : Two w B g x a y v u rs n s sy ro W1 :=
  ⟨T.disk.below hb, T.log.below hb, ⟨T.half.ref.below hb, T.half.rlog.below hb, row_below T.half.row hb, T.half.apart, T.half.below.trans (hb.mono T.log.heap), T.half.bx, T.half.by'⟩, T.bg⟩
theorem Two.drew (T : Two w B g x a y v u rs n s sy ro W) : Two w B g x a y v u rs n s sy ro W.drew := T.below (Below.refl _ _).drew

theorem Two.pair (T : Two w B g x a y v u rs n s sy ro W) : W.cell? ⟨y, 2, none⟩ = some (.int .i64 n) ∧ W.cell? ⟨x, 0, none⟩ = some (.string s) := ⟨T.half.rlog.cells.2.2, T.half.ref.cells.1⟩
theorem Two.size_le (T : Two w B g x a y v u rs n s sy ro W) : s.size ≤ 16777216 := by
  have h1 := T.disk.len_le
  rw [Dk.data_length] at h1
  exact Nat.le_trans h1 T.disk.ro_le
theorem Two.sy_le (T : Two w B g x a y v u rs n s sy ro W) : sy ≤ s.size := by
  have h1 := T.disk.sy_le
  rw [Dk.data_length] at h1
  exact h1

theorem Half.below_ (H : Half w B x y v u rs n s sy ro W) (hB : B ≤ W.heap.size) (hb : Below W.heap.size W W1) : Half w B x y v u rs n s sy ro W1 :=
  ⟨H.ref.below hb, H.rlog.below hb, row_below H.row hb, H.apart, H.below.trans (hb.mono hB), H.bx, H.by'⟩

/-- the program's deed is done -/
theorem Two.deed (T : Two w B g x a y v u rs n s sy ro W) (hF : FarL B a v W W1) (hv : ∀ g, v'.ownBlock = some g → v.ownBlock = some g ∨ W.heap.size ≤ g) : Half w B x y v' u rs n s sy ro W1 := by
  have H := T.half
  have L := T.log.head
  refine ⟨?_, ?_, row_farL H.row T.log hF H.apart, H.apart.left H.row hv, H.below.trans hF.below, H.bx, H.by'⟩
  · refine hF.kept x _ 56 _ H.ref (by decide) (by decide) (by decide) (fun e => ?_) (fun e => Dk.own_ne T.log.row H.ref (by decide) e.symm)
    have R := H.ref
    subst e
    unfold LogHead at L
    unfold Dk.Ref at R
    rw [L] at R
    simp at R
  · refine hF.kept y _ 52 _ H.rlog (by decide) (by decide) (by decide) (fun e => ?_) (fun e => Dk.own_ne T.log.row H.rlog (by decide) e.symm)
    have R := H.rlog
    subst e
    unfold LogHead at L
    unfold RefLog at R
    rw [L] at R
    simp at R

/-- a disk and a log are kept while the document's blocks turn -/
theorem disk_turned {l : List UInt8} (D : DiskAt g g l sy' ro false W) (R : Ref W x s sy ro false) (K : RefLog W y x u n) (hT : Turned x y W W1) : DiskAt g g l sy' ro false W1 := by
  obtain ⟨Wm, h1, h2⟩ := hT
  have K1 := K.grown R h1
  exact (D.kept h1 fun k hk => by obtain rfl := Option.some.inj hk; exact ⟨_, 56, _, R, by decide, by decide, by decide⟩).kept h2 fun k hk => by obtain rfl := Option.some.inj hk; exact ⟨_, 52, _, K1, by decide, by decide, by decide⟩

theorem LogIn.other {k : Nat} {cs : Array Value} {tt : TypeId} {fz : Nat × Nat} (L : LogIn B a g v rs n W) (hg : W.grownBy W1 (some k)) (h : W.heap[k]? = some (.cells cs tt fz)) (h1 : tt ≠ 9) (h2 : tt ≠ 79) : LogIn B a g v rs n W1 :=
  ⟨L.base, Nat.le_trans L.heap hg.size, (hg.block a L.head.lt fun e => by
      obtain rfl := Option.some.inj e
      have := L.head
      unfold LogHead at this
      rw [h] at this
      simp only [Option.some.injEq, Obj.cells.injEq] at this
      exact h2 this.2.1).trans L.head, L.row.kept hg (.inr (Dk.own_ne L.row h h1))⟩

theorem log_turned (L : LogIn B a g v rs' n' W) (R : Ref W x s sy ro false) (K : RefLog W y x u n) (hT : Turned x y W W1) : LogIn B a g v rs' n' W1 := by
  obtain ⟨Wm, h1, h2⟩ := hT
  exact (L.other h1 R (by decide) (by decide)).other h2 (K.grown R h1) (by decide) (by decide)

theorem below_turned (H : Below B w W) (hB : B ≤ W.heap.size) (hx : B ≤ x) (hy : B ≤ y) (hT : Turned x y W W1) : Below B w W1 := by
  obtain ⟨Wm, h1, h2⟩ := hT
  exact (H.grown h1 hB fun k hk => by obtain rfl := Option.some.inj hk; exact hx).grown h2 (Nat.le_trans hB h1.size) fun k hk => by obtain rfl := Option.some.inj hk; exact hy

/-- .. and the document's -/
theorem Half.whole {l : List UInt8} (H : Half w B x y v u rs n s sy ro W) (D : DiskAt g g l sy' ro false W) (L : LogIn B a g v rs' n' W) (hg : B ≤ g) (R : Ref W1 x s' sy' ro false) (K : RefLog W1 y x u' n') (hr : W1.ownsRow C 9 1 u' rs'.length (strs rs')) (hC : B ≤ C) (hT : Turned x y W W1)
    (hu : ∀ g, u'.ownBlock = some g → u.ownBlock = some g ∨ W.heap.size ≤ g) (hl : l = s'.data.toList) : Two w B g x a y v u' rs' n' s' sy' ro W1 := by
  subst hl
  exact ⟨disk_turned D H.ref H.rlog hT, log_turned L H.ref H.rlog hT, ⟨R, K, row_mono hr hC, H.apart.right L.row hu, below_turned H.below L.heap H.bx H.by' hT, H.bx, H.by'⟩, hg⟩

/-- both are opened -/
theorem opened {l : List UInt8} (D : DiskAt g g l sy' ro false W) (L : LogIn C a g v rs n W) (hC : B ≤ C) (R : Ref W x s sy ro false) (hb : Below B w W) (hg : B ≤ g) (hx : B ≤ x) (R1 : Ref W1 x s' sy' ro false) (K1 : RefLog W1 y x u n) (hr : W1.ownsRow W.heap.size 9 1 u rs.length (strs rs)) (hy : W.heap.size ≤ y) (hgr : W.grownBy W1 (some x)) (hl : s'.data.toList = l) :
    Two w B g x a y v u rs n s' sy' ro W1 := by
  subst hl
  have hBW : B ≤ W.heap.size := Nat.le_trans hC L.heap
  refine ⟨D.kept hgr fun k hk => by obtain rfl := Option.some.inj hk; exact ⟨_, 56, _, R, by decide, by decide, by decide⟩, (L.mono hC).other hgr R (by decide) (by decide), ⟨R1, K1, row_mono hr hBW, fun k hk e => ?_, ?_, hx, Nat.le_trans hBW hy⟩, hg⟩
  · have h1 := (L.row.lt k hk).2
    have h2 := (hr.lt k e).1
    omega
  · exact hb.grown hgr hBW fun k hk => by obtain rfl := Option.some.inj hk; exact hx
end
end Go.Proofs.Ytgdaphckgckaaaa.Wl
