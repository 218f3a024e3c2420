/-
  Contracts of the document's own log: Open, Append, Sync, in blocks of their own. Conditions: its disk as Ref says, its struct as RefLog says.
-/
import Derived.Test.YtgdaphckgckaaaaWalQ
import Derived.Test.YtgdaphckgckaaaaDiskR
namespace Go.Proofs.Ytgdaphckgckaaaa.Wl
open Go.RowKit
set_option maxRecDepth 100000
open Dk (DiskAt Far Ref)

/-- block y is the answer's log, over the disk in block x -/
def RefLog (w : World) (y x : Nat) (u : Value) (n : Nat) : Prop :=
  w.heap[y]? = some (.cells #[.pointer (some ⟨x, 0, none⟩), u, .int .i64 n] 52 (0, 0))

/-- block x has turned, then block y; nothing else -/
def Turned (x y : Nat) (w w' : World) : Prop := ∃ w1, w.grownBy w1 (some x) ∧ w1.grownBy w' (some y)

section
variable {w w1 w' : World} {x y n sy ro : Nat} {s : ByteArray} {u : Value} {h : Bool}
theorem RefLog.lt (k : RefLog w y x u n) : y < w.heap.size := Dk.heap_lt k
theorem RefLog.cells (k : RefLog w y x u n) : w.cell? ⟨y, 0, none⟩ = some (.pointer (some ⟨x, 0, none⟩)) ∧ w.cell? ⟨y, 1, none⟩ = some u ∧ w.cell? ⟨y, 2, none⟩ = some (.int .i64 n) := by
  refine ⟨?_, ?_, ?_⟩ <;> (rw [Lib.cell_of_heap k]; rfl)
theorem RefLog.free (k : RefLog w y x u n) (i : Nat) : w.frozen? ⟨y, i, none⟩ = false := Lib.frozen_of_heap k i
theorem RefLog.set1 (k : RefLog w y x u n) (v : Value) : RefLog (w.setCell ⟨y, 1, none⟩ v) y x v n := Lib.heap_setCell_same (i := 1) k v
theorem RefLog.set2 (k : RefLog w y x u n) (m : Nat) : RefLog (w.setCell ⟨y, 2, none⟩ (.int .i64 m)) y x u m := Lib.heap_setCell_same (i := 2) k _
theorem RefLog.below (k : RefLog w y x u n) (hb : Below w.heap.size w w') : RefLog w' y x u n := (hb.block y k.lt).trans k
theorem RefLog.ne (k : RefLog w y x u n) (R : Ref w x s sy ro h) : y ≠ x := fun e => by
  subst e
  unfold RefLog at k
  unfold Dk.Ref at R
  rw [R] at k
  simp at k
theorem RefLog.grown (k : RefLog w y x u n) (R : Ref w x s sy ro h) (hg : w.grownBy w' (some x)) : RefLog w' y x u n := (hg.block y k.lt (fun e => k.ne R (Option.some.inj e))).trans k
theorem Ref.turn {u' : Value} {n' : Nat} (R : Ref w x s sy ro h) (k : RefLog w y x u' n') (hg : w.grownBy w' (some y)) : Ref w' x s sy ro h := (hg.block x R.lt (fun e => k.ne R (Option.some.inj e).symm)).trans R
theorem grown_below (hb : Below w.heap.size w w') (row : Option Nat) : w.grownBy w' row := ⟨hb.os, hb.tape, hb.output, hb.size, fun k hk _ => hb.block k hk⟩
theorem Turned.of_x (hg : w.grownBy w' (some x)) : Turned x y w w' := ⟨w', hg, Dk.grown_refl _ _⟩
theorem Turned.of_below (hb : Below w.heap.size w w') : Turned x y w w' := .of_x (grown_below hb _)
theorem Turned.size (h : Turned x y w w') : w.heap.size ≤ w'.heap.size := by obtain ⟨w1, h1, h2⟩ := h; exact Nat.le_trans h1.size h2.size

set_option maxRecDepth 100000 in
theorem refopen_any (R : Ref w x s sy ro h) (hs : s.size ≤ 16777216) (rs : List ByteArray) (hrs : scan s.data.toList = rs) :
    Calls Try.prog 21 #[.pointer (some ⟨x, 0, none⟩)] w fun e w' => ∃ (y : Nat) (u : Value) (s' : ByteArray), e = .returned (.pointer (some ⟨y, 0, none⟩)) ∧ s'.data.toList = frames rs ∧ Ref w' x s' (frames rs).length ro false ∧ RefLog w' y x u rs.length ∧ w'.ownsRow w.heap.size 9 1 u rs.length (strs rs) ∧ w.heap.size ≤ y ∧ w.grownBy w' (some x) := by
  obtain ⟨c0, c1, c2, c3⟩ := R.cells
  have hsp := scan_le s.data.toList
  have htk := scan_take s.data.toList
  rw [hrs] at hsp htk
  rw [len_data] at hsp
  have HC := Lib.hid hrs
  obtain ⟨s', hs'⟩ : ∃ s', s.extract 0 (frames rs).length = s' := ⟨_, rfl⟩
  have hsd : s'.data.toList = frames rs := by rw [← hs', Lib.extract_data]; simpa using htk
  have HS := Lib.hid hs'
  clear htk hrs hs'
  go_enter Try.func21, Try.ntmps21
  go_wp2_with fail
  refine (refscan_any s rs HC.out (by omega) _).mono ?_
  rintro e w1 ⟨u, rfl, hown, hb⟩
  obtain ⟨ao, cap, rfl⟩ := Dk.own_form hown
  have R1 := R.below hb
  have g1 := grown_below hb (some x)
  have hs1 := hb.size
  clear R c0 c1 c2 c3 hb
  go_wp2_with fail
  refine (Dk.ref_cut_yes R1 hs (frames rs).length hsp).mono ?_
  rintro e w2 ⟨rfl, R2, g2⟩
  rw [HS.out] at R2
  have hs2 := g2.size
  have hown2 := hown.kept g2 (by right; exact Dk.own_ne hown R1 (by decide))
  have g3 := Dk.grown_trans g1 g2
  clear g1 g2 hown R1
  have hb4 : Below w2.heap.size w2 (w2.alloc (.cells #[.pointer (some ⟨x, 0, none⟩), .slice ao rs.length cap, .int .i64 rs.length] 52)) := (Below.refl _ _).alloc (Nat.le_refl _) _
  have hown4 := row_below hown2 hb4
  have R4 := R2.below hb4
  have g4 := Dk.grown_trans g3 (grown_below hb4 (some x))
  clear hown2 R2 g3 hb4
  go_wp2
  go_ret
  exact ⟨_, _, s', rfl, hsd, R4, heap_alloc_new _ _, hown4, Nat.le_trans hs1 hs2, g4⟩

theorem refsync_any (R : Ref w x s sy ro h) (k : RefLog w y x u n) (rs : List ByteArray) {B : Nat} (hr : w.ownsRow B 9 1 u rs.length (strs rs)) :
    Calls Try.prog 23 #[.pointer (some ⟨y, 0, none⟩)] w fun e w' => e = .returned (.tuple #[]) ∧ Ref w' x s (Dk.syncs h s.size sy) ro h ∧ RefLog w' y x u rs.length ∧ w'.ownsRow B 9 1 u rs.length (strs rs) ∧ Turned x y w w' := by
  obtain ⟨c0, c1, c2⟩ := k.cells
  obtain ⟨ao, cap, rfl⟩ := Dk.own_form hr
  go_enter Try.func23, Try.ntmps23
  go_wp2_with fail
  refine (Dk.ref_sync R).mono ?_
  rintro e w1 ⟨rfl, R1, g1⟩
  have k1 := k.grown R g1
  have hr1 := hr.kept g1 (by right; exact Dk.own_ne hr R (by decide))
  obtain ⟨d0, d1, d2⟩ := k1.cells
  have f2 := k1.free 2
  have g2 := Lib.grownBy_setCell w1 y 2 (.int .i64 (rs.length : Int))
  have k2 := k1.set2 rs.length
  have R2 := Ref.turn R1 k1 g2
  have hr2 := hr1.kept g2 (by right; exact Dk.own_ne hr1 k1 (by decide))
  clear c0 c1 c2 R k hr
  go_wp2
  go_end0
  exact ⟨rfl, R2, k2, hr2, w1, g1, g2⟩

theorem refput_none (R : Ref w x s sy ro h) (k : RefLog w y x u n) (r : ByteArray) (hr : ¬ may r) (hs : r.size ≤ maxLen) :
    Calls Try.prog 27 #[.pointer (some ⟨y, 0, none⟩), .string r] w fun e w' => e = .returned (.int .i64 3) ∧ Ref w' x s sy ro h ∧ RefLog w' y x u n ∧ Below w.heap.size w w' := by
  have hf := frame_no r hr
  have HF := Lib.hid hf
  clear hf hr
  go_enter Try.func27, Try.ntmps27
  go_wp2_with fail
  refine (refframe_any r _ _ HF.out hs _).mono ?_
  rintro e w1 ⟨rfl, hb1⟩
  go_wp2
  go_ret
  exact ⟨rfl, R.below hb1, k.below hb1, hb1⟩

theorem refput_full (R : Ref w x s sy ro h) (k : RefLog w y x u n) (hss : s.size ≤ 16777216) (r : ByteArray) (hr : may r) (hro : ro < s.size + (r.size + 6)) :
    Calls Try.prog 27 #[.pointer (some ⟨y, 0, none⟩), .string r] w fun e w' => e = .returned (.int .i64 4) ∧ Ref w' x s sy ro h ∧ RefLog w' y x u n ∧ w.grownBy w' (some x) := by
  have hf := frame_yes r hr
  have hfs := frm_size r
  have hr8 := hr.2
  obtain ⟨f, hfe⟩ : ∃ f, frm r = f := ⟨_, rfl⟩
  rw [hfe] at hf hfs
  have HF := Lib.hid hf
  clear hf hr hfe
  go_enter Try.func27, Try.ntmps27
  go_wp2_with fail
  refine (refframe_any r _ _ HF.out (by unfold maxLen; omega) _).mono ?_
  rintro e w1 ⟨rfl, hb1⟩
  have R1 := R.below hb1
  have k1 := k.below hb1
  have g1 := grown_below hb1 (some x)
  obtain ⟨d0, d1, d2⟩ := k1.cells
  clear R k hb1
  go_wp2_with fail
  refine (Dk.ref_append_full R1 hss f (by omega) (by omega)).mono ?_
  rintro e w2 ⟨rfl, R2, g2⟩
  have k2 := k1.grown R1 g2
  clear d0 d1 d2
  go_wp2
  go_ret
  exact ⟨rfl, R2, k2, Dk.grown_trans g1 g2⟩

set_option maxHeartbeats 2000000 in
set_option maxRecDepth 100000 in
theorem refput_fits (R : Ref w x s sy ro h) (k : RefLog w y x u n) (hro : ro ≤ 16777216) (rs : List ByteArray) {B : Nat} (hrow : w.ownsRow B 9 1 u rs.length (strs rs)) (hn : rs.length ≤ 1099511627776) (r : ByteArray) (hr : may r) (hfit : s.size + (r.size + 6) ≤ ro) :
    Calls Try.prog 27 #[.pointer (some ⟨y, 0, none⟩), .string r] w fun e w' => ∃ u' s', e = .returned (.int .i64 0) ∧ s'.data.toList = s.data.toList ++ frl r ∧ Ref w' x s' sy ro h ∧ RefLog w' y x u' n ∧ w'.ownsRow w.heap.size 9 1 u' (rs.length + 1) (strs (rs ++ [r])) ∧ Turned x y w w' := by
  obtain ⟨i0, hi, hz0, hz1, hz2⟩ := info_parts (P := Try.prog) (e := 9) (z := .string ⟨#[]⟩) (size := 1) (bytes := 16) (by kernel_rfl)
  have hf := frame_yes r hr
  have hfs := frm_size r
  have hr8 := hr.2
  have hfl : (frm r).data.toList = frl r := rfl
  obtain ⟨f, hfe⟩ : ∃ f, frm r = f := ⟨_, rfl⟩
  rw [hfe] at hf hfs hfl
  have HF := Lib.hid hf
  have HFL := Lib.hid hfl
  clear hf hr hfe hfl
  go_enter Try.func27, Try.ntmps27
  go_wp2_with fail
  refine (refframe_any r _ _ HF.out (by unfold maxLen; omega) _).mono ?_
  rintro e w1 ⟨rfl, hb1⟩
  have R1 := R.below hb1
  have k1 := k.below hb1
  have r1 := row_below hrow hb1
  have g1 := grown_below hb1 (some x)
  have hs1 := hb1.size
  obtain ⟨d0, d1, d2⟩ := k1.cells
  clear R k hb1 hrow
  go_wp2_with fail
  refine (Dk.ref_append_fits R1 hro f (by omega)).mono ?_
  rintro e w2 ⟨rfl, R2, g2⟩
  have k2 := k1.grown R1 g2
  have r2 := r1.kept g2 (by right; exact Dk.own_ne r1 R1 (by decide))
  have g3 := Dk.grown_trans g1 g2
  have hs2 := Nat.le_trans hs1 g2.size
  have hsd : (s ++ f).data.toList = s.data.toList ++ frl r := by rw [Dk.data_append, HFL.out]
  obtain ⟨s', hs'⟩ : ∃ s', s ++ f = s' := ⟨_, rfl⟩
  rw [hs'] at R2 hsd
  clear d0 d1 d2 R1 k1 r1 g1 g2 hs'
  obtain ⟨c0, c1, c2⟩ := k2.cells
  -- the end, from the list copied on
  have hend : ∀ (v1 : Value) (W : World), W.ownsRow w.heap.size 9 1 v1 rs.length (strs rs) → Below w2.heap.size w2 W → ∀ (v2 : Value) (W2 : World), W2.ownsRow w.heap.size 9 1 v2 (rs.length + 1) (strs rs ++ [.string r]) → (W.alloc (.cells #[.string r] 9)).grownBy W2 v1.ownBlock → (∀ g, v1.ownBlock = some g → w2.heap.size ≤ g) →
      RefLog W2 y x u n ∧ (Ref (W2.setCell ⟨y, 1, none⟩ v2) x s' sy ro h ∧ RefLog (W2.setCell ⟨y, 1, none⟩ v2) y x v2 n ∧ (W2.setCell ⟨y, 1, none⟩ v2).ownsRow w.heap.size 9 1 v2 (rs.length + 1) (strs (rs ++ [r])) ∧ Turned x y w (W2.setCell ⟨y, 1, none⟩ v2)) := by
    intro v1 W h1 hb v2 W2 h2 hg hv
    have hba : Below w2.heap.size w2 (W.alloc (.cells #[.string r] 9)) := hb.alloc hb.size _
    have hb2 : Below w2.heap.size w2 W2 := hba.grown hg hba.size hv
    have R3 := R2.below hb2
    have k3 := k2.below hb2
    have gs := Lib.grownBy_setCell W2 y 1 v2
    refine ⟨k3, Ref.turn R3 k3 gs, k3.set1 v2, ?_, W2, Dk.grown_trans g3 (grown_below hb2 _), gs⟩
    rw [strs_snoc]
    exact h2.kept gs (by right; exact Dk.own_ne h2 k3 (by decide))
  have HEND := Lib.hid hend
  clear hend
  rcases r2.2 with ⟨rfl, h0⟩ | ⟨g, cap, cur, rfl, hbg, hg, hcap, hcm, _⟩
  · obtain rfl : rs = [] := List.eq_nil_of_length_eq_zero h0
    go_wp2_with (at_builtin; refine wpList_append_lies _ rfl _ _ 22 rfl w.heap.size 9 i0 (.string ⟨#[]⟩) 1 16 Try.underlying22 hi hz0 hz1 hz2 rfl (by decide) (.slice none 0 0) 0 [] rfl (World.ownsRow_nil _ _ _ _) ⟨w2.heap.size, 0, none⟩ 1 1 [.string r] rfl rfl (cell_one_new _ _ _) (by simp [Value.oneCell']) (by decide) (by unfold maxLen; omega) (by omega) (by simp; omega) (w2.heap.size + 1) (by simp) ?_)
    intro g cap w3 hown3 hg3 _ _
    have E := HEND.out (.slice none 0 0) w2 (World.ownsRow_nil _ _ _ _) (Below.refl _ _) (.slice (some ⟨g, 0, none⟩) 1 cap) w3 hown3 hg3 (fun _ e => by simp [Value.ownBlock] at e)
    have e1 := E.1.cells.2.1
    have e2 := E.1.free 1
    clear HEND
    go_wp2
    go_ret
    exact ⟨_, s', rfl, hsd, E.2.1, E.2.2.1, E.2.2.2.1, E.2.2.2.2⟩
  · have hnews := r2.cells (g := g) rfl
    have hone : ∀ v ∈ strs rs, v.oneCell' = true := fun v hv => by
      obtain ⟨z, _, rfl⟩ := List.mem_map.1 hv
      rfl
    have hsl := strs_length rs
    clear hg hcm hcap
    go_wp2_with (at_builtin; refine wpList_append_own _ rfl _ _ 22 rfl w2.heap.size 9 i0 (.string ⟨#[]⟩) 1 16 Try.underlying22 hi hz0 hz1 hz2 rfl (by decide) (.slice none 0 0) 0 [] rfl (World.ownsRow_nil _ _ _ _) ⟨g, 0, none⟩ rs.length cap (strs rs) rfl (by omega) hnews hone ?c3 ?c4 ?c5 ?_)
    case c3 => unfold maxLen; omega
    case c4 => omega
    case c5 => omega
    intro v1 W hown1 hgrow1 _
    have hbW : Below w2.heap.size w2 W := (Below.refl w2.heap.size w2).grown hgrow1 (Nat.le_refl _) (fun j e => by simp [Value.ownBlock] at e)
    have hown1' := row_mono hown1 hs2
    have hsW := hbW.size
    have hlt1 := hown1.lt
    obtain ⟨ao1, cap1, rfl⟩ := Dk.own_form hown1
    clear hnews hone hgrow1
    go_wp2_with (at_builtin; refine wpList_append_lies _ rfl _ _ 22 rfl w.heap.size 9 i0 (.string ⟨#[]⟩) 1 16 Try.underlying22 hi hz0 hz1 hz2 rfl (by decide) (.slice ao1 rs.length cap1) rs.length (strs rs) rfl (hown1'.alloc _) ⟨W.heap.size, 0, none⟩ 1 1 [.string r] rfl rfl (cell_one_new _ _ _) (by simp [Value.oneCell']) (by decide) (by unfold maxLen; omega) (by omega) (by simp; omega) (W.heap.size + 1) (by simp) ?_)
    intro g2 cap2 w3 hown3 hg3 _ _
    have E := HEND.out (.slice ao1 rs.length cap1) W hown1' hbW (.slice (some ⟨g2, 0, none⟩) (rs.length + 1) cap2) w3 hown3 hg3 (fun j e => (hlt1 j e).1)
    have e1 := E.1.cells.2.1
    have e2 := E.1.free 1
    clear HEND
    go_wp2
    go_ret
    exact ⟨_, s', rfl, hsd, E.2.1, E.2.2.1, E.2.2.2.1, E.2.2.2.2⟩
end
end Go.Proofs.Ytgdaphckgckaaaa.Wl
