/-
  Contract of fill, of package disk: a text is put behind what is on the disk, into its last piece or a new one. Conditions: a disk as DiskAt says; a text that is not empty, and fits.
-/
import Derived.Test.YtgdaphckgckaaaaDiskS
import Derived.Test.YtgdaphckgckaaaaDiskL
import Derived.Deep.RegionHeld3
import Derived.Deep.RegionLaw
namespace Go.Proofs.Ytgdaphckgckaaaa.Dk
open Go.RowKit

theorem Disk.drew {B a m : Nat} {l : List UInt8} {sy ro : Nat} {h : Bool} {v : Value} {vs : List Value} {w : World} (D : Disk B a m l sy ro h v vs w) : Disk B a m l sy ro h v vs w.drew :=
  ⟨D.base, D.heap, D.head, D.row, ⟨D.pieces.each, D.pieces.apart⟩, D.sy_le, D.len_le, D.ro_le, D.ro_pos⟩

theorem Far.drew (B : Nat) (w : World) : Far B w w.drew := ⟨(Below.refl B w).drew, fun _ _ _ _ h _ _ _ => h⟩

/-- the last piece, as the walk reads it -/
theorem Disk.last {B a k : Nat} {l : List UInt8} {sy ro : Nat} {h : Bool} {v : Value} {vs : List Value} {w : World} (D : Disk B a (k + 1) l sy ro h v vs w) :
    ∃ p cap ao c, v = .slice (some ⟨p, 0, none⟩) (k + 1) cap ∧ p ≠ a ∧ k + 1 ≤ cap ∧ cap ≤ maxLen ∧ p < w.heap.size ∧ vs[k]? = some (.slice ao (chunk l k).length c) ∧
      w.cell? ⟨p, k, none⟩ = some (.slice ao (chunk l k).length c) ∧ w.frozen? ⟨p, k, none⟩ = false ∧ some p ≠ Value.ownBlock (.slice ao (chunk l k).length c) ∧ some a ≠ Value.ownBlock (.slice ao (chunk l k).length c) ∧
      w.ownsRow B 5 1 (.slice ao (chunk l k).length c) (chunk l k).length (Lib.byteCells (chunk l k)) := by
  obtain ⟨u, hu, hown⟩ := D.pieces.each k (by omega)
  obtain ⟨ao, c, rfl⟩ := own_form hown
  have hr := D.row
  have hne := D.row_ne
  rcases D.row.2 with ⟨_, h0⟩ | ⟨p, cap, cur, rfl, hbp, hp, hmc, hcm, _⟩
  · omega
  · refine ⟨p, cap, ao, c, rfl, fun e => hne (by rw [e]; rfl), hmc, hcm, heap_lt hp, hu, ?_, hr.frozenAt k, fun e => own_ne hown hp (by decide) e.symm, fun e => own_ne hown D.head (by decide) e.symm, hown⟩
    rw [hr.cellAt k (by omega), hu]

set_option maxHeartbeats 1000000 in
set_option maxRecDepth 100000 in
theorem fill_part {B a k : Nat} {l : List UInt8} {sy ro : Nat} {h : Bool} {v : Value} {vs : List Value} {w : World} (D : Disk B a (k + 1) l sy ro h v vs w) (s : ByteArray) (hs : 0 < s.size) (hk : 4096 * k < l.length) (hsz : l.length + s.size ≤ 4096 * (k + 1)) (hro : l.length + s.size ≤ ro) :
    Calls Try.prog 39 #[.pointer (some ⟨a, 0, none⟩), .string s] w fun e w' => e = .returned (.tuple #[]) ∧ DiskAt B a (l ++ s.data.toList) sy ro h w' ∧ Far B w w' := by
  obtain ⟨i0, hi, hz0, hz1, hz2⟩ := info_parts (P := Try.prog) (e := 5) (z := .int .u8 0) (size := 1) (bytes := 1) (by kernel_rfl)
  have hlen : l.length ≤ 16777216 := Nat.le_trans D.len_le D.ro_le
  have hrole := D.ro_le
  obtain ⟨p, cap, ao, c, rfl, hpa, hkc, hcm, hpl, hu, hcell, hfz, hpo, hao, hown⟩ := D.last
  obtain ⟨c0, c1, -⟩ := D.head.cells
  have f1 := D.head.free 1
  have hal := D.head.lt
  have hhB := D.heap
  have hk0 : (0 : Int) ≤ (k : Int) := by omega
  have hk1 : (k : Int) < (k : Int) + 1 := by omega
  have hk2 : k ≤ 4096 := by omega
  have ht : ((l.length : Int) % 4096 == 0) = false := by rw [beq_eq_false_iff_ne]; omega
  have hcl : (chunk l k).length ≤ 4096 := by rw [chunk_length]; omega
  have hend := fun (g c' : Nat) (w1 : World) => D.drew.filled (g := g) (c := c') (w1 := w1) rfl s hs (by omega) hsz hro hu
  have HE := Lib.hid hend
  have HU := Lib.hid hu
  unfold maxLen at hcm
  generalize (chunk l k).length = q at *
  clear hend hu
  go_enter Try.func39, Try.ntmps39
  go_wp2_with fail
  go_region_law
    ((refine step_put_lies _ (by rfl) _ _ _ _ (by rfl) B 5 i0 Try.underlying59 Try.underlying9 hi hz0 hz1 hz2 (.slice ao q c) q (Lib.byteCells (chunk l k)) (by rfl) hown s (by rfl) hs (by unfold maxLen; omega) (by omega) (by simp; omega) w.heap.size (by simp) ?_
      intro g c' w1 hown1 hgrow hat
      have e0 := (hgrow.cell_far ⟨a, 0, none⟩ (by simp; omega) hao).trans c0
      have e1 := (hgrow.cell_far ⟨a, 1, none⟩ (by simp; omega) hao).trans c1
      have e2 := (hgrow.cell_far ⟨p, k, none⟩ (by simp; omega) hpo).trans hcell
      have e3 := (hgrow.frozen_far ⟨p, k, none⟩ (by simp; omega) hpo).trans hfz
      have e4 := (hgrow.frozen_far ⟨a, 1, none⟩ (by simp; omega) hao).trans f1))
  all_goals
    go_wp2
    go_end0
    have E := HE.out g c' w1 hown1 hgrow hat
    rw [Int.natCast_add] at E
    exact ⟨rfl, E.1, (Far.drew B w).trans E.2⟩

set_option maxHeartbeats 2000000 in
set_option maxRecDepth 100000 in
theorem fill_new {B a k : Nat} {l : List UInt8} {sy ro : Nat} {h : Bool} {v : Value} {vs : List Value} {w : World} (D : Disk B a k l sy ro h v vs w) (s : ByteArray) (hs : 0 < s.size) (hk : l.length = 4096 * k) (hsz : l.length + s.size ≤ 4096 * (k + 1)) (hro : l.length + s.size ≤ ro) :
    Calls Try.prog 39 #[.pointer (some ⟨a, 0, none⟩), .string s] w fun e w' => e = .returned (.tuple #[]) ∧ DiskAt B a (l ++ s.data.toList) sy ro h w' ∧ Far B w w' := by
  obtain ⟨i1, ji, jz0, jz1, jz2⟩ := info_parts (P := Try.prog) (e := 59) (z := .slice none 0 0) (size := 1) (bytes := 24) (by kernel_rfl)
  obtain ⟨i0, hi, hz0, hz1, hz2⟩ := info_parts (P := Try.prog) (e := 5) (z := .int .u8 0) (size := 1) (bytes := 1) (by kernel_rfl)
  have hlen : l.length ≤ 16777216 := Nat.le_trans D.len_le D.ro_le
  have hrole := D.ro_le
  obtain ⟨c0, c1, -⟩ := D.head.cells
  have f0 := D.head.free 0
  have hal := D.head.lt
  have hhB := D.heap
  have hk2 : k ≤ 4096 := by omega
  have ht : ((l.length : Int) % 4096 == 0) = true := by rw [beq_iff_eq]; omega
  have HK := Lib.hid hk
  have hra := D.row_ne
  obtain ⟨ao0, cap0, rfl⟩ := own_form D.row
  have hrow := D.row
  clear hk
  go_enter Try.func39, Try.ntmps39
  go_wp2_with (at_builtin; refine wpList_append_lies _ rfl _ _ 73 rfl B 59 i1 (.slice none 0 0) 1 24 Try.underlying73 ji jz0 jz1 jz2 rfl (by decide) (.slice ao0 k cap0) k vs rfl (hrow.alloc _) ⟨w.heap.size, 0, none⟩ 1 1 [.slice none 0 0] rfl rfl (World.news_of_block (cs := #[.slice none 0 0]) (t := 59) (fr := (0, 0)) (heap_alloc_new w _)) (by simp [Value.oneCell']) (by decide) (by unfold maxLen; omega) (by omega) (by simp; omega) (w.heap.size + 1) (by simp) ?_)
  intro p cap w1 hown1 hgrow1 hat1 hlt1
  have hm := D.more (w1 := w1) (by have := HK.out; omega) hown1 hgrow1
  have e0 := (hgrow1.cell_far ⟨a, 0, none⟩ (by simp; omega) hra).trans ((World.cell?_of_block (a := ⟨a, 0, none⟩) (Below.heap_alloc w _ a hal)).trans c0)
  have e3 := (hgrow1.frozen_far ⟨a, 0, none⟩ (by simp; omega) hra).trans ((World.frozen?_of_block (a := ⟨a, 0, none⟩) (Below.heap_alloc w _ a hal)).trans f0)
  have HM := Lib.hid hm
  clear hm
  go_wp2_with fail
  obtain ⟨D2, F2⟩ := HM.out
  clear HM e0 e3 c0 c1 f0 hown1 hgrow1 hat1 hlt1 D hrow hra
  generalize w1.setCell ⟨a, 0, none⟩ (.slice (some ⟨p, 0, none⟩) (k + 1) cap) = W at *
  obtain ⟨p', cap', ao, c, hpe, hpa, hkc, hcm, hpl, hu, hcell, hfz, hpo, hao, hown⟩ := D2.last
  obtain ⟨rfl, rfl⟩ : p = p' ∧ cap = cap' := by simpa using hpe
  clear hpe
  obtain ⟨c0, c1, -⟩ := D2.head.cells
  have f1 := D2.head.free 1
  have hal := D2.head.lt
  have hhB := D2.heap
  have hk0 : (0 : Int) ≤ (k : Int) := by omega
  have hk1 : (k : Int) < (k : Int) + 1 := by omega
  have hcl : (chunk l k).length ≤ 4096 := by rw [chunk_length]; omega
  have hend := fun (g c' : Nat) (w1 : World) => D2.drew.filled (g := g) (c := c') (w1 := w1) rfl s hs (by have := HK.out; omega) hsz hro hu
  have HE := Lib.hid hend
  have HU := Lib.hid hu
  unfold maxLen at hcm
  generalize (chunk l k).length = q at *
  clear hend hu
  go_region_law
    ((refine step_put_lies _ (by rfl) _ _ _ _ (by rfl) B 5 i0 Try.underlying59 Try.underlying9 hi hz0 hz1 hz2 (.slice ao q c) q (Lib.byteCells (chunk l k)) (by rfl) hown s (by rfl) hs (by unfold maxLen; omega) (by omega) (by simp; omega) W.heap.size (by simp) ?_
      intro g c' w3 hown3 hgrow hat
      have e0 := (hgrow.cell_far ⟨a, 0, none⟩ (by simp; omega) hao).trans c0
      have e1 := (hgrow.cell_far ⟨a, 1, none⟩ (by simp; omega) hao).trans c1
      have e2 := (hgrow.cell_far ⟨p, k, none⟩ (by simp; omega) hpo).trans hcell
      have e3 := (hgrow.frozen_far ⟨p, k, none⟩ (by simp; omega) hpo).trans hfz
      have e4 := (hgrow.frozen_far ⟨a, 1, none⟩ (by simp; omega) hao).trans f1))
  all_goals
    go_wp2
    go_end0
    have E := HE.out g c' w3 hown3 hgrow hat
    rw [Int.natCast_add] at E
    exact ⟨rfl, E.1, F2.trans ((Far.drew B W).trans E.2)⟩

theorem fill_any {B a : Nat} {l : List UInt8} {sy ro : Nat} {h : Bool} {w : World} (D : DiskAt B a l sy ro h w) (s : ByteArray) (hs : 0 < s.size) (hsz : s.size ≤ 4096 - l.length % 4096) (hro : l.length + s.size ≤ ro) :
    Calls Try.prog 39 #[.pointer (some ⟨a, 0, none⟩), .string s] w fun e w' => e = .returned (.tuple #[]) ∧ DiskAt B a (l ++ s.data.toList) sy ro h w' ∧ Far B w w' := by
  obtain ⟨v, vs, D⟩ := D
  by_cases hr : l.length % 4096 = 0
  · rw [pcs_full _ hr] at D
    exact fill_new D s hs (by omega) (by omega) hro
  · rw [pcs_part _ hr] at D
    exact fill_part D s hs (by omega) (by omega) hro
end Go.Proofs.Ytgdaphckgckaaaa.Dk
