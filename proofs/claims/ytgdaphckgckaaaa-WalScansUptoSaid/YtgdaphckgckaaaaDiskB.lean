/-
  Contract of disk.Bytes: what is on a disk is told, and memory that was there is as it was. Conditions: a disk as DiskAt says.
-/
import Derived.Test.YtgdaphckgckaaaaDiskW
import Derived.Test.YtgdaphckgckaaaaShelf
namespace Go.Proofs.Ytgdaphckgckaaaa.Dk
open Go.RowKit

/-- a strings.Builder in a block of its own from B on, used already, that holds bytes -/
abbrev Bld (B b : Nat) (bs : List Value) (w : World) : Prop := Lib.BuilderAt 85 5 B b (.pointer (some ⟨b, 0, none⟩)) bs w

theorem check_used (B b : Nat) (bs : List Value) (w : World) (h : Bld B b bs w) :
    Calls Try.prog 58 #[.pointer (some ⟨b, 0, none⟩)] w fun e w' => e = .returned (.tuple #[]) ∧ (Bld B b bs w' ∧ Below B w w') :=
  Any.Builder_copyCheck (ρ := Try.lays165_ren) { Try.lays165 with } Try.Builder_Extra_165.toX72 B b bs w (.inr h)

/-- Write of a row of bytes that lies below the builder's own blocks -/
theorem write_in (B b g m cap : Nat) (bs news : List Value) (w : World) (h : Bld B b bs w) (hB : B ≤ w.heap.size) (hg : g < B)
    (hl : news.length = m) (hnews : ∀ j u, news[j]? = some u → w.cell? ((⟨g, 0, none⟩ : Addr).add j) = some u) (h1 : ∀ u ∈ news, u.oneCell' = true) (hlen : bs.length + m ≤ 140737488355328) :
    Calls Try.prog 48 #[.pointer (some ⟨b, 0, none⟩), .slice (some ⟨g, 0, none⟩) m cap] w fun e w' => e = .returned (.tuple #[.int .i64 m, .nilIface]) ∧ Bld B b (bs ++ news) w' ∧ Below B w w' := by
  obtain ⟨i0, hi, hz0, hz1, hz2⟩ := info_parts (P := Try.prog) (e := 5) (z := .int .u8 0) (size := 1) (bytes := 1) (by kernel_rfl)
  go_enter Try.func48, Try.ntmps48
  go_wp2_with fail
  refine (check_used B b bs _ h).mono ?_
  rintro e w1 ⟨rfl, hk, hb1⟩
  have hk' := hk
  obtain ⟨hBb, v, hbk, hown, hne⟩ := hk
  have c1 : w1.cell? ⟨b, 1, none⟩ = some v := by rw [Lib.cell_of_heap hbk]; rfl
  have hn1 : ∀ j u, news[j]? = some u → w1.cell? ((⟨g, 0, none⟩ : Addr).add j) = some u := fun j u hu => by
    rw [hb1.cell (p := (⟨g, 0, none⟩ : Addr).add j) (by unfold Addr.add; split <;> exact hg)]; exact hnews j u hu
  have hs1 := hb1.size
  have HL := Lib.hid hl
  clear hl
  go_wp2_with (at_builtin; refine wpList_append_own _ rfl _ _ 59 rfl B 5 i0 (.int .u8 0) 1 1 Try.underlying59 hi hz0 hz1 hz2 rfl (by decide) _ _ _ rfl hown ⟨g, 0, none⟩ m cap news rfl (by have := HL.out; omega) hn1 h1 ?c3 ?c4 ?c5 ?_)
  case c3 => unfold maxLen; omega
  case c4 => omega
  case c5 => omega
  intro v' w2 hown' hgrow _
  have hb2 : w2.heap[b]? = some (.cells #[.pointer (some ⟨b, 0, none⟩), v] 85 (0, 0)) := by
    rw [hgrow.block b (heap_lt hbk) (fun e => hne e.symm)]
    exact hbk
  have d1 : w2.cell? ⟨b, 1, none⟩ = some v := by rw [Lib.cell_of_heap hb2]; rfl
  have f1 : w2.frozen? ⟨b, 1, none⟩ = false := Lib.frozen_of_heap hb2 1
  obtain ⟨ao, n', cap', rfl⟩ : ∃ ao n' cap', v' = .slice ao n' cap' := by
    rcases hown'.2 with ⟨hv, _⟩ | ⟨g', cap', cur, hv, _⟩
    · exact ⟨_, _, _, hv⟩
    · exact ⟨_, _, _, hv⟩
  go_wp2
  go_ret2
  refine ⟨rfl, Lib.BuilderAt.put (T := 85) (e := 5) hBb hb2 (bs' := bs ++ news) (by rw [List.length_append, HL.out]; exact hown') (by decide), ?_⟩
  exact (hb1.grown hgrow (by omega) (fun k hk => (hown.lt k hk).1)).setCell (p := ⟨b, 1, none⟩) hBb _

theorem byteCells_one (l : List UInt8) : ∀ u ∈ Lib.byteCells l, u.oneCell' = true := by
  intro u hu
  simp only [Lib.byteCells, List.mem_map] at hu
  obtain ⟨b, _, rfl⟩ := hu
  rfl

set_option maxRecDepth 100000 in
theorem bytes_any {B a : Nat} {l : List UInt8} {sy ro : Nat} {h : Bool} {w : World} (D : DiskAt B a l sy ro h w) :
    Calls Try.prog 30 #[.pointer (some ⟨a, 0, none⟩)] w fun e w' => e = .returned (.string ⟨l.toArray⟩) ∧ Below w.heap.size w w' := by
  obtain ⟨v, vs, D⟩ := D
  have hlen : l.length ≤ 16777216 := Nat.le_trans D.len_le D.ro_le
  have hal := D.head.lt
  obtain ⟨c0, c1, -⟩ := D.head.cells
  obtain ⟨n, hn⟩ : ∃ n, pcs l.length = n := ⟨_, rfl⟩
  have hn2 : n ≤ 4096 := by rw [← hn]; unfold pcs; omega
  have hall := take_all l
  rw [hn] at hall
  have hcne : ∀ k, k < n → chunk l k ≠ [] := fun k hk => chunk_ne l k (by rw [hn]; exact hk)
  have HC := Lib.hid hcne
  have HA := Lib.hid hall
  rw [hn] at D
  clear hn hall hcne
  obtain ⟨ao, cap, hv⟩ := own_form D.row
  subst hv
  go_enter Try.func30, Try.ntmps30
  go_wp2
  refine wp_scope_jumps 0 (fun a' W => Below w.heap.size w W ∧ ∃ (k : Nat) (u5 u6 u7 u8 u9 u10 u11 u12 u13 u14 u15 u16 u17 u18 u19 u20 u21 u22 u23 u24 u25 u26 u27 : Value), a' = { tmps := #[.pointer (some ⟨a, 0, none⟩), undef, .string ⟨#[]⟩, .pointer (some ⟨w.heap.size, 0, none⟩), .int .i64 k, u5, u6, u7, u8, u9, u10, u11, u12, u13, u14, u15, u16, u17, u18, u19, u20, u21, u22, u23, u24, u25, u26, u27], defers := [] } ∧ k ≤ n ∧ Bld w.heap.size w.heap.size (Lib.byteCells (l.take (4096 * k))) W) (fun a' _ => n - (intOf (a'.tmps.getD 4 undef)).toNat) rfl ?_ ?_
  · by_cases hp : 0 < n
    · obtain ⟨p, g, c, rfl, hp1, hg1, hp2, hp3, hcell, hnews⟩ := D.piece 0 hp (HC.out 0 hp)
      have hcl : (chunk l 0).length ≤ 4096 := by rw [chunk_length]; omega
      have htk := take_chunk l 0
      have hp0 : (0 : Int) < (n : Int) := by omega
      unfold maxLen at hp3
      generalize hm : (chunk l 0).length = m at *
      have HM := Lib.hid hm
      have HT := Lib.hid htk
      have HNW := Lib.hid hnews
      clear hm htk hnews
      go_wp2_with fail
      have hb0 : Below w.heap.size w (w.alloc (.cells #[.pointer none, .slice none 0 0] 85)) := (Below.refl _ _).alloc (Nat.le_refl _) _
      refine (Try.Builder_Grow_fresh w.heap.size w.heap.size l.length _ (Nat.le_refl _) (heap_alloc_new w _) hb0.size (by omega)).mono ?_
      rintro e w1 ⟨rfl, hk, hb1⟩
      have hb2 := hb0.trans hb1
      clear hb0 hb1
      have d0 : w1.cell? ⟨a, 0, none⟩ = some (.slice (some ⟨p, 0, none⟩) n cap) := by rw [hb2.cell (p := ⟨a, 0, none⟩) hal, c0]
      have d1 : w1.cell? ⟨p, 0, none⟩ = some (.slice (some ⟨g, 0, none⟩) m c) := by rw [hb2.cell (p := ⟨p, 0, none⟩) hp1, hcell]
      go_wp2_with fail
      go_step3
      go_wp2_with fail
      refine (write_in w.heap.size w.heap.size g m c _ (Lib.byteCells (chunk l 0)) _ hk hb2.size hg1 (by rw [Lib.byteCells_length, HM.out]) (fun j u hu => by rw [hb2.cell (p := (⟨g, 0, none⟩ : Addr).add j) (by unfold Addr.add; split <;> exact hg1)]; exact HNW.out j u hu) (byteCells_one _) (by simp; omega)).mono ?_
      rintro e w2 ⟨rfl, hk2, hb3⟩
      have hb4 := hb2.trans hb3
      clear hk hb2 hb3 d0 d1
      go_wp2
      go_step3
      refine ⟨rfl, hb4, 1, _, _, _, _, _, _, _, _, _, _, _, _, _, _, _, _, _, _, _, _, _, _, _, rfl, hp, ?_⟩
      have e := HT.out
      rw [Nat.mul_zero, List.take_zero, List.nil_append] at e
      rw [show 4096 * 1 = 4096 * (0 + 1) by rfl, ← e]
      exact hk2
    · obtain rfl : n = 0 := by omega
      have hl0 : l = [] := by have := HA.out; rw [Nat.mul_zero, List.take_zero] at this; exact this.symm
      have HL := Lib.hid hl0
      clear hl0 HA D hp
      go_wp2_with fail
      have hb0 : Below w.heap.size w (w.alloc (.cells #[.pointer none, .slice none 0 0] 85)) := (Below.refl _ _).alloc (Nat.le_refl _) _
      refine (Try.Builder_Grow_fresh w.heap.size w.heap.size l.length _ (Nat.le_refl _) (heap_alloc_new w _) hb0.size (by omega)).mono ?_
      rintro e w1 ⟨rfl, hk, hb1⟩
      have hb2 := hb0.trans hb1
      clear hb0 hb1
      have d0 : w1.cell? ⟨a, 0, none⟩ = some (.slice ao 0 cap) := by rw [hb2.cell (p := ⟨a, 0, none⟩) hal, c0]
      go_wp2_with fail
      go_step3
      go_wp2_with fail
      refine (Try.Builder_String_any w.heap.size w.heap.size [] _ (.inr hk) hb2.size).mono ?_
      rintro e w2 ⟨rfl, hb3⟩
      have hb4 := hb2.trans hb3
      clear hk hb2 hb3 d0
      go_wp2
      simp only [Exit.jump]
      go_ret
      exact ⟨by rw [HL.out]; rfl, hb4⟩
  · rintro a' W ⟨hb, k, u5, u6, u7, u8, u9, u10, u11, u12, u13, u14, u15, u16, u17, u18, u19, u20, u21, u22, u23, u24, u25, u26, u27, rfl, hkn, hk⟩
    by_cases hp : k < n
    · obtain ⟨p, g, c, rfl, hp1, hg1, hp2, hp3, hcell, hnews⟩ := D.piece k hp (HC.out k hp)
      have hcl : (chunk l k).length ≤ 4096 := by rw [chunk_length]; omega
      have htk := take_chunk l k
      have hp0 : (0 : Int) ≤ (k : Int) := by omega
      have hp4 : (k : Int) < (n : Int) := by omega
      have htl : (Lib.byteCells (l.take (4096 * k))).length ≤ 16777216 := by rw [Lib.byteCells_length, List.length_take]; omega
      unfold maxLen at hp3
      generalize hm : (chunk l k).length = m at *
      have HM := Lib.hid hm
      have HT := Lib.hid htk
      have HNW := Lib.hid hnews
      clear hm htk hnews
      have d0 : W.cell? ⟨a, 0, none⟩ = some (.slice (some ⟨p, 0, none⟩) n cap) := by rw [hb.cell (p := ⟨a, 0, none⟩) hal, c0]
      have d1 : W.cell? ⟨p, k, none⟩ = some (.slice (some ⟨g, 0, none⟩) m c) := by rw [hb.cell (p := ⟨p, k, none⟩) hp1, hcell]
      go_wp2_with fail
      refine (write_in w.heap.size w.heap.size g m c _ (Lib.byteCells (chunk l k)) _ hk hb.size hg1 (by rw [Lib.byteCells_length, HM.out]) (fun j u hu => by rw [hb.cell (p := (⟨g, 0, none⟩ : Addr).add j) (by unfold Addr.add; split <;> exact hg1)]; exact HNW.out j u hu) (byteCells_one _) (by omega)).mono ?_
      rintro e w2 ⟨rfl, hk2, hb3⟩
      have hb4 := hb.trans hb3
      clear hk hb hb3 d0 d1
      go_wp2
      go_step3
      rw [show ((k : Int) + 1) = ((k + 1 : Nat) : Int) by omega]
      refine ⟨rfl, ⟨hb4, k + 1, _, _, _, _, _, _, _, _, _, _, _, _, _, _, _, _, _, _, _, _, _, _, _, rfl, hp, ?_⟩, ?_⟩
      · rw [← HT.out, Lib.byteCells_append]
        exact hk2
      · simp [intOf]; omega
    · obtain rfl : k = n := by omega
      have d0 : W.cell? ⟨a, 0, none⟩ = some (.slice ao k cap) := by rw [hb.cell (p := ⟨a, 0, none⟩) hal, c0]
      rw [HA.out] at hk
      clear D hp
      go_wp2_with fail
      refine (Try.Builder_String_any w.heap.size w.heap.size l _ (.inr hk) hb.size).mono ?_
      rintro e w2 ⟨rfl, hb3⟩
      have hb4 := hb.trans hb3
      clear hk hb hb3 d0
      go_wp2
      simp only [Exit.jump]
      go_ret
      exact ⟨rfl, hb4⟩
end Go.Proofs.Ytgdaphckgckaaaa.Dk
