/-
  Contract of leave, of package disk: only the first bytes are left, and synced. Conditions: a disk as DiskAt says; no more bytes than there are.
-/
import Derived.Test.YtgdaphckgckaaaaDiskE
import Derived.RegionTactic
namespace Go.Proofs.Ytgdaphckgckaaaa.Dk
open Go.RowKit

set_option maxHeartbeats 4000000 in
set_option maxRecDepth 100000 in
theorem leave_any {B a : Nat} {l : List UInt8} {sy ro : Nat} {h : Bool} {w : World} (D : DiskAt B a l sy ro h w) (size : Nat) (hs : size ≤ l.length) :
    Calls Try.prog 44 #[.pointer (some ⟨a, 0, none⟩), .int .i64 (size : Int)] w fun e w' => e = .returned (.tuple #[]) ∧ DiskAt B a (l.take size) size ro false w' ∧ Far B w w' := by
  obtain ⟨v, vs, D⟩ := D
  have hlen : l.length ≤ 16777216 := Nat.le_trans D.len_le D.ro_le
  obtain ⟨n, hn⟩ : ∃ n, pcs l.length = n := ⟨_, rfl⟩
  have hn2 : n ≤ 4096 := by rw [← hn]; unfold pcs; omega
  have hcne : ∀ k, k < n → chunk l k ≠ [] := fun k hk => chunk_ne l k (by rw [hn]; exact hk)
  have hm : pcs size ≤ n := by rw [← hn]; unfold pcs; omega
  have HC := Lib.hid hcne
  rw [hn] at D
  clear hn hcne
  obtain ⟨ao, cap, hv⟩ := own_form D.row
  subst hv
  have hk := Dropped.start (B := B) D.row
  have htn : n ≤ n := Nat.le_refl n
  obtain ⟨c0, -⟩ := D.head.cells
  go_enter Try.func44, Try.ntmps44
  go_wp2
  refine wp_scope_jumps 0 (fun a' W => ∃ (t : Nat) (u2 u3 u5 u6 u7 u8 u9 u10 u11 u12 u13 u14 u15 u16 u17 u18 u19 u20 u21 u22 u23 u24 u25 u26 u27 u28 u29 u30 u31 u32 u33 u34 u35 u36 u37 u38 u39 u40 u41 u42 u43 u44 u45 u46 u47 u48 u49 u50 u51 u52 u53 u54 u55 u56 u57 u58 u59 u60 u61 u62 u63 u64 u65 u66 : Value), Dropped B (.slice ao n cap) n vs w t W ∧ a' = { tmps := #[.pointer (some ⟨a, 0, none⟩), .int .i64 (size : Int), u2, u3, .int .i64 (t : Int), u5, u6, u7, u8, u9, u10, u11, u12, u13, u14, u15, u16, u17, u18, u19, u20, u21, u22, u23, u24, u25, u26, u27, u28, u29, u30, u31, u32, u33, u34, u35, u36, u37, u38, u39, u40, u41, u42, u43, u44, u45, u46, u47, u48, u49, u50, u51, u52, u53, u54, u55, u56, u57, u58, u59, u60, u61, u62, u63, u64, u65, u66], defers := [] } ∧ pcs size ≤ t ∧ t ≤ n) (fun a' _ => (intOf (a'.tmps.getD 4 undef)).toNat) rfl ?_ ?_
  · skip
    have hH := D.head_of hk
    obtain ⟨d0, d1, d2, -, d4⟩ := hH.cells
    have f0 := hH.free 0
    have f1 := hH.free 1
    have f2 := hH.free 2
    have f4 := hH.free 4
    rcases Nat.eq_zero_or_pos n with h0 | h0
    · subst h0
      have hz : size = 0 := by have := hm; unfold pcs at this; omega
      subst hz
      go_wp2
      go_step3
      go_wp2
      simp only [Exit.jump]
      go_end0
      have := D.emptied hk
      exact ⟨rfl, by rw [List.take_zero]; exact this.1, this.2⟩
    · obtain ⟨j, rfl⟩ : ∃ j, n = j + 1 := ⟨n - 1, by omega⟩
      clear h0
      obtain ⟨p, g, c, rfl, hpa, hmc, hcm, hlc, hcm2, hu, hcell, hfz⟩ := D.place hk j (Nat.lt_succ_self j) htn (HC.out j (by omega))
      have hap : a ≠ p := fun e => hpa e.symm
      have hj0 : (0 : Int) ≤ (j : Int) := by omega
      have hj1 : (j : Int) < (j + 1 : Nat) := by omega
      have hj2 : j ≤ 4096 := by omega
      unfold maxLen at hcm hcm2
      by_cases hag : size ≤ 4096 * j
      · have ht1 : (size : Int) ≤ (j : Int) * 4096 := by omega
        have hk2 := hk.step (j := j) (Nat.lt_succ_self j)
        have HU := Lib.hid hu
        have hcl : (chunk l j).length ≤ 4096 := by rw [chunk_length]; omega
        generalize (chunk l j).length = q at *
        clear hu
        go_wp2
        go_step3
        go_wp2
        go_step3
        refine ⟨rfl, j, _, _, _, _, _, _, _, _, _, _, _, _, _, _, _, _, _, _, _, _, _, _, _, _, _, _, _, _, _, _, _, _, _, _, _, _, _, _, _, _, _, _, _, _, _, _, _, _, _, _, _, _, _, _, _, _, _, _, _, _, _, _, _, _, hk2, rfl, by have := hm; unfold pcs at this ⊢; omega, by omega⟩
      · have ht1 : (j : Int) * 4096 < (size : Int) := by omega
        obtain ⟨q, hq⟩ : ∃ q, size - 4096 * j = q := ⟨_, rfl⟩
        have hq1 : (size : Int) - (j : Int) * 4096 = (q : Int) := by omega
        have hcl := chunk_length l j
        have hsz : size ≤ 4096 * (j + 1) := by have := hm; unfold pcs at this; omega
        have hqc : q ≤ c := by omega
        have hqc1 : (q : Int) ≤ (c : Int) := by omega
        have hend := D.left j size hk htn (by omega) hsz hs hu
        rw [hq] at hend
        have HE := Lib.hid hend
        have HU := Lib.hid hu
        have hqz : 1 ≤ q := by omega
        have hcl : (chunk l j).length ≤ 4096 := by omega
        generalize (chunk l j).length = r at *
        clear hu hq hend
        go_wp2
        go_step3
        go_wp2
        go_region
        go_wp2
        simp only [Exit.jump]
        go_end0
        exact ⟨rfl, HE.out.1, HE.out.2⟩
  · clear hm htn hk
    rintro a' W ⟨t, u2, u3, u5, u6, u7, u8, u9, u10, u11, u12, u13, u14, u15, u16, u17, u18, u19, u20, u21, u22, u23, u24, u25, u26, u27, u28, u29, u30, u31, u32, u33, u34, u35, u36, u37, u38, u39, u40, u41, u42, u43, u44, u45, u46, u47, u48, u49, u50, u51, u52, u53, u54, u55, u56, u57, u58, u59, u60, u61, u62, u63, u64, u65, u66, hk, rfl, hm, htn⟩
    have hH := D.head_of hk
    obtain ⟨d0, d1, d2, -, d4⟩ := hH.cells
    have f0 := hH.free 0
    have f1 := hH.free 1
    have f2 := hH.free 2
    have f4 := hH.free 4
    rcases Nat.eq_zero_or_pos t with h0 | h0
    · subst h0
      have hz : size = 0 := by have := hm; unfold pcs at this; omega
      subst hz
      go_wp2
      simp only [Exit.jump]
      go_end0
      have := D.emptied hk
      exact ⟨rfl, by rw [List.take_zero]; exact this.1, this.2⟩
    · obtain ⟨j, rfl⟩ : ∃ j, t = j + 1 := ⟨t - 1, by omega⟩
      clear h0
      obtain ⟨p, g, c, rfl, hpa, hmc, hcm, hlc, hcm2, hu, hcell, hfz⟩ := D.place hk j (Nat.lt_succ_self j) htn (HC.out j (by omega))
      have hap : a ≠ p := fun e => hpa e.symm
      have hj0 : (0 : Int) ≤ (j : Int) := by omega
      have hj1 : (j : Int) < (n : Nat) := by omega
      have hj2 : j ≤ 4096 := by omega
      unfold maxLen at hcm hcm2
      by_cases hag : size ≤ 4096 * j
      · have ht1 : (size : Int) ≤ (j : Int) * 4096 := by omega
        have hk2 := hk.step (j := j) (Nat.lt_succ_self j)
        have HU := Lib.hid hu
        have hcl : (chunk l j).length ≤ 4096 := by rw [chunk_length]; omega
        generalize (chunk l j).length = q at *
        clear hu
        go_wp2
        go_step3
        refine ⟨rfl, ⟨j, _, _, _, _, _, _, _, _, _, _, _, _, _, _, _, _, _, _, _, _, _, _, _, _, _, _, _, _, _, _, _, _, _, _, _, _, _, _, _, _, _, _, _, _, _, _, _, _, _, _, _, _, _, _, _, _, _, _, _, _, _, _, _, _, hk2, rfl, by have := hm; unfold pcs at this ⊢; omega, by omega⟩, ?_⟩
        simp [intOf]
      · have ht1 : (j : Int) * 4096 < (size : Int) := by omega
        obtain ⟨q, hq⟩ : ∃ q, size - 4096 * j = q := ⟨_, rfl⟩
        have hq1 : (size : Int) - (j : Int) * 4096 = (q : Int) := by omega
        have hcl := chunk_length l j
        have hsz : size ≤ 4096 * (j + 1) := by have := hm; unfold pcs at this; omega
        have hqc : q ≤ c := by omega
        have hqc1 : (q : Int) ≤ (c : Int) := by omega
        have hend := D.left j size hk htn (by omega) hsz hs hu
        rw [hq] at hend
        have HE := Lib.hid hend
        have HU := Lib.hid hu
        have hqz : 1 ≤ q := by omega
        have hcl : (chunk l j).length ≤ 4096 := by omega
        generalize (chunk l j).length = r at *
        clear hu hq hend
        go_wp2
        go_region
        go_wp2
        simp only [Exit.jump]
        go_end0
        exact ⟨rfl, HE.out.1, HE.out.2⟩
end Go.Proofs.Ytgdaphckgckaaaa.Dk
